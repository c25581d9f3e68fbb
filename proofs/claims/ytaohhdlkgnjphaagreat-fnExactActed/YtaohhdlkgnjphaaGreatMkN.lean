/- Marks in the rows of a node and in messages, and what is found of them. -/
import Derived.Test.YtaohhdlkgnjphaaGreatNToP
namespace Go.Proofs.YtaohhdlkgnjphaaGreat
open Go.Value renaming int → J, slice → V
open Go.IntKind renaming i64 → Z
open Go.ChangeShapes Go.WideShapes Go.ChangeAt Go.RowKit
set_option linter.unusedVariables false
set_option maxRecDepth 100000
def mkC (q : Int) (n : Nat) : List Prc := (List.range n).map fun (i : Nat) => ⟨q + 2 * (i : Int), q + 2 * (i : Int) + 1⟩
theorem mkC_len (q : Int) (n : Nat) : (mkC q n).length = n := by simp [mkC]
theorem mkC_at (q : Int) (n : Nat) (i : Nat) (h : i < n) : (mkC q n)[i]? = some ⟨q + 2 * (i : Int), q + 2 * (i : Int) + 1⟩ := by
 simp [mkC, List.getElem?_range h]
set_option maxHeartbeats 4000000 in
theorem markC_own (a : Option Addr) (l : List Prc) (cap g : Nat) (q : Int) (w : World) (hn : l.length ≤ 1048576) (hq : 0 ≤ q ∧ q ≤ 1000000000000000) (h : OwnRow 2 prcCells w g a cap l) :
  Calls Tryz.prog 70 #[V a l.length cap, J Z q] w fun e w' => e = .returned (J Z (q + 2 * (l.length : Int))) ∧ Turned g w w' ∧ OwnRow 2 prcCells w' g a cap (mkC q l.length) := by
 have HL : Hid _ := hide h
 clear h
 obtain ⟨q0, q1⟩ := hq
 by_cases h0 : 0 < l.length
 ·have HO : Hid _ := hide (mid_of_own prcLen (by decide) (cells := fun i => ((mkC q l.length)[i]?).elim [] prcCells) HL.out h0)
  obtain ⟨rfl, _⟩ := HL.out.own h0
  go_enter Tryz.func70, Tryz.ntmps70
  go_wp2
  go_loopw [1, 5] (fun s i wr => ∃ k : Nat, k ≤ l.length ∧ i = J Z (k : Int) ∧ s = J Z (q + 2 * (k : Int)) ∧ Hid (Turned g w wr) ∧ Hid (RowMid g l.length 2 (fun i => ((mkC q l.length)[i]?).elim [] prcCells) k wr)) (fun s i wr => l.length - (intOf i).toNat)
  case atStart => exact ⟨0, Nat.zero_le _, rfl, by simp, hide (Turned.refl _ _), HO⟩
  case round =>
   obtain ⟨k, hk, rfl, rfl, HT, HM⟩ := hrel
   by_cases hlt : k < l.length
   ·have hlt' : (k : Int) < (l.length : Int) := by omega
    have hM1 := HM.out
    have HP : Hid _ := hide (((hM1.put).set hlt (by decide) (v := J Z (q + 2 * (k : Int))) (by simp [mkC_at q _ k hlt, prcCells]) rfl).set hlt (by decide) (v := J Z (q + 2 * (k : Int) + 1)) (by simp [mkC_at q _ k hlt, prcCells]) rfl).whole
    have HT2 : Hid _ := hide ((HT.out.setCell (o := k * 2 + 0) (J Z (q + 2 * (k : Int)))).setCell (o := k * 2 + 1) (J Z (q + 2 * (k : Int) + 1)))
    obtain ⟨v0, f0⟩ := hM1.there (k * 2 + 0) (by omega)
    have z0 := hM1.free (k * 2 + 0)
    obtain ⟨v1, f1⟩ := hM1.there (k * 2 + 1) (by omega)
    have z1 := hM1.free (k * 2 + 1)
    simp only [Nat.add_zero] at f0 z0
    clear hM1
    have e3 : q + 2 * (k : Int) + 1 + 1 = q + 2 * ((k + 1 : Nat) : Int) := by omega
    go_wp2
    exact ⟨⟨k + 1, by omega, by go_num, by go_num, HT2, HP⟩, by simp [intOf]; omega⟩
   ·have hk' : ¬ (k : Int) < (l.length : Int) := by omega
    have HE : Hid (((.returned (J Z (q + 2 * (k : Int))) : Ending) = .returned (J Z (q + 2 * (l.length : Int)))) ∧ Turned g w wr ∧ OwnRow 2 prcCells wr g (some ⟨g, 0, none⟩) cap (mkC q l.length)) := hide (by
     have M := HM.out
     have ek : k = l.length := by omega
     subst ek
     have O := own_of_mid (l := mkC q l.length) prcLen (by rw [mkC_len]; exact M) (cap := cap) (by rw [mkC_len]; exact HL.out.room)
     exact ⟨rfl, HT.out, O⟩)
    go_wp2
    go_ret
    exact HE.out
 ·have hz : l = [] := List.eq_nil_of_length_eq_zero (by omega)
  subst hz
  go_enter Tryz.func70, Tryz.ntmps70
  go_wp2
  refine wp_loop_rounds 1 ?_
  rw [rounds_succ]
  go_wp2
  go_ret
  exact ⟨by simp, Turned.refl _ _, OwnRow.nil HL.out.nocap⟩
theorem markC_pool (a : Option Addr) (l : List Prc) (cap : Nat) (q : Int) (w : World) (hn : l.length ≤ 1048576) (hq : 0 ≤ q ∧ q ≤ 1000000000000000) (st : Star [orow 2 prcCells a cap l] w) :
  Calls Tryz.prog 70 #[V a l.length cap, J Z q] w fun e w' => e = .returned (J Z (q + 2 * (l.length : Int))) ∧ Pool (fps [orow 2 prcCells a cap l]) w [[orow 2 prcCells a cap (mkC q l.length)]] w' := by
 have ho : OwnRow 2 prcCells w (gOf a) a cap l := st.all (orow 2 prcCells a cap l) (by simp)
 by_cases h0 : l.length = 0
 ·have hz : l = [] := List.eq_nil_of_length_eq_zero h0
  subst hz
  refine (markC_own a [] cap w.heap.size q w hn hq (OwnRow.nil ho.nocap)).mono ?_
  rintro e w1 ⟨rfl, ht, ho1⟩
  refine ⟨rfl, (Pool.of st).step (i := 0) rfl (Fr.below ⟨ht.os, ht.tape, ht.output, by rw [ht.size]; exact Nat.le_refl _, fun k hk => ht.block k (by omega)⟩) ?_ (fun b hb => by simp [fps_one, orow_fp, mkC_len] at hb)⟩
  exact (Star.ofOrow ho1).1
 ·refine (markC_own a l cap (gOf a) q w hn hq ho).mono ?_
  rintro e w1 ⟨rfl, ht, ho1⟩
  have hf : fps [orow 2 prcCells a cap l] = [gOf a] := by rw [fps_one, orow_fp, if_neg h0]
  refine ⟨rfl, (Pool.of st).step (i := 0) rfl (by rw [hf]; exact Fr.turned ht) (Star.ofOrow ho1).1 (fun b hb => .inl ?_)⟩
  rw [hf, (Star.ofOrow ho1).2 b hb]
  simp
set_option maxHeartbeats 4000000 in
theorem heldC_any (a : Option Addr) (n cap : Nat) (q : Int) (w : World) (hn : n ≤ 1048576) (hq : 0 ≤ q ∧ q ≤ 1000000000000000) (h : RowAt 2 prcCells w a (mkC q n)) :
  Calls Tryz.prog 71 #[V a n cap, J Z q] w fun e w' => e = .returned (J Z (q + 2 * (n : Int))) ∧ w' = w := by
 have HL : Hid _ := hide h
 clear h
 obtain ⟨q0, q1⟩ := hq
 go_enter Tryz.func71, Tryz.ntmps71
 go_wp2
 go_loop [1, 5] (fun s i => ∃ k : Nat, k ≤ n ∧ i = J Z (k : Int) ∧ s = J Z (q + 2 * (k : Int))) (fun s i => n - (intOf i).toNat)
 case atStart => exact ⟨0, Nat.zero_le _, rfl, by simp⟩
 case round =>
  obtain ⟨k, hk, rfl, rfl⟩ := hrel
  by_cases hlt : k < n
  ·have hlt' : (k : Int) < (n : Int) := by omega
   have hk2 : k < (mkC q n).length := by rw [mkC_len]; exact hlt
   obtain ⟨b, off, rfl, hb, DD⟩ := prc_row HL.out k hk2
   have eg : (mkC q n)[k] = ⟨q + 2 * (k : Int), q + 2 * (k : Int) + 1⟩ := by
    have := mkC_at q n k hlt
    rw [List.getElem?_eq_getElem hk2] at this
    simpa using this
   rw [eg] at DD
   obtain ⟨d0, d1⟩ := DD
   clear eg
   have e3 : q + 2 * (k : Int) + 1 + 1 = q + 2 * ((k + 1 : Nat) : Int) := by omega
   go_wp2
   exact ⟨⟨k + 1, by omega, by go_num, by go_num⟩, by simp [intOf]; omega⟩
  ·have hk' : ¬ (k : Int) < (n : Int) := by omega
   have HE : Hid (k = n) := hide (by omega)
   go_wp2
   go_ret
   exact ⟨by rw [HE.out]; rfl, rfl⟩
def mkS (q : Int) (n : Nat) : List Sn := (List.range n).map fun (i : Nat) => ⟨q + 2 * (i : Int), q + 2 * (i : Int) + 1⟩
theorem mkS_len (q : Int) (n : Nat) : (mkS q n).length = n := by simp [mkS]
theorem mkS_at (q : Int) (n : Nat) (i : Nat) (h : i < n) : (mkS q n)[i]? = some ⟨q + 2 * (i : Int), q + 2 * (i : Int) + 1⟩ := by
 simp [mkS, List.getElem?_range h]
set_option maxHeartbeats 4000000 in
theorem markS_own (a : Option Addr) (l : List Sn) (cap g : Nat) (q : Int) (w : World) (hn : l.length ≤ 1048576) (hq : 0 ≤ q ∧ q ≤ 1000000000000000) (h : OwnRow 2 snCells w g a cap l) :
  Calls Tryz.prog 35 #[V a l.length cap, J Z q] w fun e w' => e = .returned (J Z (q + 2 * (l.length : Int))) ∧ Turned g w w' ∧ OwnRow 2 snCells w' g a cap (mkS q l.length) := by
 have HL : Hid _ := hide h
 clear h
 obtain ⟨q0, q1⟩ := hq
 by_cases h0 : 0 < l.length
 ·have HO : Hid _ := hide (mid_of_own snLen (by decide) (cells := fun i => ((mkS q l.length)[i]?).elim [] snCells) HL.out h0)
  obtain ⟨rfl, _⟩ := HL.out.own h0
  go_enter Tryz.func35, Tryz.ntmps35
  go_wp2
  go_loopw [1, 5] (fun s i wr => ∃ k : Nat, k ≤ l.length ∧ i = J Z (k : Int) ∧ s = J Z (q + 2 * (k : Int)) ∧ Hid (Turned g w wr) ∧ Hid (RowMid g l.length 2 (fun i => ((mkS q l.length)[i]?).elim [] snCells) k wr)) (fun s i wr => l.length - (intOf i).toNat)
  case atStart => exact ⟨0, Nat.zero_le _, rfl, by simp, hide (Turned.refl _ _), HO⟩
  case round =>
   obtain ⟨k, hk, rfl, rfl, HT, HM⟩ := hrel
   by_cases hlt : k < l.length
   ·have hlt' : (k : Int) < (l.length : Int) := by omega
    have hM1 := HM.out
    have HP : Hid _ := hide (((hM1.put).set hlt (by decide) (v := J Z (q + 2 * (k : Int))) (by simp [mkS_at q _ k hlt, snCells]) rfl).set hlt (by decide) (v := J Z (q + 2 * (k : Int) + 1)) (by simp [mkS_at q _ k hlt, snCells]) rfl).whole
    have HT2 : Hid _ := hide ((HT.out.setCell (o := k * 2 + 0) (J Z (q + 2 * (k : Int)))).setCell (o := k * 2 + 1) (J Z (q + 2 * (k : Int) + 1)))
    obtain ⟨v0, f0⟩ := hM1.there (k * 2 + 0) (by omega)
    have z0 := hM1.free (k * 2 + 0)
    obtain ⟨v1, f1⟩ := hM1.there (k * 2 + 1) (by omega)
    have z1 := hM1.free (k * 2 + 1)
    simp only [Nat.add_zero] at f0 z0
    clear hM1
    have e3 : q + 2 * (k : Int) + 1 + 1 = q + 2 * ((k + 1 : Nat) : Int) := by omega
    go_wp2
    exact ⟨⟨k + 1, by omega, by go_num, by go_num, HT2, HP⟩, by simp [intOf]; omega⟩
   ·have hk' : ¬ (k : Int) < (l.length : Int) := by omega
    have HE : Hid (((.returned (J Z (q + 2 * (k : Int))) : Ending) = .returned (J Z (q + 2 * (l.length : Int)))) ∧ Turned g w wr ∧ OwnRow 2 snCells wr g (some ⟨g, 0, none⟩) cap (mkS q l.length)) := hide (by
     have M := HM.out
     have ek : k = l.length := by omega
     subst ek
     have O := own_of_mid (l := mkS q l.length) snLen (by rw [mkS_len]; exact M) (cap := cap) (by rw [mkS_len]; exact HL.out.room)
     exact ⟨rfl, HT.out, O⟩)
    go_wp2
    go_ret
    exact HE.out
 ·have hz : l = [] := List.eq_nil_of_length_eq_zero (by omega)
  subst hz
  go_enter Tryz.func35, Tryz.ntmps35
  go_wp2
  refine wp_loop_rounds 1 ?_
  rw [rounds_succ]
  go_wp2
  go_ret
  exact ⟨by simp, Turned.refl _ _, OwnRow.nil HL.out.nocap⟩
theorem markS_pool (a : Option Addr) (l : List Sn) (cap : Nat) (q : Int) (w : World) (hn : l.length ≤ 1048576) (hq : 0 ≤ q ∧ q ≤ 1000000000000000) (st : Star [orow 2 snCells a cap l] w) :
  Calls Tryz.prog 35 #[V a l.length cap, J Z q] w fun e w' => e = .returned (J Z (q + 2 * (l.length : Int))) ∧ Pool (fps [orow 2 snCells a cap l]) w [[orow 2 snCells a cap (mkS q l.length)]] w' := by
 have ho : OwnRow 2 snCells w (gOf a) a cap l := st.all (orow 2 snCells a cap l) (by simp)
 by_cases h0 : l.length = 0
 ·have hz : l = [] := List.eq_nil_of_length_eq_zero h0
  subst hz
  refine (markS_own a [] cap w.heap.size q w hn hq (OwnRow.nil ho.nocap)).mono ?_
  rintro e w1 ⟨rfl, ht, ho1⟩
  refine ⟨rfl, (Pool.of st).step (i := 0) rfl (Fr.below ⟨ht.os, ht.tape, ht.output, by rw [ht.size]; exact Nat.le_refl _, fun k hk => ht.block k (by omega)⟩) ?_ (fun b hb => by simp [fps_one, orow_fp, mkS_len] at hb)⟩
  exact (Star.ofOrow ho1).1
 ·refine (markS_own a l cap (gOf a) q w hn hq ho).mono ?_
  rintro e w1 ⟨rfl, ht, ho1⟩
  have hf : fps [orow 2 snCells a cap l] = [gOf a] := by rw [fps_one, orow_fp, if_neg h0]
  refine ⟨rfl, (Pool.of st).step (i := 0) rfl (by rw [hf]; exact Fr.turned ht) (Star.ofOrow ho1).1 (fun b hb => .inl ?_)⟩
  rw [hf, (Star.ofOrow ho1).2 b hb]
  simp
set_option maxHeartbeats 4000000 in
theorem heldS_any (a : Option Addr) (n cap : Nat) (q : Int) (w : World) (hn : n ≤ 1048576) (hq : 0 ≤ q ∧ q ≤ 1000000000000000) (h : RowAt 2 snCells w a (mkS q n)) :
  Calls Tryz.prog 37 #[V a n cap, J Z q] w fun e w' => e = .returned (J Z (q + 2 * (n : Int))) ∧ w' = w := by
 have HL : Hid _ := hide h
 clear h
 obtain ⟨q0, q1⟩ := hq
 go_enter Tryz.func37, Tryz.ntmps37
 go_wp2
 go_loop [1, 5] (fun s i => ∃ k : Nat, k ≤ n ∧ i = J Z (k : Int) ∧ s = J Z (q + 2 * (k : Int))) (fun s i => n - (intOf i).toNat)
 case atStart => exact ⟨0, Nat.zero_le _, rfl, by simp⟩
 case round =>
  obtain ⟨k, hk, rfl, rfl⟩ := hrel
  by_cases hlt : k < n
  ·have hlt' : (k : Int) < (n : Int) := by omega
   have hk2 : k < (mkS q n).length := by rw [mkS_len]; exact hlt
   obtain ⟨b, off, rfl, hb, DD⟩ := sn_row HL.out k hk2
   have eg : (mkS q n)[k] = ⟨q + 2 * (k : Int), q + 2 * (k : Int) + 1⟩ := by
    have := mkS_at q n k hlt
    rw [List.getElem?_eq_getElem hk2] at this
    simpa using this
   rw [eg] at DD
   obtain ⟨d0, d1⟩ := DD
   clear eg
   have e3 : q + 2 * (k : Int) + 1 + 1 = q + 2 * ((k + 1 : Nat) : Int) := by omega
   go_wp2
   exact ⟨⟨k + 1, by omega, by go_num, by go_num⟩, by simp [intOf]; omega⟩
  ·have hk' : ¬ (k : Int) < (n : Int) := by omega
   have HE : Hid (k = n) := hide (by omega)
   go_wp2
   go_ret
   exact ⟨by rw [HE.out]; rfl, rfl⟩
def mkM (q : Int) (n : Nat) : List Mg := (List.range n).map fun (i : Nat) => ⟨q + 5 * (i : Int), q + 5 * (i : Int) + 1, q + 5 * (i : Int) + 1 + 1, q + 5 * (i : Int) + 1 + 1 + 1, q + 5 * (i : Int) + 1 + 1 + 1 + 1⟩
theorem mkM_len (q : Int) (n : Nat) : (mkM q n).length = n := by simp [mkM]
theorem mkM_at (q : Int) (n : Nat) (i : Nat) (h : i < n) : (mkM q n)[i]? = some ⟨q + 5 * (i : Int), q + 5 * (i : Int) + 1, q + 5 * (i : Int) + 1 + 1, q + 5 * (i : Int) + 1 + 1 + 1, q + 5 * (i : Int) + 1 + 1 + 1 + 1⟩ := by
 simp [mkM, List.getElem?_range h]
set_option maxHeartbeats 4000000 in
theorem markM_own (a : Option Addr) (l : List Mg) (cap g : Nat) (q : Int) (w : World) (hn : l.length ≤ 1048576) (hq : 0 ≤ q ∧ q ≤ 1000000000000000) (h : OwnRow 5 mgCells w g a cap l) :
  Calls Tryz.prog 12 #[V a l.length cap, J Z q] w fun e w' => e = .returned (J Z (q + 5 * (l.length : Int))) ∧ Turned g w w' ∧ OwnRow 5 mgCells w' g a cap (mkM q l.length) := by
 have HL : Hid _ := hide h
 clear h
 obtain ⟨q0, q1⟩ := hq
 by_cases h0 : 0 < l.length
 ·have HO : Hid _ := hide (mid_of_own mgLen (by decide) (cells := fun i => ((mkM q l.length)[i]?).elim [] mgCells) HL.out h0)
  obtain ⟨rfl, _⟩ := HL.out.own h0
  go_enter Tryz.func12, Tryz.ntmps12
  go_wp2
  go_loopw [1, 5] (fun s i wr => ∃ k : Nat, k ≤ l.length ∧ i = J Z (k : Int) ∧ s = J Z (q + 5 * (k : Int)) ∧ Hid (Turned g w wr) ∧ Hid (RowMid g l.length 5 (fun i => ((mkM q l.length)[i]?).elim [] mgCells) k wr)) (fun s i wr => l.length - (intOf i).toNat)
  case atStart => exact ⟨0, Nat.zero_le _, rfl, by simp, hide (Turned.refl _ _), HO⟩
  case round =>
   obtain ⟨k, hk, rfl, rfl, HT, HM⟩ := hrel
   by_cases hlt : k < l.length
   ·have hlt' : (k : Int) < (l.length : Int) := by omega
    have hM1 := HM.out
    have HP : Hid _ := hide ((((((hM1.put).set hlt (by decide) (v := J Z (q + 5 * (k : Int))) (by simp [mkM_at q _ k hlt, mgCells]) rfl).set hlt (by decide) (v := J Z (q + 5 * (k : Int) + 1)) (by simp [mkM_at q _ k hlt, mgCells]) rfl).set hlt (by decide) (v := J Z (q + 5 * (k : Int) + 1 + 1)) (by simp [mkM_at q _ k hlt, mgCells]) rfl).set hlt (by decide) (v := J Z (q + 5 * (k : Int) + 1 + 1 + 1)) (by simp [mkM_at q _ k hlt, mgCells]) rfl).set hlt (by decide) (v := J Z (q + 5 * (k : Int) + 1 + 1 + 1 + 1)) (by simp [mkM_at q _ k hlt, mgCells]) rfl).whole
    have HT2 : Hid _ := hide (((((HT.out.setCell (o := k * 5 + 0) (J Z (q + 5 * (k : Int)))).setCell (o := k * 5 + 1) (J Z (q + 5 * (k : Int) + 1))).setCell (o := k * 5 + 2) (J Z (q + 5 * (k : Int) + 1 + 1))).setCell (o := k * 5 + 3) (J Z (q + 5 * (k : Int) + 1 + 1 + 1))).setCell (o := k * 5 + 4) (J Z (q + 5 * (k : Int) + 1 + 1 + 1 + 1)))
    obtain ⟨v0, f0⟩ := hM1.there (k * 5 + 0) (by omega)
    have z0 := hM1.free (k * 5 + 0)
    obtain ⟨v1, f1⟩ := hM1.there (k * 5 + 1) (by omega)
    have z1 := hM1.free (k * 5 + 1)
    obtain ⟨v2, f2⟩ := hM1.there (k * 5 + 2) (by omega)
    have z2 := hM1.free (k * 5 + 2)
    obtain ⟨v3, f3⟩ := hM1.there (k * 5 + 3) (by omega)
    have z3 := hM1.free (k * 5 + 3)
    obtain ⟨v4, f4⟩ := hM1.there (k * 5 + 4) (by omega)
    have z4 := hM1.free (k * 5 + 4)
    simp only [Nat.add_zero] at f0 z0
    clear hM1
    have e3 : q + 5 * (k : Int) + 1 + 1 + 1 + 1 + 1 = q + 5 * ((k + 1 : Nat) : Int) := by omega
    go_wp2
    exact ⟨⟨k + 1, by omega, by go_num, by go_num, HT2, HP⟩, by simp [intOf]; omega⟩
   ·have hk' : ¬ (k : Int) < (l.length : Int) := by omega
    have HE : Hid (((.returned (J Z (q + 5 * (k : Int))) : Ending) = .returned (J Z (q + 5 * (l.length : Int)))) ∧ Turned g w wr ∧ OwnRow 5 mgCells wr g (some ⟨g, 0, none⟩) cap (mkM q l.length)) := hide (by
     have M := HM.out
     have ek : k = l.length := by omega
     subst ek
     have O := own_of_mid (l := mkM q l.length) mgLen (by rw [mkM_len]; exact M) (cap := cap) (by rw [mkM_len]; exact HL.out.room)
     exact ⟨rfl, HT.out, O⟩)
    go_wp2
    go_ret
    exact HE.out
 ·have hz : l = [] := List.eq_nil_of_length_eq_zero (by omega)
  subst hz
  go_enter Tryz.func12, Tryz.ntmps12
  go_wp2
  refine wp_loop_rounds 1 ?_
  rw [rounds_succ]
  go_wp2
  go_ret
  exact ⟨by simp, Turned.refl _ _, OwnRow.nil HL.out.nocap⟩
theorem markM_pool (a : Option Addr) (l : List Mg) (cap : Nat) (q : Int) (w : World) (hn : l.length ≤ 1048576) (hq : 0 ≤ q ∧ q ≤ 1000000000000000) (st : Star [orow 5 mgCells a cap l] w) :
  Calls Tryz.prog 12 #[V a l.length cap, J Z q] w fun e w' => e = .returned (J Z (q + 5 * (l.length : Int))) ∧ Pool (fps [orow 5 mgCells a cap l]) w [[orow 5 mgCells a cap (mkM q l.length)]] w' := by
 have ho : OwnRow 5 mgCells w (gOf a) a cap l := st.all (orow 5 mgCells a cap l) (by simp)
 by_cases h0 : l.length = 0
 ·have hz : l = [] := List.eq_nil_of_length_eq_zero h0
  subst hz
  refine (markM_own a [] cap w.heap.size q w hn hq (OwnRow.nil ho.nocap)).mono ?_
  rintro e w1 ⟨rfl, ht, ho1⟩
  refine ⟨rfl, (Pool.of st).step (i := 0) rfl (Fr.below ⟨ht.os, ht.tape, ht.output, by rw [ht.size]; exact Nat.le_refl _, fun k hk => ht.block k (by omega)⟩) ?_ (fun b hb => by simp [fps_one, orow_fp, mkM_len] at hb)⟩
  exact (Star.ofOrow ho1).1
 ·refine (markM_own a l cap (gOf a) q w hn hq ho).mono ?_
  rintro e w1 ⟨rfl, ht, ho1⟩
  have hf : fps [orow 5 mgCells a cap l] = [gOf a] := by rw [fps_one, orow_fp, if_neg h0]
  refine ⟨rfl, (Pool.of st).step (i := 0) rfl (by rw [hf]; exact Fr.turned ht) (Star.ofOrow ho1).1 (fun b hb => .inl ?_)⟩
  rw [hf, (Star.ofOrow ho1).2 b hb]
  simp
set_option maxHeartbeats 4000000 in
theorem heldM_any (a : Option Addr) (n cap : Nat) (q : Int) (w : World) (hn : n ≤ 1048576) (hq : 0 ≤ q ∧ q ≤ 1000000000000000) (h : RowAt 5 mgCells w a (mkM q n)) :
  Calls Tryz.prog 14 #[V a n cap, J Z q] w fun e w' => e = .returned (J Z (q + 5 * (n : Int))) ∧ w' = w := by
 have HL : Hid _ := hide h
 clear h
 obtain ⟨q0, q1⟩ := hq
 go_enter Tryz.func14, Tryz.ntmps14
 go_wp2
 go_loop [1, 5] (fun s i => ∃ k : Nat, k ≤ n ∧ i = J Z (k : Int) ∧ s = J Z (q + 5 * (k : Int))) (fun s i => n - (intOf i).toNat)
 case atStart => exact ⟨0, Nat.zero_le _, rfl, by simp⟩
 case round =>
  obtain ⟨k, hk, rfl, rfl⟩ := hrel
  by_cases hlt : k < n
  ·have hlt' : (k : Int) < (n : Int) := by omega
   have hk2 : k < (mkM q n).length := by rw [mkM_len]; exact hlt
   obtain ⟨b, off, rfl, hb, DD⟩ := mg_row HL.out k hk2
   have eg : (mkM q n)[k] = ⟨q + 5 * (k : Int), q + 5 * (k : Int) + 1, q + 5 * (k : Int) + 1 + 1, q + 5 * (k : Int) + 1 + 1 + 1, q + 5 * (k : Int) + 1 + 1 + 1 + 1⟩ := by
    have := mkM_at q n k hlt
    rw [List.getElem?_eq_getElem hk2] at this
    simpa using this
   rw [eg] at DD
   obtain ⟨d0, d1, d2, d3, d4⟩ := DD
   clear eg
   have e3 : q + 5 * (k : Int) + 1 + 1 + 1 + 1 + 1 = q + 5 * ((k + 1 : Nat) : Int) := by omega
   go_wp2
   exact ⟨⟨k + 1, by omega, by go_num, by go_num⟩, by simp [intOf]; omega⟩
  ·have hk' : ¬ (k : Int) < (n : Int) := by omega
   have HE : Hid (k = n) := hide (by omega)
   go_wp2
   go_ret
   exact ⟨by rw [HE.out]; rfl, rfl⟩
end Go.Proofs.YtaohhdlkgnjphaaGreat
