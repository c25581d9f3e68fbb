/- The contracts of the laws' toInt64S, eqInt64S, markInt64S. -/
import Derived.Test.YtacbcmgpknhgdaaGreatDkC1
import Derived.Test.YtacbcmgpknhgdaaGreatDkK1
import Derived.BigQuiet
namespace Go.Proofs.YtacbcmgpknhgdaaGreat
open Go.ChangeShapes Go.WideShapes Go.ChangeAt Go.RowKit
set_option linter.unusedVariables false
set_option maxRecDepth 100000
theorem infoI : (Tryz.prog.info? 2).map (fun i => (i.zero, i.size, i.bytes)) = some (some (.int .i64 0), 1, 8) := by kernel_rfl
set_option maxHeartbeats 4000000 in
theorem toInt64S_any (a : Option Addr) (l : List Int) (cap : Nat) (w : World) (hn : l.length ≤ 1048576) (h : RowAt 1 i64Cells w a l) :
    Calls Tryz.prog 16 #[.slice a l.length cap] w fun e w' => ToS 1 i64Cells l w e w' := by
  obtain ⟨i0, hi, hz0, hz1, hz2⟩ := info_parts infoI
  have HL : Hid _ := hide h
  clear h
  have uS : Tryz.prog.underlying 42 = some (.slice 2) := by kernel_rfl
  go_enter Tryz.func16, Tryz.ntmps16
  go_wp2_with (first | (at_make; refine Shut2.mk ?_) | go_in)
  refine Shut2.mk' ?_
  refine wpList_make_full _ rfl _ _ 42 rfl w.heap.size 2 i0 _ 1 uS hi hz0 hz1 .i64 .i64 _ _ l.length rfl rfl rfl rfl (by rw [hz2]; omega) (by unfold maxLen; omega) (Nat.le_refl _) ?_
  intro w0 hown hgrow
  have HB0 : Hid (Below w.heap.size w w0) := hide ((Below.refl _ _).grown hgrow (Nat.le_refl _) (fun j hj => by cases hj))
  have HM0 : Hid _ := hide (rowMid_made (cells := (fun i => (l[i]?).elim [] i64Cells)) hown)
  clear hown hgrow
  go_wp2
  go_loopw [4] (fun i wr => ∃ k : Nat, k ≤ l.length ∧ i = .int .i64 (k : Int) ∧ Below w.heap.size w wr ∧ Hid (RowMid w.heap.size l.length 1 (fun i => (l[i]?).elim [] i64Cells) k wr)) (fun i wr => l.length - (intOf i).toNat)
  case atStart => exact ⟨0, Nat.zero_le _, rfl, HB0.out, HM0⟩
  case round =>
    obtain ⟨k, hk, rfl, HB, HM⟩ := hrel
    by_cases hlt : k < l.length
    · obtain ⟨b, off, rfl, hb, d0⟩ := pl_row (HL.out.below HB) k hlt
      have hlt' : (k : Int) < (l.length : Int) := by omega
      have HP : Hid (RowMid w.heap.size l.length 1 (fun i => (l[i]?).elim [] i64Cells) (k + 1) (wr.setCell ⟨w.heap.size, k, none⟩ (.int .i64 l[k]))) := hide (((HM.out.put).set hlt (by decide) (v := .int .i64 l[k]) (by simp [List.getElem?_eq_getElem hlt, i64Cells]) (o := k) (by omega)).whole)
      have HB1 : Hid _ := hide HB
      have hM1 := HM.out
      obtain ⟨v0, f0⟩ := hM1.there k (by omega)
      have z0 := hM1.free k
      clear hM1 HB
      go_wp2
      exact ⟨⟨k + 1, by omega, by go_num, HB1.out.setCell (Nat.le_refl _) _, HP⟩, by simp [intOf]; omega⟩
    · have hk' : ¬ (k : Int) < (l.length : Int) := by omega
      have HE : Hid (ToS 1 i64Cells l w (.returned (.slice (some ⟨w.heap.size, 0, none⟩) l.length l.length)) wr) := hide (by
        have M := HM.out
        rw [show k = l.length by omega] at M
        have O := own_of_mid i64Len M (Nat.le_refl _)
        exact ⟨HB, w.heap.size, rfl, ⟨Nat.le_refl _, M.lt⟩, O⟩)
      go_wp2
      go_ret
      exact HE.out
set_option maxHeartbeats 2000000 in
theorem eqInt64S_any (a c : Option Addr) (l : List Int) (ca cc : Nat) (w : World) (hn : l.length ≤ 1048576) (h : RowAt 1 i64Cells w a l) (h' : RowAt 1 i64Cells w c l) :
    Calls Tryz.prog 18 #[.slice a l.length ca, .slice c l.length cc] w fun e w' => e = .returned (.bool true) ∧ Below w.heap.size w w' := by
  have HL : Hid _ := hide h
  have HL' : Hid _ := hide h'
  clear h h'
  have hln : ((l.length : Int) != (l.length : Int)) = false := by simp
  go_enter Tryz.func18, Tryz.ntmps18
  go_wp2
  go_loopw [5] (fun i wr => ∃ k : Nat, k ≤ l.length ∧ i = .int .i64 (k : Int) ∧ Below w.heap.size w wr) (fun i wr => l.length - (intOf i).toNat)
  case atStart => exact ⟨0, Nat.zero_le _, rfl, Below.refl _ _⟩
  case round =>
    obtain ⟨k, hk, rfl, HB⟩ := hrel
    by_cases hlt : k < l.length
    · obtain ⟨b, off, rfl, hb, d0⟩ := pl_row (HL.out.below HB) k hlt
      obtain ⟨b2, off2, rfl, hc, e0⟩ := pl_row (HL'.out.below HB) k hlt
      have hlt' : (k : Int) < (l.length : Int) := by omega
      have hz : (l[k] != l[k]) = false := by simp
      go_wp2_with fail
      go_quiet (fail)
      go_wp2
      exact ⟨⟨k + 1, by omega, by go_num, below_drewN HB _⟩, by simp [intOf]; omega⟩
    · have hk' : ¬ (k : Int) < (l.length : Int) := by omega
      go_wp2
      go_ret
      exact ⟨rfl, HB⟩
def imarkL (q : Int) (n : Nat) : List Int := (List.range n).map fun (i : Nat) => q + (i : Int)
theorem imarkL_len (q : Int) (n : Nat) : (imarkL q n).length = n := by simp [imarkL]
theorem imarkL_at (q : Int) (n : Nat) (i : Nat) (h : i < n) : (imarkL q n)[i]? = some (q + (i : Int)) := by
  simp [imarkL, List.getElem?_range h]
theorem imarkL_get (q : Int) (n : Nat) (i : Nat) (h : i < (imarkL q n).length) : (imarkL q n)[i] = q + (i : Int) := by
  simp [imarkL]
def IMarkEnd (q : Int) (g : Nat) (a : Option Addr) (cap n : Nat) (w : World) (e : Ending) (w' : World) : Prop := e = .returned (.int .i64 (q + (n : Int))) ∧ Chq (0 < n) g w w' ∧ OwnRow 1 i64Cells w' g a cap (imarkL q n)
set_option maxRecDepth 100000 in
set_option maxHeartbeats 4000000 in
theorem markInt64S_any (a : Option Addr) (l : List Int) (cap g : Nat) (q : Int) (w : World) (hn : l.length ≤ 1048576) (hq : 0 ≤ q ∧ q ≤ 100000000) (h : OwnRow 1 i64Cells w g a cap l) :
    Calls Tryz.prog 19 #[.slice a l.length cap, .int .i64 q] w fun e w' => IMarkEnd q g a cap l.length w e w' := by
  have HL : Hid _ := hide h
  clear h
  obtain ⟨q0, q1⟩ := hq
  by_cases h0 : 0 < l.length
  · have HO : Hid _ := hide (mid_of_own i64Len (by decide) (cells := fun i => ((imarkL q l.length)[i]?).elim [] i64Cells) HL.out h0)
    obtain ⟨rfl, _⟩ := HL.out.own h0
    go_enter Tryz.func19, Tryz.ntmps19
    go_wp2
    go_loopw [1, 5] (fun s i wr => ∃ k : Nat, k ≤ l.length ∧ i = .int .i64 (k : Int) ∧ s = .int .i64 (q + (k : Int)) ∧ Hid (Chq (0 < l.length) g w wr) ∧ Hid (RowMid g l.length 1 (fun i => ((imarkL q l.length)[i]?).elim [] i64Cells) k wr)) (fun s i wr => l.length - (intOf i).toNat)
    case atStart => exact ⟨0, Nat.zero_le _, rfl, by simp, hide (Chq.refl _ _ _), HO⟩
    case round =>
      obtain ⟨k, hk, rfl, rfl, HT, HM⟩ := hrel
      by_cases hlt : k < l.length
      · have hlt' : (k : Int) < (l.length : Int) := by omega
        have hM1 := HM.out
        have HP : Hid (RowMid g l.length 1 (fun i => ((imarkL q l.length)[i]?).elim [] i64Cells) (k + 1) (wr.setCell ⟨g, k, none⟩ (.int .i64 (q + (k : Int))))) := hide (((hM1.put).set hlt (by decide) (v := .int .i64 (q + (k : Int))) (by simp [imarkL_at q _ k hlt, i64Cells]) (o := k) (by omega)).whole)
        have HT2 : Hid _ := hide (HT.out.setCell h0 (o := k) (.int .i64 (q + (k : Int))))
        obtain ⟨v0, f0⟩ := hM1.there k (by omega)
        have z0 := hM1.free k
        clear hM1
        go_wp2
        exact ⟨⟨k + 1, by omega, by go_num, by go_num, HT2, HP⟩, by simp [intOf]; omega⟩
      · have hk' : ¬ (k : Int) < (l.length : Int) := by omega
        have HE : Hid (IMarkEnd q g (some ⟨g, 0, none⟩) cap l.length w (.returned (.int .i64 (q + (k : Int)))) wr) := hide (by
          have M := HM.out
          have ek : k = l.length := by omega
          subst ek
          have O := own_of_mid (l := imarkL q l.length) i64Len (by rw [imarkL_len]; exact M) (cap := cap) (by rw [imarkL_len]; exact HL.out.room)
          exact ⟨rfl, HT.out, O⟩)
        go_wp2
        go_ret
        exact HE.out
  · have hz : l = [] := List.eq_nil_of_length_eq_zero (by omega)
    subst hz
    go_enter Tryz.func19, Tryz.ntmps19
    go_wp2
    refine wp_loop_rounds 1 ?_
    rw [rounds_succ]
    go_wp2
    go_ret
    exact ⟨by simp, Chq.refl _ _ _, OwnRow.nil⟩
end Go.Proofs.YtacbcmgpknhgdaaGreat
