/- The contracts of cmp.Compare and of slices.BinarySearchFunc over what was answered. -/
import Derived.Test.YtkcpoibhlnjldaaBb
namespace Go.Proofs.Ytkcpoibhlnjldaa
open Go.Value renaming int → J, slice → V
open Go.IntKind renaming i64 → Z
open Go.ChangeShapes Go.WideShapes Go.ChangeAt Go.RowKit
set_option linter.unusedVariables false
set_option maxRecDepth 100000
def cmpI (x y : Int) : Int := if x < y then -1 else if y < x then 1 else 0
set_option maxHeartbeats 2000000 in
theorem compare_any (x y : Int) (w : World) : Calls Try.prog 60 #[J Z x, J Z y] w fun e w' => e = .returned (J Z (cmpI x y)) ∧ w' = w := by
 by_cases q1 : x < y
 ·have HR : Hid (cmpI x y = -1) := hide (by simp [cmpI, q1])
  have q2 : ¬ y < x := by omega
  go_enter Try.func60, Try.ntmps60
  go_wp2
  go_ret
  rw [HR.out]
  exact ⟨rfl, rfl⟩
 ·by_cases q2 : y < x
  ·have HR : Hid (cmpI x y = 1) := hide (by simp [cmpI, q1, q2])
   go_enter Try.func60, Try.ntmps60
   go_wp2
   go_ret
   rw [HR.out]
   exact ⟨rfl, rfl⟩
  ·have HR : Hid (cmpI x y = 0) := hide (by simp [cmpI, q1, q2])
   go_enter Try.func60, Try.ntmps60
   go_wp2
   go_ret
   rw [HR.out]
   exact ⟨rfl, rfl⟩
set_option maxHeartbeats 2000000 in
theorem once1_any (id code t : Int) (w : World) : Calls Try.prog 59 #[.agg #[J Z id, J Z code], J Z t] w fun e w' => e = .returned (J Z (cmpI id t)) ∧ Below w.heap.size w w' := by
 go_enter Try.func59, Try.ntmps59
 go_wp2_with fail
 refine (compare_any id t _).mono ?_
 rintro e w1 ⟨rfl, rfl⟩
 go_wp2
 go_ret
 exact ⟨rfl, below_alloc (Below.refl _ _) _⟩
/-- numbers that rise -/
def Rises (l : List Sn) : Prop := ∀ i j (hi : i < l.length) (hj : j < l.length), i < j → l[i].id < l[j].id
/-- the place of a number: all ahead of it are less, all from it on are not -/
structure PlaceAt (l : List Sn) (t : Int) (k : Nat) : Prop where
 le : k ≤ l.length
 lo : ∀ j (hj : j < l.length), j < k → l[j].id < t
 hi : ∀ j (hj : j < l.length), k ≤ j → t ≤ l[j].id
def foundB (l : List Sn) (t : Int) (k : Nat) : Bool := match l[k]? with
 | none => false
 | some x => x.id == t
def SearchEnd (l : List Sn) (t : Int) (w : World) (e : Ending) (w' : World) : Prop := Below w.heap.size w w' ∧ ∃ k : Nat, PlaceAt l t k ∧ e = .returned (.tuple #[J Z (k : Int), .bool (foundB l t k)])
set_option maxHeartbeats 4000000 in
theorem search_any (a : Option Addr) (l : List Sn) (cap : Nat) (t : Int) (w : World) (hl : l.length ≤ 1048576) (hr : Rises l) (h : RowAt 2 snCells w a l) :
  Calls Try.prog 58 #[V a l.length cap, J Z t, .func (.func 59) #[] #[]] w fun e w' => SearchEnd l t w e w' := by
 have HL : Hid _ := hide h
 have HR : Hid _ := hide hr
 clear h hr
 go_enter Try.func58, Try.ntmps58
 go_wp2
 go_loopw [9, 10] (fun i j wr => ∃ (lo hi : Nat), lo ≤ hi ∧ hi ≤ l.length ∧ i = J Z (lo : Int) ∧ j = J Z (hi : Int) ∧ Below w.heap.size w wr ∧ Hid ((∀ k (hk : k < l.length), k < lo → l[k].id < t) ∧ (∀ k (hk : k < l.length), hi ≤ k → t ≤ l[k].id))) (fun i j wr => (intOf j).toNat - (intOf i).toNat)
 case atStart => exact ⟨0, l.length, Nat.zero_le _, Nat.le_refl _, rfl, rfl, Below.refl _ _, hide ⟨fun k _ h => by omega, fun k hk h => by omega⟩⟩
 case round =>
  obtain ⟨lo, hi, h1, h2, rfl, rfl, HB, HK⟩ := hrel
  by_cases hlt : lo < hi
  ·have hlt' : (lo : Int) < (hi : Int) := by omega
   obtain ⟨m, hm⟩ : ∃ m, m = (lo + hi) / 2 := ⟨_, rfl⟩
   have hml : m < l.length := by omega
   have hlm : lo ≤ m := by omega
   have hmh : m < hi := by omega
   have em : ((lo : Int) + (hi : Int)) / 2 = (m : Int) := by omega
   have e1 : IntKind.i64.wrap ((lo : Int) + (hi : Int)) = (lo : Int) + (hi : Int) := wrap_in (by omega) (by omega)
   clear hm
   obtain ⟨b, off, rfl, hb, c0, c1⟩ := sn_row (HL.out.below HB) m hml
   have hml' : (m : Int) < (l.length : Int) := by omega
   go_wp2_with fail
   refine (once1_any _ _ t wr).mono ?_
   rintro e w1 ⟨rfl, hb1⟩
   have HB1 : Hid (Below w.heap.size w w1) := hide (below_trans HB hb1)
   clear hb1
   by_cases q : l[m].id < t
   ·have HK2 : Hid ((∀ k (hk : k < l.length), k < m + 1 → l[k].id < t) ∧ (∀ k (hk : k < l.length), hi ≤ k → t ≤ l[k].id)) := hide ⟨fun k hk hkm => by
     rcases Nat.lt_or_ge k m with h | h
     ·have := HR.out k m hk hml h; omega
     ·obtain rfl : k = m := by omega
      exact q, HK.out.2⟩
    have eq : cmpI l[m].id t = -1 := by simp [cmpI, q]
    rw [eq]
    clear eq
    go_wp2
    exact ⟨⟨m + 1, hi, by omega, h2, by go_num, rfl, HB1.out, HK2⟩, by simp [intOf]; omega⟩
   ·have HK2 : Hid ((∀ k (hk : k < l.length), k < lo → l[k].id < t) ∧ (∀ k (hk : k < l.length), m ≤ k → t ≤ l[k].id)) := hide ⟨HK.out.1, fun k hk hkm => by
     rcases Nat.lt_or_ge m k with h | h
     ·have := HR.out m k hml hk h; omega
     ·obtain rfl : k = m := by omega
      omega⟩
    obtain ⟨cv, hcv, hc0⟩ : ∃ cv, cv = cmpI l[m].id t ∧ 0 ≤ cv := ⟨_, rfl, by unfold cmpI; rw [if_neg q]; split <;> omega⟩
    rw [← hcv]
    clear hcv
    have hc1 : ¬ cv < 0 := by omega
    go_wp2
    exact ⟨⟨lo, m, by omega, by omega, rfl, by go_num, HB1.out, HK2⟩, by simp [intOf]; omega⟩
  ·have hlt' : ¬ (lo : Int) < (hi : Int) := by omega
   have hHP : PlaceAt l t lo := ⟨by omega, HK.out.1, fun j hj hlj => HK.out.2 j hj (by omega)⟩
   have HPL : Hid _ := hide hHP
   clear hHP HK
   by_cases hln : lo < l.length
   ·obtain ⟨b, off, rfl, hb, c0, c1⟩ := sn_row (HL.out.below HB) lo hln
    have hln' : (lo : Int) < (l.length : Int) := by omega
    have HF : Hid (foundB l t lo = (l[lo].id == t)) := hide (by simp [foundB, List.getElem?_eq_getElem hln])
    go_wp2_with fail
    refine (once1_any _ _ t _).mono ?_
    rintro e w1 ⟨rfl, hb1⟩
    have HB1 : Hid (Below w.heap.size w w1) := hide (below_trans HB hb1)
    clear hb1
    have q0 := HPL.out.hi lo hln (Nat.le_refl _)
    by_cases q : l[lo].id = t
    ·have eq : cmpI l[lo].id t = 0 := by simp [cmpI, q]
     rw [eq]
     rw [show (l[lo].id == t) = true from by simpa using q] at HF
     clear eq q q0
     go_wp2
     exact bodyPost_ret (v := .tuple #[J Z (lo : Int), .bool true]) (by simp [results, Try.results58, go_sem]) rfl ⟨HB1.out, lo, HPL.out, by rw [HF.out]⟩
    ·have eq : cmpI l[lo].id t = 1 := by unfold cmpI; rw [if_neg (by omega), if_pos (by omega)]
     rw [eq]
     rw [show (l[lo].id == t) = false from by simpa using q] at HF
     clear eq q q0
     go_wp2
     exact bodyPost_ret (v := .tuple #[J Z (lo : Int), .bool false]) (by simp [results, Try.results58, go_sem]) rfl ⟨HB1.out, lo, HPL.out, by rw [HF.out]⟩
   ·have hln' : ¬ (lo : Int) < (l.length : Int) := by omega
    have HF : Hid (foundB l t lo = false) := hide (by simp [foundB, List.getElem?_eq_none (show l.length ≤ lo by omega)])
    go_wp2
    exact bodyPost_ret (v := .tuple #[J Z (lo : Int), .bool false]) (by simp [results, Try.results58, go_sem]) rfl ⟨HB, lo, HPL.out, by rw [HF.out]⟩
end Go.Proofs.Ytkcpoibhlnjldaa
