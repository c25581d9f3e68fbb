/- Slots as data, how they lie in memory, and the contracts of the small helpers: within, numberOk, l1In, l4Find, l4Sum, together, slotPlace. -/
import Derived.Test.YtilacamcedjbmaaRows
import Derived.WalkKit
import Derived.ProofKit
import Derived.OpenShut
import Derived.ShutString
import Derived.WalkSpells
import Derived.WalkLawsBesides
import Derived.Below
namespace Go.Proofs.Ytilacamcedjbmaa
open Go.ChangeShapes Go.WideShapes Go.ChangeAt Go.RowKit
set_option linter.unusedVariables false
theorem hide {p : Prop} (h : p) : Hid p := h
structure Slt where
  id : Int
  up : Int
  has : Int
/-- an int64 -/
def I64 (n : Int) : Prop := -9223372036854775808 ≤ n ∧ n ≤ 9223372036854775807
def SlotAt (w : World) (a : Option Addr) (l : List Slt) : Prop :=
  ∀ i (h : i < l.length), ∃ b off, a = some ⟨b, off, none⟩ ∧ b < w.heap.size ∧ w.cell? ⟨b, off + i * 3, none⟩ = some (.int .i64 l[i].id) ∧ w.cell? ⟨b, off + i * 3 + 1, none⟩ = some (.int .i64 l[i].up) ∧
    w.cell? ⟨b, off + i * 3 + 2, none⟩ = some (.int .i64 l[i].has) ∧ I64 l[i].id ∧ I64 l[i].up ∧ I64 l[i].has
theorem SlotAt.below {w w' : World} {a : Option Addr} {l : List Slt} (h : SlotAt w a l) (k : Below w.heap.size w w') : SlotAt w' a l := fun i hi => by
  obtain ⟨b, off, e, hb, h0, h1, h2, r⟩ := h i hi
  have := k.size
  exact ⟨b, off, e, by omega, by rw [k.cell (by exact hb)]; exact h0, by rw [k.cell (by exact hb)]; exact h1, by rw [k.cell (by exact hb)]; exact h2, r⟩
theorem SlotAt.take {w : World} {a : Option Addr} {l : List Slt} (h : SlotAt w a l) (k : Nat) : SlotAt w a (l.take k) := fun i hi => by
  have hi' : i < l.length := by simp at hi; omega
  have e : (l.take k)[i] = l[i] := by simp
  rw [e]; exact h i hi'
theorem below_alloc {w w' : World} (h : Below w.heap.size w w') (o : Obj) : Below w.heap.size w (w'.alloc o) := h.alloc h.size o
theorem below_trans {a b c : World} (h : Below a.heap.size a b) (k : Below b.heap.size b c) : Below a.heap.size a c := h.trans (k.mono h.size)
theorem below_drewN {a w : World} {B : Nat} (h : Below B a w) : ∀ q, Below B a (w.drewN q)
  | 0 => h
  | q + 1 => (below_drewN h q).drew
def inB (lo hi n : Int) : Bool := decide (lo ≤ n ∧ n ≤ hi)
theorem within_any (n lo hi : Int) (w : World) :
    Calls Try.prog 24 #[.int .i64 n, .int .i64 lo, .int .i64 hi] w fun e w' => e = .returned (.bool (inB lo hi n)) ∧ w' = w := by
  by_cases h1 : lo ≤ n
  · by_cases h2 : n ≤ hi
    · have HR : Hid (inB lo hi n = true) := hide (by simp [inB, h1, h2])
      go_enter Try.func24, Try.ntmps24
      go_wp2
      go_ret
      exact ⟨by rw [HR.out]; rfl, rfl⟩
    · have HR : Hid (inB lo hi n = false) := hide (by simp [inB, h1, h2])
      go_enter Try.func24, Try.ntmps24
      go_wp2
      go_ret
      exact ⟨by rw [HR.out]; rfl, rfl⟩
  · have HR : Hid (inB lo hi n = false) := hide (by simp [inB, h1])
    go_enter Try.func24, Try.ntmps24
    go_wp2
    go_ret
    exact ⟨by rw [HR.out]; rfl, rfl⟩
theorem l1In_any (n lo hi : Int) (w : World) :
    Calls Try.prog 27 #[.int .i64 n, .int .i64 lo, .int .i64 hi] w fun e w' => e = .returned (.bool (inB lo hi n)) ∧ w' = w := by
  by_cases h1 : lo ≤ n
  · by_cases h2 : n ≤ hi
    · have HR : Hid (inB lo hi n = true) := hide (by simp [inB, h1, h2])
      go_enter Try.func27, Try.ntmps27
      go_wp2
      go_ret
      exact ⟨by rw [HR.out]; rfl, rfl⟩
    · have HR : Hid (inB lo hi n = false) := hide (by simp [inB, h1, h2])
      go_enter Try.func27, Try.ntmps27
      go_wp2
      go_ret
      exact ⟨by rw [HR.out]; rfl, rfl⟩
  · have HR : Hid (inB lo hi n = false) := hide (by simp [inB, h1])
    go_enter Try.func27, Try.ntmps27
    go_wp2
    go_ret
    exact ⟨by rw [HR.out]; rfl, rfl⟩
theorem numberOk_any (n : Int) (w : World) :
    Calls Try.prog 41 #[.int .i64 n] w fun e w' => e = .returned (.bool (inB 1 1000000000 n)) ∧ w' = w := by
  go_enter Try.func41, Try.ntmps41
  go_wp2_with fail
  refine (within_any _ _ _ _).mono ?_
  rintro e w' ⟨rfl, rfl⟩
  go_wp2
  go_ret
  exact ⟨rfl, rfl⟩
/-- where the number first stands, or -1 -/
def posL (l : List Slt) (id : Int) : Int := if l.findIdx (fun s => s.id == id) < l.length then (l.findIdx (fun s => s.id == id) : Int) else -1
theorem posL_at {l : List Slt} {id : Int} {i : Nat} (h : i < l.length) (he : l[i].id = id) (hn : ∀ j (hj : j < l.length), j < i → l[j].id ≠ id) : posL l id = (i : Int) := by
  have e : l.findIdx (fun s => s.id == id) = i := (List.findIdx_eq h).2 ⟨by simpa using he, fun j hj => by simpa using hn j (by omega) hj⟩
  rw [posL, e, if_pos h]
theorem posL_none {l : List Slt} {id : Int} (hn : ∀ j (hj : j < l.length), l[j].id ≠ id) : posL l id = -1 := by
  have e : l.findIdx (fun s => s.id == id) = l.length := List.findIdx_eq_length.2 (fun x hx => by
    obtain ⟨i, hi, rfl⟩ := List.getElem_of_mem hx
    simpa using hn i hi)
  rw [posL, e, if_neg (by omega)]
theorem posL_cases (l : List Slt) (id : Int) : (∃ i, ∃ h : i < l.length, posL l id = (i : Int) ∧ l[i].id = id) ∨ (posL l id = -1 ∧ ∀ j (hj : j < l.length), l[j].id ≠ id) := by
  by_cases h : l.findIdx (fun s => s.id == id) < l.length
  · left
    refine ⟨_, h, by rw [posL, if_pos h], ?_⟩
    have := List.findIdx_getElem (w := h)
    simpa using this
  · right
    refine ⟨by rw [posL, if_neg h], fun j hj he => ?_⟩
    have hl : l.findIdx (fun s => s.id == id) = l.length := by have := List.findIdx_le_length (xs := l) (p := fun s => s.id == id); omega
    have := List.findIdx_eq_length.1 hl l[j] (List.getElem_mem hj)
    simp [he] at this
set_option maxHeartbeats 400000 in
theorem l4Find_any (a : Option Addr) (l : List Slt) (cap : Nat) (id : Int) (w : World) (hl : l.length ≤ 1048576) (h : SlotAt w a l) :
    Calls Try.prog 28 #[.slice a l.length cap, .int .i64 id] w fun e w' => e = .returned (.int .i64 (posL l id)) ∧ w' = w := by
  have HC : Hid _ := hide h
  clear h
  go_enter Try.func28, Try.ntmps28
  go_wp2
  go_loop [5] (fun i => ∃ k : Nat, k ≤ l.length ∧ i = .int .i64 (k : Int) ∧ Hid (∀ j (hj : j < l.length), j < k → l[j].id ≠ id)) (fun i => l.length - (intOf i).toNat)
  case atStart => exact ⟨0, Nat.zero_le _, rfl, hide (fun j _ hj => by omega)⟩
  case round =>
    obtain ⟨k, hk, rfl, HN⟩ := hrel
    by_cases hlt : k < l.length
    · obtain ⟨b, off, rfl, hb, c0, _, _, _⟩ := HC.out k hlt
      cases hq : ((l[k]).id == id)
      · have HS : Hid (∀ j (hj : j < l.length), j < k + 1 → l[j].id ≠ id) := hide (fun j hj hjk => by
          rcases Nat.lt_or_ge j k with h | h
          · exact HN.out j hj h
          · obtain rfl : j = k := by omega
            simpa using hq)
        go_wp2
        exact ⟨⟨k + 1, by omega, by go_num, HS⟩, by simp [intOf]; omega⟩
      · have HE : Hid (posL l id = (k : Int)) := hide (posL_at hlt (by simpa using hq) HN.out)
        go_wp2
        go_ret
        exact ⟨by rw [HE.out]; rfl, rfl⟩
    · have HE : Hid (posL l id = -1) := hide (posL_none (fun i hi => HN.out i hi (by omega)))
      go_wp2
      go_ret
      exact ⟨by rw [HE.out]; rfl, rfl⟩
def sumL : List Slt → Int
  | [] => 0
  | x :: xs => x.has + sumL xs
theorem sumL_append (a b : List Slt) : sumL (a ++ b) = sumL a + sumL b := by
  induction a with
  | nil => simp [sumL]
  | cons x xs ih => simp only [List.cons_append, sumL, ih]; omega
theorem sumL_bd (l : List Slt) (h : ∀ x ∈ l, 0 ≤ x.has ∧ x.has ≤ 1000000000000) : 0 ≤ sumL l ∧ sumL l ≤ 1000000000000 * l.length := by
  induction l with
  | nil => simp [sumL]
  | cons x xs ih =>
    have h1 := h x (by simp)
    have h2 := ih (fun y hy => h y (by simp [hy]))
    simp only [sumL, List.length_cons]
    omega
theorem take_next {A : Type} (l : List A) (k : Nat) (h : k < l.length) : l.take (k + 1) = l.take k ++ [l[k]] := List.take_succ_eq_append_getElem h
def Small (l : List Slt) : Prop := l.length ≤ 8 ∧ ∀ x ∈ l, 0 ≤ x.has ∧ x.has ≤ 1000000000000
theorem sum_take (l : List Slt) (k : Nat) (h : Small l) : 0 ≤ sumL (l.take k) ∧ sumL (l.take k) ≤ 8000000000000 := by
  have h1 := sumL_bd (l.take k) (fun x hx => h.2 x (List.mem_of_mem_take hx))
  have h2 : (l.take k).length ≤ 8 := by rw [List.length_take]; have := h.1; omega
  omega
set_option maxHeartbeats 400000 in
theorem l4Sum_any (a : Option Addr) (l : List Slt) (cap : Nat) (w : World) (hs : Small l) (h : SlotAt w a l) :
    Calls Try.prog 17 #[.slice a l.length cap] w fun e w' => e = .returned (.int .i64 (sumL l)) ∧ w' = w := by
  have HC : Hid _ := hide h
  have HS : Hid _ := hide hs
  have hl : l.length ≤ 8 := hs.1
  clear h hs
  go_enter Try.func17, Try.ntmps17
  go_wp2
  go_loop [3, 4] (fun s i => ∃ k : Nat, k ≤ l.length ∧ i = .int .i64 (k : Int) ∧ s = .int .i64 (sumL (l.take k))) (fun s i => l.length - (intOf i).toNat)
  case atStart => exact ⟨0, Nat.zero_le _, rfl, rfl⟩
  case round =>
    obtain ⟨k, hk, rfl, rfl⟩ := hrel
    by_cases hlt : k < l.length
    · obtain ⟨b, off, rfl, hb, _, _, c2, _⟩ := HC.out k hlt
      obtain ⟨b0, b1⟩ := sum_take l k HS.out
      obtain ⟨m0, m1⟩ := HS.out.2 (l[k]) (List.getElem_mem hlt)
      have HT : Hid (sumL (l.take (k + 1)) = sumL (l.take k) + (l[k]).has) := hide (by rw [take_next l k hlt, sumL_append]; simp [sumL])
      generalize sumL (l.take k) = x at *
      go_wp2
      exact ⟨⟨k + 1, by omega, by go_num, by rw [HT.out]⟩, by simp [intOf]; omega⟩
    · have HE : Hid (l.take k = l) := hide (by rw [List.take_of_length_le (by omega)])
      go_wp2
      go_ret
      exact ⟨by show Ending.returned (Value.int _ (sumL (l.take k))) = _; rw [HE.out], rfl⟩
set_option maxHeartbeats 400000 in
theorem together_any (a : Option Addr) (l : List Slt) (cap : Nat) (w : World) (hs : Small l) (h : SlotAt w a l) :
    Calls Try.prog 14 #[.slice a l.length cap] w fun e w' => e = .returned (.int .i64 (sumL l)) ∧ Below w.heap.size w w' := by
  have HC : Hid _ := hide h
  have HS : Hid _ := hide hs
  have hl : l.length ≤ 8 := hs.1
  clear h hs
  go_enter Try.func14, Try.ntmps14
  go_wp2
  go_loopw [3, 8] (fun s i wr => ∃ k : Nat, k ≤ l.length ∧ i = .int .i64 (k : Int) ∧ s = .int .i64 (sumL (l.take k)) ∧ Below w.heap.size w wr) (fun s i wr => l.length - (intOf i).toNat)
  case atStart => exact ⟨0, Nat.zero_le _, rfl, rfl, Below.refl _ _⟩
  case round =>
    obtain ⟨k, hk, rfl, rfl, HB⟩ := hrel
    by_cases hlt : k < l.length
    · obtain ⟨b, off, rfl, hb, c0, c1, c2, _⟩ := (HC.out.below HB) k hlt
      obtain ⟨b0, b1⟩ := sum_take l k HS.out
      obtain ⟨m0, m1⟩ := HS.out.2 (l[k]) (List.getElem_mem hlt)
      have HT : Hid (sumL (l.take (k + 1)) = sumL (l.take k) + (l[k]).has) := hide (by rw [take_next l k hlt, sumL_append]; simp [sumL])
      generalize sumL (l.take k) = x at *
      go_wp2
      exact ⟨⟨k + 1, by omega, by go_num, by rw [HT.out], below_alloc HB _⟩, by simp [intOf]; omega⟩
    · have HE : Hid (l.take k = l) := hide (by rw [List.take_of_length_le (by omega)])
      go_wp2
      go_ret
      exact ⟨by show Ending.returned (Value.int _ (sumL (l.take k))) = _; rw [HE.out], HB⟩
set_option maxHeartbeats 1000000 in
theorem indexFunc_any (a : Option Addr) (l : List Slt) (cap : Nat) (q : Nat) (id : Int) (w : World) (hl : l.length ≤ 1048576) (h : SlotAt w a l) (hq : q < w.heap.size) (hc : w.cell? ⟨q, 0, none⟩ = some (.int .i64 id)) :
    Calls Try.prog 51 #[.slice a l.length cap, .func (.func 52) #[] #[.pointer (some ⟨q, 0, none⟩)]] w fun e w' => e = .returned (.int .i64 (posL l id)) ∧ Below w.heap.size w w' := by
  have HC : Hid _ := hide h
  have HQ : Hid _ := hide hc
  clear h hc
  go_enter Try.func51, Try.ntmps51
  go_wp2
  go_loopw [8] (fun i wr => ∃ k : Nat, k ≤ l.length ∧ i = .int .i64 (k : Int) ∧ Below w.heap.size w wr ∧ Hid (∀ j (hj : j < l.length), j < k → l[j].id ≠ id)) (fun i wr => l.length - (intOf i).toNat)
  case atStart => exact ⟨0, Nat.zero_le _, rfl, Below.refl _ _, hide (fun j _ hj => by omega)⟩
  case round =>
    obtain ⟨k, hk, rfl, HB, HN⟩ := hrel
    by_cases hlt : k < l.length
    · obtain ⟨b, off, rfl, hb, c0, c1, c2, _⟩ := (HC.out.below HB) k hlt
      have hqc : wr.cell? ⟨q, 0, none⟩ = some (.int .i64 id) := (HB.cell hq).trans HQ.out
      have hq2 : q < wr.heap.size := Nat.lt_of_lt_of_le hq HB.size
      cases hq : ((l[k]).id == id)
      · have HS : Hid (∀ j (hj : j < l.length), j < k + 1 → l[j].id ≠ id) := hide (fun j hj hjk => by
          rcases Nat.lt_or_ge j k with h | h
          · exact HN.out j hj h
          · obtain rfl : j = k := by omega
            simpa using hq)
        go_wp2_with (go_in)
        exact ⟨⟨k + 1, by omega, by go_num, below_alloc HB _, HS⟩, by simp [intOf]; omega⟩
      · have HE : Hid (posL l id = (k : Int)) := hide (posL_at hlt (by simpa using hq) HN.out)
        go_wp2_with (go_in)
        go_ret
        exact ⟨by rw [HE.out]; rfl, below_alloc HB _⟩
    · have HE : Hid (posL l id = -1) := hide (posL_none (fun i hi => HN.out i hi (by omega)))
      go_wp2
      go_ret
      exact ⟨by rw [HE.out]; rfl, HB⟩
theorem slotPlace_any (a : Option Addr) (l : List Slt) (cap : Nat) (id : Int) (w : World) (hl : l.length ≤ 1048576) (h : SlotAt w a l) :
    Calls Try.prog 42 #[.slice a l.length cap, .int .i64 id] w fun e w' => e = .returned (.int .i64 (posL l id)) ∧ Below w.heap.size w w' := by
  have HC : Hid _ := hide h
  clear h
  have hmf : ∀ (fn : Fn) (first cap : Array Value) (w : World), (Instr.makeFunc fn first cap).run Try.prog w = .ok (.func fn first cap) w := fun _ _ _ _ => rfl
  have HB : Hid _ := hide (below_alloc (Below.refl w.heap.size w) (.cells #[.int .i64 id] 2))
  go_enter Try.func42, Try.ntmps42
  go_wp2_with fail
  refine (indexFunc_any a l cap w.heap.size id _ hl (HC.out.below HB.out) (by simp) (by simp)).mono ?_
  rintro e w2 ⟨rfl, hb2⟩
  have HB2 : Hid _ := hide (below_trans HB.out hb2)
  clear hb2
  go_wp2
  go_ret
  exact ⟨rfl, HB2.out⟩
end Go.Proofs.Ytilacamcedjbmaa
