/- The contracts of the model's l2Held, l2Total and l2Within. -/
import Derived.Test.YteaopalhbnhbaaaGreatDoorData
namespace Go.Proofs.YteaopalhbnhbaaaGreatDoor
open Go.ChangeShapes Go.WideShapes Go.ChangeAt Go.RowKit
set_option linter.unusedVariables false
set_option maxRecDepth 100000
def heldL (nm : ByteArray) : List Hld → Int
  | [] => 0
  | x :: xs => (if x.fr = nm then x.amount else 0) + heldL nm xs
def totL (cur : ByteArray) : List Acc → Int
  | [] => 0
  | x :: xs => (if x.cur = cur then x.posted else 0) + totL cur xs
theorem heldL_append (nm : ByteArray) (a b : List Hld) : heldL nm (a ++ b) = heldL nm a + heldL nm b := by
  induction a with
  | nil => simp [heldL]
  | cons x xs ih => simp only [List.cons_append, heldL, ih]; omega
theorem totL_append (cur : ByteArray) (a b : List Acc) : totL cur (a ++ b) = totL cur a + totL cur b := by
  induction a with
  | nil => simp [totL]
  | cons x xs ih => simp only [List.cons_append, totL, ih]; omega
theorem heldL_bd (nm : ByteArray) (l : List Hld) (h : ∀ x ∈ l, 0 ≤ x.amount ∧ x.amount ≤ 1000000000000) : 0 ≤ heldL nm l ∧ heldL nm l ≤ 1000000000000 * l.length := by
  induction l with
  | nil => simp [heldL]
  | cons x xs ih =>
    have h1 := h x (by simp)
    have h2 := ih (fun y hy => h y (by simp [hy]))
    simp only [heldL, List.length_cons]
    split <;> omega
theorem totL_bd (cur : ByteArray) (l : List Acc) (h : ∀ x ∈ l, -1000000000000 ≤ x.posted ∧ x.posted ≤ 1000000000000) : -(1000000000000 * l.length : Int) ≤ totL cur l ∧ totL cur l ≤ 1000000000000 * l.length := by
  induction l with
  | nil => simp [totL]
  | cons x xs ih =>
    have h1 := h x (by simp)
    have h2 := ih (fun y hy => h y (by simp [hy]))
    simp only [totL, List.length_cons]
    split <;> omega
def SmallH (l : List Hld) : Prop := l.length ≤ 10 ∧ ∀ x ∈ l, 0 ≤ x.amount ∧ x.amount ≤ 1000000000000
def SmallA (l : List Acc) : Prop := l.length ≤ 12 ∧ ∀ x ∈ l, -1000000000000 ≤ x.posted ∧ x.posted ≤ 1000000000000
theorem held_take (nm : ByteArray) (l : List Hld) (k : Nat) (h : SmallH l) : 0 ≤ heldL nm (l.take k) ∧ heldL nm (l.take k) ≤ 10000000000000 := by
  have h1 := heldL_bd nm (l.take k) (fun x hx => h.2 x (List.mem_of_mem_take hx))
  have h2 : (l.take k).length ≤ 10 := by rw [List.length_take]; have := h.1; omega
  omega
theorem tot_take (cur : ByteArray) (l : List Acc) (k : Nat) (h : SmallA l) : -12000000000000 ≤ totL cur (l.take k) ∧ totL cur (l.take k) ≤ 12000000000000 := by
  have h1 := totL_bd cur (l.take k) (fun x hx => h.2 x (List.mem_of_mem_take hx))
  have h2 : (l.take k).length ≤ 12 := by rw [List.length_take]; have := h.1; omega
  omega
set_option maxHeartbeats 400000 in
theorem l2Held_any (a : Option Addr) (l : List Hld) (cap : Nat) (va vs : Value) (nm : ByteArray) (w : World) (hs : SmallH l) (h : HoldAt w a l) :
    Calls Tryz.prog 96 #[.agg #[va, .slice a l.length cap, vs], .string nm] w fun e w' => e = .returned (.int .i64 (heldL nm l)) ∧ Below w.heap.size w w' := by
  have HC : Hid _ := hide h
  have HS : Hid _ := hide hs
  have hl : l.length ≤ 10 := hs.1
  clear h hs
  go_enter Tryz.func96, Tryz.ntmps96
  go_wp2
  go_loop [5, 6] (fun s i => ∃ k : Nat, k ≤ l.length ∧ i = .int .i64 (k : Int) ∧ s = .int .i64 (heldL nm (l.take k))) (fun s i => l.length - (intOf i).toNat)
  case atStart => exact ⟨0, Nat.zero_le _, rfl, rfl⟩
  case round =>
    obtain ⟨k, hk, rfl, rfl⟩ := hrel
    by_cases hlt : k < l.length
    · obtain ⟨b, off, rfl, hb, _, c1, _, c3, _⟩ := HC.out k hlt
      have hbd := held_take nm l k HS.out
      have ham := HS.out.2 (l[k]) (List.getElem_mem hlt)
      obtain ⟨b0, b1⟩ := hbd
      obtain ⟨m0, m1⟩ := ham
      have hst : heldL nm (l.take (k + 1)) = heldL nm (l.take k) + (if (l[k]).fr = nm then (l[k]).amount else 0) := by
        rw [take_next l k hlt, heldL_append]; simp [heldL]
      cases hq : ((l[k]).fr.toList == nm.toList)
      · have hne : ¬ (l[k]).fr = nm := fun e => by rw [beq_bytes.2 e] at hq; cases hq
        have HT : Hid (heldL nm (l.take (k + 1)) = heldL nm (l.take k)) := hide (by rw [hst, if_neg hne]; omega)
        clear hst hne
        generalize heldL nm (l.take k) = x at *
        go_wp2
        exact ⟨⟨k + 1, by omega, by go_num, by rw [HT.out]⟩, by simp [intOf]; omega⟩
      · have HT : Hid (heldL nm (l.take (k + 1)) = heldL nm (l.take k) + (l[k]).amount) := hide (by rw [hst, if_pos (beq_bytes.1 hq)])
        clear hst
        generalize heldL nm (l.take k) = x at *
        go_wp2
        exact ⟨⟨k + 1, by omega, by go_num, by rw [HT.out]⟩, by simp [intOf]; omega⟩
    · have HE : Hid (l.take k = l) := hide (by rw [List.take_of_length_le (by omega)])
      go_wp2
      go_ret
      exact ⟨by show Ending.returned (Value.int _ (heldL nm (l.take k))) = _; rw [HE.out], below_alloc (Below.refl _ _) _⟩
set_option maxHeartbeats 400000 in
theorem l2Total_any (a : Option Addr) (l : List Acc) (cap : Nat) (vh vs : Value) (cur : ByteArray) (w : World) (hs : SmallA l) (h : AccAt w a l) :
    Calls Tryz.prog 67 #[.agg #[.slice a l.length cap, vh, vs], .string cur] w fun e w' => e = .returned (.int .i64 (totL cur l)) ∧ Below w.heap.size w w' := by
  have HC : Hid _ := hide h
  have HS : Hid _ := hide hs
  have hl : l.length ≤ 12 := hs.1
  clear h hs
  go_enter Tryz.func67, Tryz.ntmps67
  go_wp2
  go_loop [5, 6] (fun s i => ∃ k : Nat, k ≤ l.length ∧ i = .int .i64 (k : Int) ∧ s = .int .i64 (totL cur (l.take k))) (fun s i => l.length - (intOf i).toNat)
  case atStart => exact ⟨0, Nat.zero_le _, rfl, rfl⟩
  case round =>
    obtain ⟨k, hk, rfl, rfl⟩ := hrel
    by_cases hlt : k < l.length
    · obtain ⟨b, off, rfl, hb, _, c1, _, c3, _⟩ := HC.out k hlt
      have hbd := tot_take cur l k HS.out
      have ham := HS.out.2 (l[k]) (List.getElem_mem hlt)
      obtain ⟨b0, b1⟩ := hbd
      obtain ⟨m0, m1⟩ := ham
      have hst : totL cur (l.take (k + 1)) = totL cur (l.take k) + (if (l[k]).cur = cur then (l[k]).posted else 0) := by
        rw [take_next l k hlt, totL_append]; simp [totL]
      cases hq : ((l[k]).cur.toList == cur.toList)
      · have hne : ¬ (l[k]).cur = cur := fun e => by rw [beq_bytes.2 e] at hq; cases hq
        have HT : Hid (totL cur (l.take (k + 1)) = totL cur (l.take k)) := hide (by rw [hst, if_neg hne]; omega)
        clear hst hne
        generalize totL cur (l.take k) = x at *
        go_wp2
        exact ⟨⟨k + 1, by omega, by go_num, by rw [HT.out]⟩, by simp [intOf]; omega⟩
      · have HT : Hid (totL cur (l.take (k + 1)) = totL cur (l.take k) + (l[k]).posted) := hide (by rw [hst, if_pos (beq_bytes.1 hq)])
        clear hst
        generalize totL cur (l.take k) = x at *
        go_wp2
        exact ⟨⟨k + 1, by omega, by go_num, by rw [HT.out]⟩, by simp [intOf]; omega⟩
    · have HE : Hid (l.take k = l) := hide (by rw [List.take_of_length_le (by omega)])
      go_wp2
      go_ret
      exact ⟨by show Ending.returned (Value.int _ (totL cur (l.take k))) = _; rw [HE.out], below_alloc (Below.refl _ _) _⟩
/-- an account keeps its bounds -/
def withinB (x : Acc) (held : Int) : Bool := inB (-1000000000000) 1000000000000 x.posted && decide (held ≤ 1000000000000) && (decide (x.limit < 0) || decide (-x.limit ≤ x.posted - held))
set_option maxHeartbeats 1000000 in
theorem l2Within_aux (ah : Option Addr) (l : List Acc) (lh : List Hld) (cap caph : Nat) (vs : Value) (k : Nat) (w : World) (hk : k < l.length) (hl : l.length ≤ 12) (x : Acc) (b off : Nat) (hb : b < w.heap.size)
    (c0 : w.cell? ⟨b, off + k * 4, none⟩ = some (.string x.name)) (c1 : w.cell? ⟨b, off + k * 4 + 1, none⟩ = some (.string x.cur)) (c2 : w.cell? ⟨b, off + k * 4 + 2, none⟩ = some (.int .i64 x.limit)) (c3 : w.cell? ⟨b, off + k * 4 + 3, none⟩ = some (.int .i64 x.posted))
    (hs : SmallH lh) (hh : HoldAt w ah lh) (hlim : -1 ≤ x.limit ∧ x.limit ≤ 1000000000000) :
    Calls Tryz.prog 66 #[.agg #[.slice (some ⟨b, off, none⟩) l.length cap, .slice ah lh.length caph, vs], .int .i64 (k : Int)] w fun e w' => e = .returned (.bool (withinB x (heldL x.name lh))) ∧ Below w.heap.size w w' := by
  have HH : Hid _ := hide hh
  have HSm : Hid _ := hide hs
  have hbd := held_take x.name lh lh.length hs
  rw [List.take_length] at hbd
  obtain ⟨b0, b1⟩ := hbd
  obtain ⟨m0, m1⟩ := hlim
  clear hh hs
  have hk' : (k : Int) < (l.length : Int) := by omega
  go_enter Tryz.func66, Tryz.ntmps66
  go_wp2_with fail
  have HH2 : Hid _ := hide (HH.out.below (below_alloc (below_alloc (Below.refl w.heap.size w) (.cells #[.slice (some ⟨b, off, none⟩) l.length cap, .slice ah lh.length caph, vs] 28)) (.cells #[.string x.name, .string x.cur, .int .i64 x.limit, .int .i64 x.posted] 50)))
  refine (l2Held_any _ _ _ _ _ _ _ HSm.out HH2.out).mono ?_
  rintro e w2 ⟨rfl, HB⟩
  have d2 : w2.cell? ⟨w.heap.size + 1, 2, none⟩ = some (.int .i64 x.limit) := by rw [HB.cell (by simp)]; simp
  have d3 : w2.cell? ⟨w.heap.size + 1, 3, none⟩ = some (.int .i64 x.posted) := by rw [HB.cell (by simp)]; simp
  have HB2 : Below w.heap.size w w2 := below_trans (below_alloc (below_alloc (Below.refl _ _) _) _) HB
  clear HH2 HB HH HSm c0 c1 c2 c3
  cases h1 : inB (-1000000000000) 1000000000000 x.posted
  · have HR : Hid (withinB x (heldL x.name lh) = false) := hide (by simp [withinB, h1])
    go_wp2_with fail
    refine (l1In_any _ _ _ _).mono ?_
    rintro e w' ⟨rfl, rfl⟩
    go_wp2
    go_ret
    exact ⟨by rw [HR.out]; rfl, HB2⟩
  · have hp : -1000000000000 ≤ x.posted ∧ x.posted ≤ 1000000000000 := by simpa [inB] using h1
    obtain ⟨p0, p1⟩ := hp
    by_cases h2 : heldL x.name lh ≤ 1000000000000
    · by_cases h3 : x.limit < 0
      · have HR : Hid (withinB x (heldL x.name lh) = true) := hide (by simp [withinB, h1, h2, h3])
        go_wp2_with fail
        refine (l1In_any _ _ _ _).mono ?_
        rintro e w' ⟨rfl, rfl⟩
        go_wp2
        go_ret
        exact ⟨by rw [HR.out]; rfl, HB2⟩
      · by_cases h4 : -x.limit ≤ x.posted - heldL x.name lh
        · have HR : Hid (withinB x (heldL x.name lh) = true) := hide (by simp [withinB, h1, h2, h3, h4])
          go_wp2_with fail
          refine (l1In_any _ _ _ _).mono ?_
          rintro e w' ⟨rfl, rfl⟩
          go_wp2
          go_ret
          exact ⟨by rw [HR.out]; rfl, HB2⟩
        · have HR : Hid (withinB x (heldL x.name lh) = false) := hide (by simp [withinB, h1, h2, h3, h4])
          have e3 : decide (x.limit < 0) = false := by simpa using h3
          have e4 : decide (-x.limit ≤ x.posted - heldL x.name lh) = false := by simpa using h4
          go_wp2_with fail
          refine (l1In_any _ _ _ _).mono ?_
          rintro e w' ⟨rfl, rfl⟩
          go_wp2
          go_ret
          exact ⟨by rw [HR.out]; rfl, HB2⟩
    · have HR : Hid (withinB x (heldL x.name lh) = false) := hide (by simp [withinB, h1, h2])
      go_wp2_with fail
      refine (l1In_any _ _ _ _).mono ?_
      rintro e w' ⟨rfl, rfl⟩
      go_wp2
      go_ret
      exact ⟨by rw [HR.out]; rfl, HB2⟩
theorem l2Within_any (a ah : Option Addr) (l : List Acc) (lh : List Hld) (cap caph : Nat) (vs : Value) (k : Nat) (w : World) (hk : k < l.length) (hl : l.length ≤ 12) (hs : SmallH lh) (h : AccAt w a l) (hh : HoldAt w ah lh) (hlim : -1 ≤ (l[k]).limit ∧ (l[k]).limit ≤ 1000000000000) :
    Calls Tryz.prog 66 #[.agg #[.slice a l.length cap, .slice ah lh.length caph, vs], .int .i64 (k : Int)] w fun e w' => e = .returned (.bool (withinB (l[k]) (heldL (l[k]).name lh))) ∧ Below w.heap.size w w' := by
  obtain ⟨b, off, rfl, hb, c0, c1, c2, c3, _⟩ := h k hk
  exact l2Within_aux ah l lh cap caph vs k w hk hl (l[k]) b off hb c0 c1 c2 c3 hs hh hlim
end Go.Proofs.YteaopalhbnhbaaaGreatDoor
