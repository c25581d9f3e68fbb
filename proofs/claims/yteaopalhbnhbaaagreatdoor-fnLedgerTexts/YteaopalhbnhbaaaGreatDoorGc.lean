/- Ledgers as data, and how they lie in memory. -/
import Derived.Test.YteaopalhbnhbaaaGreatDoorGb
import Derived.Below
import Derived.Lib.Strings
import Derived.Deep.QuietTactic
import Derived.BigQuiet
import Derived.BigRegion
import Derived.Deep.RegionWith
import Derived.Maps.AppendAt
import Derived.OwnWalk
import Derived.Deep.Slices
namespace Go.Proofs.YteaopalhbnhbaaaGreatDoor
open Go.ChangeShapes Go.WideShapes Go.ChangeAt Go.RowKit
set_option linter.unusedVariables false
set_option maxRecDepth 100000
structure Acc where
  name : ByteArray
  cur : ByteArray
  limit : Int
  posted : Int
structure Hld where
  id : Int
  fr : ByteArray
  to : ByteArray
  amount : Int
structure Sn where
  id : Int
  code : Int
structure Led where
  acc : List Acc
  hold : List Hld
  seen : List Sn
/-- an int64 -/
def I64 (n : Int) : Prop := -9223372036854775808 ≤ n ∧ n ≤ 9223372036854775807
def AccAt (w : World) (a : Option Addr) (l : List Acc) : Prop :=
  ∀ i (h : i < l.length), ∃ b off, a = some ⟨b, off, none⟩ ∧ b < w.heap.size ∧ w.cell? ⟨b, off + i * 4, none⟩ = some (.string l[i].name) ∧ w.cell? ⟨b, off + i * 4 + 1, none⟩ = some (.string l[i].cur) ∧
    w.cell? ⟨b, off + i * 4 + 2, none⟩ = some (.int .i64 l[i].limit) ∧ w.cell? ⟨b, off + i * 4 + 3, none⟩ = some (.int .i64 l[i].posted) ∧ l[i].name.size ≤ maxLen ∧ l[i].cur.size ≤ maxLen ∧ I64 l[i].limit ∧ I64 l[i].posted
def HoldAt (w : World) (a : Option Addr) (l : List Hld) : Prop :=
  ∀ i (h : i < l.length), ∃ b off, a = some ⟨b, off, none⟩ ∧ b < w.heap.size ∧ w.cell? ⟨b, off + i * 4, none⟩ = some (.int .i64 l[i].id) ∧ w.cell? ⟨b, off + i * 4 + 1, none⟩ = some (.string l[i].fr) ∧
    w.cell? ⟨b, off + i * 4 + 2, none⟩ = some (.string l[i].to) ∧ w.cell? ⟨b, off + i * 4 + 3, none⟩ = some (.int .i64 l[i].amount) ∧ l[i].fr.size ≤ maxLen ∧ l[i].to.size ≤ maxLen ∧ I64 l[i].id ∧ I64 l[i].amount
def AnsAt (w : World) (a : Option Addr) (l : List Sn) : Prop :=
  ∀ i (h : i < l.length), ∃ b off, a = some ⟨b, off, none⟩ ∧ b < w.heap.size ∧ w.cell? ⟨b, off + i * 2, none⟩ = some (.int .i64 l[i].id) ∧ w.cell? ⟨b, off + i * 2 + 1, none⟩ = some (.int .i64 l[i].code) ∧ I64 l[i].id ∧ I64 l[i].code
theorem AccAt.below {w w' : World} {a : Option Addr} {l : List Acc} (h : AccAt w a l) (k : Below w.heap.size w w') : AccAt w' a l := fun i hi => by
  obtain ⟨b, off, e, hb, h0, h1, h2, h3, r⟩ := h i hi
  have := k.size
  exact ⟨b, off, e, by omega, by rw [k.cell (by exact hb)]; exact h0, by rw [k.cell (by exact hb)]; exact h1, by rw [k.cell (by exact hb)]; exact h2, by rw [k.cell (by exact hb)]; exact h3, r⟩
theorem HoldAt.below {w w' : World} {a : Option Addr} {l : List Hld} (h : HoldAt w a l) (k : Below w.heap.size w w') : HoldAt w' a l := fun i hi => by
  obtain ⟨b, off, e, hb, h0, h1, h2, h3, r⟩ := h i hi
  have := k.size
  exact ⟨b, off, e, by omega, by rw [k.cell (by exact hb)]; exact h0, by rw [k.cell (by exact hb)]; exact h1, by rw [k.cell (by exact hb)]; exact h2, by rw [k.cell (by exact hb)]; exact h3, r⟩
theorem AnsAt.below {w w' : World} {a : Option Addr} {l : List Sn} (h : AnsAt w a l) (k : Below w.heap.size w w') : AnsAt w' a l := fun i hi => by
  obtain ⟨b, off, e, hb, h0, h1, r⟩ := h i hi
  have := k.size
  exact ⟨b, off, e, by omega, by rw [k.cell (by exact hb)]; exact h0, by rw [k.cell (by exact hb)]; exact h1, r⟩
theorem inB_iff {lo hi n : Int} : inB lo hi n = true ↔ lo ≤ n ∧ n ≤ hi := by simp [inB]
theorem list_size (s : ByteArray) : s.data.toList.length = s.size := by simp
theorem beq_bytes {a b : ByteArray} : (a.toList == b.toList) = true ↔ a = b := by
  rw [Lib.toList_data, Lib.toList_data, beq_iff_eq]
  exact ⟨fun e => ByteArray.ext (Array.toList_inj.1 e), fun e => by rw [e]⟩
/-- same bytes -/
def sameB (a b : ByteArray) : Bool := a.toList == b.toList
theorem sameB_iff {a b : ByteArray} : sameB a b = true ↔ a = b := beq_bytes
/-- where the name first stands -/
def FindEnd (l : List Acc) (nm : ByteArray) (w : World) (e : Ending) (w' : World) : Prop :=
  Below w.heap.size w w' ∧ ((∃ i, ∃ h : i < l.length, l[i].name = nm ∧ (∀ j (hj : j < i), l[j].name ≠ nm) ∧ e = .returned (.int .i64 (i : Int))) ∨ ((∀ i (h : i < l.length), l[i].name ≠ nm) ∧ e = .returned (.int .i64 (-1))))
set_option maxHeartbeats 400000 in
theorem l2Find_any (a : Option Addr) (l : List Acc) (cap : Nat) (vh vs : Value) (nm : ByteArray) (w : World) (hl : l.length ≤ 1048576) (h : AccAt w a l) :
    Calls Tryz.prog 63 #[.agg #[.slice a l.length cap, vh, vs], .string nm] w fun e w' => FindEnd l nm w e w' := by
  have HC : Hid _ := hide h
  clear h
  go_enter Tryz.func63, Tryz.ntmps63
  go_wp2
  go_loop [5] (fun i => ∃ k : Nat, k ≤ l.length ∧ i = .int .i64 (k : Int) ∧ Hid (∀ j (hj : j < l.length), j < k → l[j].name ≠ nm)) (fun i => l.length - (intOf i).toNat)
  case atStart => exact ⟨0, Nat.zero_le _, rfl, hide (fun j _ hj => by omega)⟩
  case round =>
    obtain ⟨k, hk, rfl, HN⟩ := hrel
    by_cases hlt : k < l.length
    · obtain ⟨b, off, rfl, hb, c0, _, _, _, _⟩ := HC.out k hlt
      cases hq : ((l[k]).name.toList == nm.toList)
      · have HS : Hid (∀ j (hj : j < l.length), j < k + 1 → l[j].name ≠ nm) := hide (fun j hj hjk => by
          rcases Nat.lt_or_ge j k with h | h
          · exact HN.out j hj h
          · obtain rfl : j = k := by omega
            intro e; rw [beq_bytes.2 e] at hq; cases hq)
        go_wp2
        exact ⟨⟨k + 1, by omega, by go_num, HS⟩, by simp [intOf]; omega⟩
      · have HE : Hid _ := hide (beq_bytes.1 hq)
        go_wp2
        go_ret
        exact ⟨below_alloc (Below.refl _ _) _, .inl ⟨k, hlt, HE.out, fun j hj => HN.out j (by omega) hj, rfl⟩⟩
    · go_wp2
      go_ret
      exact ⟨below_alloc (Below.refl _ _) _, .inr ⟨fun i hi => HN.out i hi (by omega), rfl⟩⟩
end Go.Proofs.YteaopalhbnhbaaaGreatDoor
/- The contracts of the model's l2Held, l2Total and l2Within. -/
namespace Go.Proofs.YteaopalhbnhbaaaGreatDoor
open Go.ChangeShapes Go.WideShapes Go.ChangeAt Go.RowKit
set_option linter.unusedVariables false
set_option maxRecDepth 100000
def heldL (nm : ByteArray) : List Hld → Int
  | [] => 0
  | x :: xs => (if x.fr = nm then x.amount else 0) + heldL nm xs
def totL (cur : ByteArray) : List Acc → Int
  | [] => 0
  | x :: xs => (if x.cur = cur then x.posted else 0) + totL cur xs
theorem heldL_append (nm : ByteArray) (a b : List Hld) : heldL nm (a ++ b) = heldL nm a + heldL nm b := by
  induction a with
  | nil => simp [heldL]
  | cons x xs ih => simp only [List.cons_append, heldL, ih]; omega
theorem totL_append (cur : ByteArray) (a b : List Acc) : totL cur (a ++ b) = totL cur a + totL cur b := by
  induction a with
  | nil => simp [totL]
  | cons x xs ih => simp only [List.cons_append, totL, ih]; omega
theorem heldL_bd (nm : ByteArray) (l : List Hld) (h : ∀ x ∈ l, 0 ≤ x.amount ∧ x.amount ≤ 1000000000000) : 0 ≤ heldL nm l ∧ heldL nm l ≤ 1000000000000 * l.length := by
  induction l with
  | nil => simp [heldL]
  | cons x xs ih =>
    have h1 := h x (by simp)
    have h2 := ih (fun y hy => h y (by simp [hy]))
    simp only [heldL, List.length_cons]
    split <;> omega
theorem totL_bd (cur : ByteArray) (l : List Acc) (h : ∀ x ∈ l, -1000000000000 ≤ x.posted ∧ x.posted ≤ 1000000000000) : -(1000000000000 * l.length : Int) ≤ totL cur l ∧ totL cur l ≤ 1000000000000 * l.length := by
  induction l with
  | nil => simp [totL]
  | cons x xs ih =>
    have h1 := h x (by simp)
    have h2 := ih (fun y hy => h y (by simp [hy]))
    simp only [totL, List.length_cons]
    split <;> omega
def SmallH (l : List Hld) : Prop := l.length ≤ 10 ∧ ∀ x ∈ l, 0 ≤ x.amount ∧ x.amount ≤ 1000000000000
def SmallA (l : List Acc) : Prop := l.length ≤ 12 ∧ ∀ x ∈ l, -1000000000000 ≤ x.posted ∧ x.posted ≤ 1000000000000
theorem held_take (nm : ByteArray) (l : List Hld) (k : Nat) (h : SmallH l) : 0 ≤ heldL nm (l.take k) ∧ heldL nm (l.take k) ≤ 10000000000000 := by
  have h1 := heldL_bd nm (l.take k) (fun x hx => h.2 x (List.mem_of_mem_take hx))
  have h2 : (l.take k).length ≤ 10 := by rw [List.length_take]; have := h.1; omega
  omega
theorem tot_take (cur : ByteArray) (l : List Acc) (k : Nat) (h : SmallA l) : -12000000000000 ≤ totL cur (l.take k) ∧ totL cur (l.take k) ≤ 12000000000000 := by
  have h1 := totL_bd cur (l.take k) (fun x hx => h.2 x (List.mem_of_mem_take hx))
  have h2 : (l.take k).length ≤ 12 := by rw [List.length_take]; have := h.1; omega
  omega
set_option maxHeartbeats 400000 in
theorem l2Held_any (a : Option Addr) (l : List Hld) (cap : Nat) (va vs : Value) (nm : ByteArray) (w : World) (hs : SmallH l) (h : HoldAt w a l) :
    Calls Tryz.prog 96 #[.agg #[va, .slice a l.length cap, vs], .string nm] w fun e w' => e = .returned (.int .i64 (heldL nm l)) ∧ Below w.heap.size w w' := by
  have HC : Hid _ := hide h
  have HS : Hid _ := hide hs
  have hl : l.length ≤ 10 := hs.1
  clear h hs
  go_enter Tryz.func96, Tryz.ntmps96
  go_wp2
  go_loop [5, 6] (fun s i => ∃ k : Nat, k ≤ l.length ∧ i = .int .i64 (k : Int) ∧ s = .int .i64 (heldL nm (l.take k))) (fun s i => l.length - (intOf i).toNat)
  case atStart => exact ⟨0, Nat.zero_le _, rfl, rfl⟩
  case round =>
    obtain ⟨k, hk, rfl, rfl⟩ := hrel
    by_cases hlt : k < l.length
    · obtain ⟨b, off, rfl, hb, _, c1, _, c3, _⟩ := HC.out k hlt
      have hbd := held_take nm l k HS.out
      have ham := HS.out.2 (l[k]) (List.getElem_mem hlt)
      obtain ⟨b0, b1⟩ := hbd
      obtain ⟨m0, m1⟩ := ham
      have hst : heldL nm (l.take (k + 1)) = heldL nm (l.take k) + (if (l[k]).fr = nm then (l[k]).amount else 0) := by
        rw [take_next l k hlt, heldL_append]; simp [heldL]
      cases hq : ((l[k]).fr.toList == nm.toList)
      · have hne : ¬ (l[k]).fr = nm := fun e => by rw [beq_bytes.2 e] at hq; cases hq
        have HT : Hid (heldL nm (l.take (k + 1)) = heldL nm (l.take k)) := hide (by rw [hst, if_neg hne]; omega)
        clear hst hne
        generalize heldL nm (l.take k) = x at *
        go_wp2
        exact ⟨⟨k + 1, by omega, by go_num, by rw [HT.out]⟩, by simp [intOf]; omega⟩
      · have HT : Hid (heldL nm (l.take (k + 1)) = heldL nm (l.take k) + (l[k]).amount) := hide (by rw [hst, if_pos (beq_bytes.1 hq)])
        clear hst
        generalize heldL nm (l.take k) = x at *
        go_wp2
        exact ⟨⟨k + 1, by omega, by go_num, by rw [HT.out]⟩, by simp [intOf]; omega⟩
    · have HE : Hid (l.take k = l) := hide (by rw [List.take_of_length_le (by omega)])
      go_wp2
      go_ret
      exact ⟨by show Ending.returned (Value.int _ (heldL nm (l.take k))) = _; rw [HE.out], below_alloc (Below.refl _ _) _⟩
set_option maxHeartbeats 400000 in
theorem l2Total_any (a : Option Addr) (l : List Acc) (cap : Nat) (vh vs : Value) (cur : ByteArray) (w : World) (hs : SmallA l) (h : AccAt w a l) :
    Calls Tryz.prog 67 #[.agg #[.slice a l.length cap, vh, vs], .string cur] w fun e w' => e = .returned (.int .i64 (totL cur l)) ∧ Below w.heap.size w w' := by
  have HC : Hid _ := hide h
  have HS : Hid _ := hide hs
  have hl : l.length ≤ 12 := hs.1
  clear h hs
  go_enter Tryz.func67, Tryz.ntmps67
  go_wp2
  go_loop [5, 6] (fun s i => ∃ k : Nat, k ≤ l.length ∧ i = .int .i64 (k : Int) ∧ s = .int .i64 (totL cur (l.take k))) (fun s i => l.length - (intOf i).toNat)
  case atStart => exact ⟨0, Nat.zero_le _, rfl, rfl⟩
  case round =>
    obtain ⟨k, hk, rfl, rfl⟩ := hrel
    by_cases hlt : k < l.length
    · obtain ⟨b, off, rfl, hb, _, c1, _, c3, _⟩ := HC.out k hlt
      have hbd := tot_take cur l k HS.out
      have ham := HS.out.2 (l[k]) (List.getElem_mem hlt)
      obtain ⟨b0, b1⟩ := hbd
      obtain ⟨m0, m1⟩ := ham
      have hst : totL cur (l.take (k + 1)) = totL cur (l.take k) + (if (l[k]).cur = cur then (l[k]).posted else 0) := by
        rw [take_next l k hlt, totL_append]; simp [totL]
      cases hq : ((l[k]).cur.toList == cur.toList)
      · have hne : ¬ (l[k]).cur = cur := fun e => by rw [beq_bytes.2 e] at hq; cases hq
        have HT : Hid (totL cur (l.take (k + 1)) = totL cur (l.take k)) := hide (by rw [hst, if_neg hne]; omega)
        clear hst hne
        generalize totL cur (l.take k) = x at *
        go_wp2
        exact ⟨⟨k + 1, by omega, by go_num, by rw [HT.out]⟩, by simp [intOf]; omega⟩
      · have HT : Hid (totL cur (l.take (k + 1)) = totL cur (l.take k) + (l[k]).posted) := hide (by rw [hst, if_pos (beq_bytes.1 hq)])
        clear hst
        generalize totL cur (l.take k) = x at *
        go_wp2
        exact ⟨⟨k + 1, by omega, by go_num, by rw [HT.out]⟩, by simp [intOf]; omega⟩
    · have HE : Hid (l.take k = l) := hide (by rw [List.take_of_length_le (by omega)])
      go_wp2
      go_ret
      exact ⟨by show Ending.returned (Value.int _ (totL cur (l.take k))) = _; rw [HE.out], below_alloc (Below.refl _ _) _⟩
/-- an account keeps its bounds -/
def withinB (x : Acc) (held : Int) : Bool := inB (-1000000000000) 1000000000000 x.posted && decide (held ≤ 1000000000000) && (decide (x.limit < 0) || decide (-x.limit ≤ x.posted - held))
set_option maxHeartbeats 1000000 in
theorem l2Within_aux (ah : Option Addr) (l : List Acc) (lh : List Hld) (cap caph : Nat) (vs : Value) (k : Nat) (w : World) (hk : k < l.length) (hl : l.length ≤ 12) (x : Acc) (b off : Nat) (hb : b < w.heap.size)
    (c0 : w.cell? ⟨b, off + k * 4, none⟩ = some (.string x.name)) (c1 : w.cell? ⟨b, off + k * 4 + 1, none⟩ = some (.string x.cur)) (c2 : w.cell? ⟨b, off + k * 4 + 2, none⟩ = some (.int .i64 x.limit)) (c3 : w.cell? ⟨b, off + k * 4 + 3, none⟩ = some (.int .i64 x.posted))
    (hs : SmallH lh) (hh : HoldAt w ah lh) (hlim : -1 ≤ x.limit ∧ x.limit ≤ 1000000000000) :
    Calls Tryz.prog 66 #[.agg #[.slice (some ⟨b, off, none⟩) l.length cap, .slice ah lh.length caph, vs], .int .i64 (k : Int)] w fun e w' => e = .returned (.bool (withinB x (heldL x.name lh))) ∧ Below w.heap.size w w' := by
  have HH : Hid _ := hide hh
  have HSm : Hid _ := hide hs
  have hbd := held_take x.name lh lh.length hs
  rw [List.take_length] at hbd
  obtain ⟨b0, b1⟩ := hbd
  obtain ⟨m0, m1⟩ := hlim
  clear hh hs
  have hk' : (k : Int) < (l.length : Int) := by omega
  go_enter Tryz.func66, Tryz.ntmps66
  go_wp2_with fail
  have HH2 : Hid _ := hide (HH.out.below (below_alloc (below_alloc (Below.refl w.heap.size w) (.cells #[.slice (some ⟨b, off, none⟩) l.length cap, .slice ah lh.length caph, vs] 28)) (.cells #[.string x.name, .string x.cur, .int .i64 x.limit, .int .i64 x.posted] 50)))
  refine (l2Held_any _ _ _ _ _ _ _ HSm.out HH2.out).mono ?_
  rintro e w2 ⟨rfl, HB⟩
  have d2 : w2.cell? ⟨w.heap.size + 1, 2, none⟩ = some (.int .i64 x.limit) := by rw [HB.cell (by simp)]; simp
  have d3 : w2.cell? ⟨w.heap.size + 1, 3, none⟩ = some (.int .i64 x.posted) := by rw [HB.cell (by simp)]; simp
  have HB2 : Below w.heap.size w w2 := below_trans (below_alloc (below_alloc (Below.refl _ _) _) _) HB
  clear HH2 HB HH HSm c0 c1 c2 c3
  cases h1 : inB (-1000000000000) 1000000000000 x.posted
  · have HR : Hid (withinB x (heldL x.name lh) = false) := hide (by simp [withinB, h1])
    go_wp2_with fail
    refine (l1In_any _ _ _ _).mono ?_
    rintro e w' ⟨rfl, rfl⟩
    go_wp2
    go_ret
    exact ⟨by rw [HR.out]; rfl, HB2⟩
  · have hp : -1000000000000 ≤ x.posted ∧ x.posted ≤ 1000000000000 := by simpa [inB] using h1
    obtain ⟨p0, p1⟩ := hp
    by_cases h2 : heldL x.name lh ≤ 1000000000000
    · by_cases h3 : x.limit < 0
      · have HR : Hid (withinB x (heldL x.name lh) = true) := hide (by simp [withinB, h1, h2, h3])
        go_wp2_with fail
        refine (l1In_any _ _ _ _).mono ?_
        rintro e w' ⟨rfl, rfl⟩
        go_wp2
        go_ret
        exact ⟨by rw [HR.out]; rfl, HB2⟩
      · by_cases h4 : -x.limit ≤ x.posted - heldL x.name lh
        · have HR : Hid (withinB x (heldL x.name lh) = true) := hide (by simp [withinB, h1, h2, h3, h4])
          go_wp2_with fail
          refine (l1In_any _ _ _ _).mono ?_
          rintro e w' ⟨rfl, rfl⟩
          go_wp2
          go_ret
          exact ⟨by rw [HR.out]; rfl, HB2⟩
        · have HR : Hid (withinB x (heldL x.name lh) = false) := hide (by simp [withinB, h1, h2, h3, h4])
          have e3 : decide (x.limit < 0) = false := by simpa using h3
          have e4 : decide (-x.limit ≤ x.posted - heldL x.name lh) = false := by simpa using h4
          go_wp2_with fail
          refine (l1In_any _ _ _ _).mono ?_
          rintro e w' ⟨rfl, rfl⟩
          go_wp2
          go_ret
          exact ⟨by rw [HR.out]; rfl, HB2⟩
    · have HR : Hid (withinB x (heldL x.name lh) = false) := hide (by simp [withinB, h1, h2])
      go_wp2_with fail
      refine (l1In_any _ _ _ _).mono ?_
      rintro e w' ⟨rfl, rfl⟩
      go_wp2
      go_ret
      exact ⟨by rw [HR.out]; rfl, HB2⟩
theorem l2Within_any (a ah : Option Addr) (l : List Acc) (lh : List Hld) (cap caph : Nat) (vs : Value) (k : Nat) (w : World) (hk : k < l.length) (hl : l.length ≤ 12) (hs : SmallH lh) (h : AccAt w a l) (hh : HoldAt w ah lh) (hlim : -1 ≤ (l[k]).limit ∧ (l[k]).limit ≤ 1000000000000) :
    Calls Tryz.prog 66 #[.agg #[.slice a l.length cap, .slice ah lh.length caph, vs], .int .i64 (k : Int)] w fun e w' => e = .returned (.bool (withinB (l[k]) (heldL (l[k]).name lh))) ∧ Below w.heap.size w w' := by
  obtain ⟨b, off, rfl, hb, c0, c1, c2, c3, _⟩ := h k hk
  exact l2Within_aux ah l lh cap caph vs k w hk hl (l[k]) b off hb c0 c1 c2 c3 hs hh hlim
end Go.Proofs.YteaopalhbnhbaaaGreatDoor
/- The contract of the model's LedgerOk: what is right, place by place. -/
namespace Go.Proofs.YteaopalhbnhbaaaGreatDoor
open Go.ChangeShapes Go.WideShapes Go.ChangeAt Go.RowKit
set_option linter.unusedVariables false
set_option maxRecDepth 100000
structure LedAt (w : World) (a h s : Option Addr) (L : Led) : Prop where
  acc : AccAt w a L.acc
  hold : HoldAt w h L.hold
  seen : AnsAt w s L.seen
theorem LedAt.below {w w' : World} {a h s : Option Addr} {L : Led} (k : LedAt w a h s L) (b : Below w.heap.size w w') : LedAt w' a h s L := ⟨k.acc.below b, k.hold.below b, k.seen.below b⟩
/-- where a name first stands -/
def idxA (l : List Acc) (nm : ByteArray) : Option Nat := l.findIdx? (fun x => sameB x.name nm)
theorem idxA_some {l : List Acc} {nm : ByteArray} {i : Nat} (h : i < l.length) (h1 : l[i].name = nm) (h2 : ∀ j (hj : j < i), l[j].name ≠ nm) : idxA l nm = some i := by
  rw [idxA, List.findIdx?_eq_some_iff_getElem]
  exact ⟨h, sameB_iff.2 h1, fun j hj => by rw [Bool.not_eq_true, Bool.eq_false_iff]; intro e; exact h2 j hj (sameB_iff.1 e)⟩
theorem idxA_none {l : List Acc} {nm : ByteArray} (h : ∀ i (h : i < l.length), l[i].name ≠ nm) : idxA l nm = none := by
  rw [idxA, List.findIdx?_eq_none_iff]
  intro x hx
  obtain ⟨i, hi, rfl⟩ := List.getElem_of_mem hx
  rw [Bool.eq_false_iff]
  intro e
  exact h i hi (sameB_iff.1 e)
theorem idxA_lt {l : List Acc} {nm : ByteArray} {i : Nat} (h : idxA l nm = some i) : ∃ hi : i < l.length, l[i].name = nm ∧ ∀ j (hj : j < i), l[j].name ≠ nm := by
  rw [idxA, List.findIdx?_eq_some_iff_getElem] at h
  obtain ⟨h1, h2, h3⟩ := h
  exact ⟨h1, sameB_iff.1 h2, fun j hj e => by have := h3 j hj; rw [sameB_iff.2 e] at this; simp at this⟩
/-- the place ahead of k has less -/
def risesB (l : List Int) (k : Nat) : Bool := match k with
  | 0 => true
  | m + 1 => decide (l.getD m 0 < l.getD (m + 1) 0)
def ansB (L : Led) (k : Nat) : Bool := match L.seen[k]? with
  | none => true
  | some x => inB 1 1000000000 x.id && risesB (L.seen.map Sn.id) k && (decide (x.code = 0) || inB 4 9 x.code)
def pairB (L : Led) (x : Hld) : Bool := match idxA L.acc x.fr, idxA L.acc x.to with
  | some i, some j => decide (i ≠ j) && (match L.acc[i]?, L.acc[j]? with
    | some p, some q => sameB p.cur q.cur
    | _, _ => false) && inB 1 1000000000000 x.amount
  | _, _ => false
def holdB (L : Led) (k : Nat) : Bool := match L.hold[k]? with
  | none => true
  | some x => inB 1 1000000000 x.id && risesB (L.hold.map Hld.id) k && pairB L x
theorem pairB_none1 {L : Led} {x : Hld} (h : idxA L.acc x.fr = none) : pairB L x = false := by simp [pairB, h]
theorem pairB_none2 {L : Led} {x : Hld} (h : idxA L.acc x.to = none) : pairB L x = false := by
  unfold pairB; rw [h]; cases idxA L.acc x.fr <;> rfl
theorem pairB_some {L : Led} {x : Hld} {i j : Nat} (h1 : idxA L.acc x.fr = some i) (h2 : idxA L.acc x.to = some j) (hi : i < L.acc.length) (hj : j < L.acc.length) : pairB L x = (decide (i ≠ j) && sameB (L.acc[i]).cur (L.acc[j]).cur && inB 1 1000000000000 x.amount) := by
  simp [pairB, h1, h2, List.getElem?_eq_getElem hi, List.getElem?_eq_getElem hj]
def nameRises (L : Led) (k : Nat) : Bool := match k with
  | 0 => true
  | m + 1 => match L.acc[m]?, L.acc[m + 1]? with
    | some p, some q => Op.bytesLess p.name.toList q.name.toList
    | _, _ => true
def accB (L : Led) (k : Nat) : Bool := match L.acc[k]? with
  | none => true
  | some x => nameB x.name && curB x.cur && inB (-1) 1000000000000 x.limit && nameRises L k && withinB x (heldL x.name L.hold) && decide (totL x.cur L.acc = 0)
def postB (L : Led) (k : Nat) : Bool := match L.acc[k]? with
  | none => true
  | some x => inB (-1000000000000) 1000000000000 x.posted
def allTo (f : Nat → Bool) : Nat → Bool
  | 0 => true
  | n + 1 => allTo f n && f n
theorem allTo_false {f : Nat → Bool} {n k : Nat} (h : k < n) (hf : f k = false) : allTo f n = false := by
  induction n with
  | zero => omega
  | succ n ih =>
    simp only [allTo]
    rcases Nat.lt_or_ge k n with h1 | h1
    · rw [ih h1]; rfl
    · obtain rfl : k = n := by omega
      rw [hf]; simp
theorem allTo_step {f : Nat → Bool} {k : Nat} (h : allTo f k = true) (hf : f k = true) : allTo f (k + 1) = true := by simp [allTo, h, hf]
theorem allTo_get {f : Nat → Bool} {n k : Nat} (h : allTo f n = true) (hk : k < n) : f k = true := by
  induction n with
  | zero => omega
  | succ n ih =>
    simp only [allTo, Bool.and_eq_true] at h
    rcases Nat.lt_or_ge k n with h1 | h1
    · exact ih h.1 h1
    · obtain rfl : k = n := by omega
      exact h.2
/-- what the model asks -/
def ledS (L : Led) : Bool :=
  decide (L.acc.length ≤ 12) && decide (L.hold.length ≤ 10) && decide (L.seen.length ≤ 40) && allTo (postB L) L.acc.length && allTo (holdB L) L.hold.length && allTo (accB L) L.acc.length && allTo (ansB L) L.seen.length
theorem ansB_at {L : Led} {k : Nat} (h : k < L.seen.length) : ansB L k = (inB 1 1000000000 (L.seen[k]).id && risesB (L.seen.map Sn.id) k && (decide ((L.seen[k]).code = 0) || inB 4 9 (L.seen[k]).code)) := by
  simp [ansB, List.getElem?_eq_getElem h]
theorem holdB_at {L : Led} {k : Nat} (h : k < L.hold.length) : holdB L k = (inB 1 1000000000 (L.hold[k]).id && risesB (L.hold.map Hld.id) k && pairB L (L.hold[k])) := by
  simp [holdB, List.getElem?_eq_getElem h]
/-- what l2Find tells, as a number -/
def FindIs (l : List Acc) (nm : ByteArray) (r : Int) : Prop := (∃ i, ∃ h : i < l.length, idxA l nm = some i ∧ r = (i : Int)) ∨ (idxA l nm = none ∧ r = -1)
theorem findIs_of {l : List Acc} {nm : ByteArray} {w w' : World} {e : Ending} (h : FindEnd l nm w e w') : Below w.heap.size w w' ∧ ∃ r, e = .returned (.int .i64 r) ∧ FindIs l nm r := by
  obtain ⟨hb, ⟨i, hi, h1, h2, he⟩ | ⟨h1, he⟩⟩ := h
  · exact ⟨hb, _, he, .inl ⟨i, hi, idxA_some hi h1 h2, rfl⟩⟩
  · exact ⟨hb, _, he, .inr ⟨idxA_none h1, rfl⟩⟩
theorem postB_at {L : Led} {k : Nat} (h : k < L.acc.length) : postB L k = inB (-1000000000000) 1000000000000 (L.acc[k]).posted := by
  simp [postB, List.getElem?_eq_getElem h]
theorem rises_ans {L : Led} {m : Nat} (h : m + 1 < L.seen.length) : risesB (L.seen.map Sn.id) (m + 1) = decide ((L.seen[m]).id < (L.seen[m + 1]).id) := by
  simp [risesB, List.getElem?_eq_getElem h, List.getElem?_eq_getElem (show m < L.seen.length by omega)]
theorem rises_hold {L : Led} {m : Nat} (h : m + 1 < L.hold.length) : risesB (L.hold.map Hld.id) (m + 1) = decide ((L.hold[m]).id < (L.hold[m + 1]).id) := by
  simp [risesB, List.getElem?_eq_getElem h, List.getElem?_eq_getElem (show m < L.hold.length by omega)]
theorem pairB_amount {L : Led} {x : Hld} (h : pairB L x = true) : 1 ≤ x.amount ∧ x.amount ≤ 1000000000000 := by
  unfold pairB at h
  split at h
  · simp only [Bool.and_eq_true] at h; exact inB_iff.1 h.2
  · cases h
theorem smallH_of {L : Led} (g : L.hold.length ≤ 10) (h : allTo (holdB L) L.hold.length = true) : SmallH L.hold := by
  refine ⟨g, fun x hx => ?_⟩
  obtain ⟨i, hi, rfl⟩ := List.getElem_of_mem hx
  have h1 := allTo_get h hi
  rw [holdB_at hi] at h1
  simp only [Bool.and_eq_true] at h1
  have := pairB_amount h1.2
  omega
theorem smallA_of {L : Led} (g : L.acc.length ≤ 12) (h : allTo (postB L) L.acc.length = true) : SmallA L.acc := by
  refine ⟨g, fun x hx => ?_⟩
  obtain ⟨i, hi, rfl⟩ := List.getElem_of_mem hx
  have h1 := allTo_get h hi
  rw [postB_at hi] at h1
  exact inB_iff.1 h1
theorem accB_at {L : Led} {k : Nat} (h : k < L.acc.length) : accB L k = (nameB (L.acc[k]).name && curB (L.acc[k]).cur && inB (-1) 1000000000000 (L.acc[k]).limit && nameRises L k && withinB (L.acc[k]) (heldL (L.acc[k]).name L.hold) && decide (totL (L.acc[k]).cur L.acc = 0)) := by
  simp [accB, List.getElem?_eq_getElem h]
theorem rises_name {L : Led} {m : Nat} (h : m + 1 < L.acc.length) : nameRises L (m + 1) = Op.bytesLess (L.acc[m]).name.toList (L.acc[m + 1]).name.toList := by
  simp [nameRises, List.getElem?_eq_getElem h, List.getElem?_eq_getElem (show m < L.acc.length by omega)]
end Go.Proofs.YteaopalhbnhbaaaGreatDoor
/- The contracts of slices.Clone, of holds and of answers: a row of its own. -/
namespace Go.Proofs.YteaopalhbnhbaaaGreatDoor
open Go.ChangeShapes Go.WideShapes Go.ChangeAt Go.RowKit
set_option linter.unusedVariables false
set_option maxRecDepth 100000
def hldCells (x : Hld) : List Value := [.int .i64 x.id, .string x.fr, .string x.to, .int .i64 x.amount]
def snCells (x : Sn) : List Value := [.int .i64 x.id, .int .i64 x.code]
def accCells (x : Acc) : List Value := [.string x.name, .string x.cur, .int .i64 x.limit, .int .i64 x.posted]
theorem hld_news {w : World} {b off : Nat} {l : List Hld} (h : HoldAt w (some ⟨b, off, none⟩) l) : ∀ j u, (l.flatMap hldCells)[j]? = some u → w.cell? ((⟨b, off, none⟩ : Addr).add j) = some u := by
  intro j u hj
  have hlen := flat_len hldCells 4 (fun _ => rfl) l
  have hj' : j < (l.flatMap hldCells).length := (List.getElem?_eq_some_iff.1 hj).1
  rw [hlen] at hj'
  have hi : j / 4 < l.length := by omega
  have hr : j % 4 < 4 := Nat.mod_lt _ (by decide)
  have hg := flat_get hldCells 4 (fun _ => rfl) l (j / 4) hi (j % 4) hr
  rw [show j / 4 * 4 + j % 4 = j by omega, hj] at hg
  obtain ⟨b', off', e, _, c0, c1, c2, c3, _⟩ := h (j / 4) hi
  simp only [Option.some.injEq, Addr.mk.injEq, and_true] at e
  obtain ⟨rfl, rfl⟩ := e
  rw [addr_add]
  have : j % 4 = 0 ∨ j % 4 = 1 ∨ j % 4 = 2 ∨ j % 4 = 3 := by omega
  rcases this with h0 | h0 | h0 | h0 <;> rw [h0] at hg <;> simp only [hldCells, List.getElem?_cons_zero, List.getElem?_cons_succ, Option.some.injEq] at hg <;> subst hg
  · rw [show off + j = off + j / 4 * 4 by omega]; exact c0
  · rw [show off + j = off + j / 4 * 4 + 1 by omega]; exact c1
  · rw [show off + j = off + j / 4 * 4 + 2 by omega]; exact c2
  · rw [show off + j = off + j / 4 * 4 + 3 by omega]; exact c3
theorem ans_news {w : World} {b off : Nat} {l : List Sn} (h : AnsAt w (some ⟨b, off, none⟩) l) : ∀ j u, (l.flatMap snCells)[j]? = some u → w.cell? ((⟨b, off, none⟩ : Addr).add j) = some u := by
  intro j u hj
  have hlen := flat_len snCells 2 (fun _ => rfl) l
  have hj' : j < (l.flatMap snCells).length := (List.getElem?_eq_some_iff.1 hj).1
  rw [hlen] at hj'
  have hi : j / 2 < l.length := by omega
  have hr : j % 2 < 2 := Nat.mod_lt _ (by decide)
  have hg := flat_get snCells 2 (fun _ => rfl) l (j / 2) hi (j % 2) hr
  rw [show j / 2 * 2 + j % 2 = j by omega, hj] at hg
  obtain ⟨b', off', e, _, c0, c1, _⟩ := h (j / 2) hi
  simp only [Option.some.injEq, Addr.mk.injEq, and_true] at e
  obtain ⟨rfl, rfl⟩ := e
  rw [addr_add]
  have : j % 2 = 0 ∨ j % 2 = 1 := by omega
  rcases this with h0 | h0 <;> rw [h0] at hg <;> simp only [snCells, List.getElem?_cons_zero, List.getElem?_cons_succ, Option.some.injEq] at hg <;> subst hg
  · rw [show off + j = off + j / 2 * 2 by omega]; exact c0
  · rw [show off + j = off + j / 2 * 2 + 1 by omega]; exact c1
/-- a row that is owned, read anew -/
theorem hld_owned {w : World} {base : Nat} {e : TypeId} {v : Value} {l : List Hld} (h : w.ownsRow base e 4 v l.length (l.flatMap hldCells)) (hs : ∀ x ∈ l, x.fr.size ≤ maxLen ∧ x.to.size ≤ maxLen ∧ I64 x.id ∧ I64 x.amount) :
    ∃ a cap, v = .slice a l.length cap ∧ HoldAt w a l := by
  obtain ⟨_, ⟨rfl, h0⟩ | ⟨g, cap, cur, rfl, hb, hg, hn, hc, hz, ht⟩⟩ := h
  · exact ⟨none, 0, by rw [h0], fun i hi => by omega⟩
  · refine ⟨_, _, rfl, fun i hi => ?_⟩
    have hgs : g < w.heap.size := (Array.getElem?_eq_some_iff.1 hg).1
    have hcell : ∀ r, r < 4 → w.cell? ⟨g, 0 + i * 4 + r, none⟩ = (hldCells l[i])[r]? := fun r hr => by
      have h1 := flat_get hldCells 4 (fun _ => rfl) l i hi r hr
      have hlt : i * 4 + r < l.length * 4 := by omega
      rw [← ht, List.getElem?_take_of_lt hlt] at h1
      simp only [World.cell?, hg]
      rw [← h1]
      simp
    have hm := hs _ (List.getElem_mem hi)
    exact ⟨g, 0, rfl, hgs, by have := hcell 0 (by decide); simpa [hldCells] using this, by have := hcell 1 (by decide); simpa [hldCells] using this, by have := hcell 2 (by decide); simpa [hldCells] using this, by have := hcell 3 (by decide); simpa [hldCells] using this, hm⟩
theorem ans_owned {w : World} {base : Nat} {e : TypeId} {v : Value} {l : List Sn} (h : w.ownsRow base e 2 v l.length (l.flatMap snCells)) (hs : ∀ x ∈ l, I64 x.id ∧ I64 x.code) :
    ∃ a cap, v = .slice a l.length cap ∧ AnsAt w a l := by
  obtain ⟨_, ⟨rfl, h0⟩ | ⟨g, cap, cur, rfl, hb, hg, hn, hc, hz, ht⟩⟩ := h
  · exact ⟨none, 0, by rw [h0], fun i hi => by omega⟩
  · refine ⟨_, _, rfl, fun i hi => ?_⟩
    have hgs : g < w.heap.size := (Array.getElem?_eq_some_iff.1 hg).1
    have hcell : ∀ r, r < 2 → w.cell? ⟨g, 0 + i * 2 + r, none⟩ = (snCells l[i])[r]? := fun r hr => by
      have h1 := flat_get snCells 2 (fun _ => rfl) l i hi r hr
      have hlt : i * 2 + r < l.length * 2 := by omega
      rw [← ht, List.getElem?_take_of_lt hlt] at h1
      simp only [World.cell?, hg]
      rw [← h1]
      simp
    have hm := hs _ (List.getElem_mem hi)
    exact ⟨g, 0, rfl, hgs, by have := hcell 0 (by decide); simpa [snCells] using this, by have := hcell 1 (by decide); simpa [snCells] using this, hm⟩
theorem hld_parts {w : World} {a : Option Addr} {l : List Hld} (h : HoldAt w a l) : ∀ x ∈ l, x.fr.size ≤ maxLen ∧ x.to.size ≤ maxLen ∧ I64 x.id ∧ I64 x.amount := fun x hx => by
  obtain ⟨i, hi, rfl⟩ := List.getElem_of_mem hx
  obtain ⟨_, _, _, _, _, _, _, _, r⟩ := h i hi
  exact r
theorem ans_parts {w : World} {a : Option Addr} {l : List Sn} (h : AnsAt w a l) : ∀ x ∈ l, I64 x.id ∧ I64 x.code := fun x hx => by
  obtain ⟨i, hi, rfl⟩ := List.getElem_of_mem hx
  obtain ⟨_, _, _, _, _, _, r⟩ := h i hi
  exact r
theorem hld_one (l : List Hld) : ∀ u ∈ l.flatMap hldCells, u.oneCell' = true := fun u hu => by
  obtain ⟨x, _, hx⟩ := List.mem_flatMap.1 hu
  simp only [hldCells, List.mem_cons, List.not_mem_nil, or_false] at hx
  rcases hx with rfl | rfl | rfl | rfl <;> rfl
theorem ans_one (l : List Sn) : ∀ u ∈ l.flatMap snCells, u.oneCell' = true := fun u hu => by
  obtain ⟨x, _, hx⟩ := List.mem_flatMap.1 hu
  simp only [snCells, List.mem_cons, List.not_mem_nil, or_false] at hx
  rcases hx with rfl | rfl <;> rfl
def CloneH (l : List Hld) (w : World) (e : Ending) (w' : World) : Prop := Below w.heap.size w w' ∧ ∃ a cap, e = .returned (.slice a l.length cap) ∧ HoldAt w' a l
def CloneA (l : List Sn) (w : World) (e : Ending) (w' : World) : Prop := Below w.heap.size w w' ∧ ∃ a cap, e = .returned (.slice a l.length cap) ∧ AnsAt w' a l
theorem below_grown {w w' : World} {row : Option Nat} (h : w.grownBy w' row) {w0 : World} (k : Below w0.heap.size w0 w) (hr : ∀ j, row = some j → w0.heap.size ≤ j) : Below w0.heap.size w0 w' := k.grown h k.size hr
theorem info46 : (Tryz.prog.info? 53).map (fun i => (i.zero, i.size, i.bytes)) = some (some (.agg #[.int .i64 0, .string ByteArray.empty, .string ByteArray.empty, .int .i64 0]), 4, 48) := by kernel_rfl
theorem info51 : (Tryz.prog.info? 55).map (fun i => (i.zero, i.size, i.bytes)) = some (some (.agg #[.int .i64 0, .int .i64 0]), 2, 16) := by kernel_rfl
theorem Shut2.mk' {p : Prop} (h : p) : Shut2 p := h
set_option maxRecDepth 100000 in
set_option maxHeartbeats 1000000 in
theorem cloneH_aux (ad : Addr) (l : List Hld) (cap : Nat) (w : World) (hl : l.length ≤ 1048576) (hn : ∀ j u, (l.flatMap hldCells)[j]? = some u → w.cell? (ad.add j) = some u) (hs : ∀ x ∈ l, x.fr.size ≤ maxLen ∧ x.to.size ≤ maxLen ∧ I64 x.id ∧ I64 x.amount) :
    Calls Tryz.prog 72 #[.slice (some ad) l.length cap] w fun e w' => CloneH l w e w' := by
  obtain ⟨i0, hi, hz0, hz1, hz2⟩ := info_parts info46
  have HN : Hid _ := hide hn
  have HS : Hid _ := hide hs
  clear hn hs
  have he : ∀ w : World, (binOp .eql 25 (.slice (some ad) l.length cap) (.slice none 0 0)).run Tryz.prog w = .ok (.bool false) w := fun _ => rfl
  have u30 : Tryz.prog.underlying 25 = some (.slice 53) := by kernel_rfl
  go_enter Tryz.func72, Tryz.ntmps72
  go_wp2_with (first | (at_builtin; refine Shut2.mk ?_) | go_in)
  refine Shut2.mk' ?_
  refine wpList_append_own_at _ rfl _ _ 25 rfl w.heap.size 53 i0 _ 4 48 u30 hi hz0 hz1 hz2 rfl (by decide) _ 0 [] rfl ?own ad l.length cap (l.flatMap hldCells) rfl (flat_len hldCells 4 (fun _ => rfl) l) ?news (hld_one l) (by unfold maxLen; omega) (by omega) ?base ?_
  case own => exact World.ownsRow_made w #[] 0 (Nat.le_refl _) (by unfold maxLen; omega) rfl
  case news => exact fun j u hj => (World.grownBy_alloc w _ none).cell (HN.out j u hj) (by simp)
  case base => simp
  intro v' w1 hown' hgrow hnil hloc
  have HB : Hid (Below w.heap.size w w1) := hide (below_grown hgrow (below_alloc (Below.refl _ _) _) (fun j hj => by cases hj; exact Nat.le_refl _))
  have HO : Hid _ := hide hown'
  clear hown' hgrow hnil hloc
  go_wp2
  go_ret
  refine ⟨HB.out, ?_⟩
  have ho := HO.out
  rw [List.nil_append, Nat.zero_add] at ho
  obtain ⟨a', cap', rfl, ha⟩ := hld_owned ho HS.out
  exact ⟨a', cap', rfl, ha⟩
set_option maxRecDepth 100000 in
set_option maxHeartbeats 1000000 in
theorem cloneH_any (a : Option Addr) (l : List Hld) (cap : Nat) (w : World) (hl : l.length ≤ 1048576) (h : HoldAt w a l) :
    Calls Tryz.prog 72 #[.slice a l.length cap] w fun e w' => CloneH l w e w' := by
  match a with
  | some ad =>
    cases l with
    | nil => exact cloneH_aux ad [] cap w hl (fun j u hj => by simp at hj) (fun x hx => by cases hx)
    | cons x xs =>
      obtain ⟨b, off, e, _⟩ := h 0 (by simp)
      cases e
      exact cloneH_aux _ _ cap w hl (hld_news h) (hld_parts h)
  | none =>
    have h0 : l.length = 0 := by
      rcases Nat.eq_zero_or_pos l.length with h0 | h0
      · exact h0
      · obtain ⟨b, off, e, _⟩ := h 0 h0
        cases e
    obtain rfl : l = [] := List.eq_nil_of_length_eq_zero h0
    have he : ∀ w : World, (binOp .eql 25 (.slice none 0 cap) (.slice none 0 0)).run Tryz.prog w = .ok (.bool true) w := fun _ => rfl
    show Calls Tryz.prog 72 #[.slice none 0 cap] w fun e w' => CloneH [] w e w'
    go_enter Tryz.func72, Tryz.ntmps72
    go_wp2
    go_ret
    exact ⟨Below.refl _ _, none, 0, rfl, fun i hi => by simp at hi⟩
set_option maxRecDepth 100000 in
set_option maxHeartbeats 1000000 in
theorem cloneA_aux (ad : Addr) (l : List Sn) (cap : Nat) (w : World) (hl : l.length ≤ 1048576) (hn : ∀ j u, (l.flatMap snCells)[j]? = some u → w.cell? (ad.add j) = some u) (hs : ∀ x ∈ l, I64 x.id ∧ I64 x.code) :
    Calls Tryz.prog 73 #[.slice (some ad) l.length cap] w fun e w' => CloneA l w e w' := by
  obtain ⟨i0, hi, hz0, hz1, hz2⟩ := info_parts info51
  have HN : Hid _ := hide hn
  have HS : Hid _ := hide hs
  clear hn hs
  have he : ∀ w : World, (binOp .eql 26 (.slice (some ad) l.length cap) (.slice none 0 0)).run Tryz.prog w = .ok (.bool false) w := fun _ => rfl
  have u30 : Tryz.prog.underlying 26 = some (.slice 55) := by kernel_rfl
  go_enter Tryz.func73, Tryz.ntmps73
  go_wp2_with (first | (at_builtin; refine Shut2.mk ?_) | go_in)
  refine Shut2.mk' ?_
  refine wpList_append_own_at _ rfl _ _ 26 rfl w.heap.size 55 i0 _ 2 16 u30 hi hz0 hz1 hz2 rfl (by decide) _ 0 [] rfl ?own ad l.length cap (l.flatMap snCells) rfl (flat_len snCells 2 (fun _ => rfl) l) ?news (ans_one l) (by unfold maxLen; omega) (by omega) ?base ?_
  case own => exact World.ownsRow_made w #[] 0 (Nat.le_refl _) (by unfold maxLen; omega) rfl
  case news => exact fun j u hj => (World.grownBy_alloc w _ none).cell (HN.out j u hj) (by simp)
  case base => simp
  intro v' w1 hown' hgrow hnil hloc
  have HB : Hid (Below w.heap.size w w1) := hide (below_grown hgrow (below_alloc (Below.refl _ _) _) (fun j hj => by cases hj; exact Nat.le_refl _))
  have HO : Hid _ := hide hown'
  clear hown' hgrow hnil hloc
  go_wp2
  go_ret
  refine ⟨HB.out, ?_⟩
  have ho := HO.out
  rw [List.nil_append, Nat.zero_add] at ho
  obtain ⟨a', cap', rfl, ha⟩ := ans_owned ho HS.out
  exact ⟨a', cap', rfl, ha⟩
set_option maxRecDepth 100000 in
set_option maxHeartbeats 1000000 in
theorem cloneA_any (a : Option Addr) (l : List Sn) (cap : Nat) (w : World) (hl : l.length ≤ 1048576) (h : AnsAt w a l) :
    Calls Tryz.prog 73 #[.slice a l.length cap] w fun e w' => CloneA l w e w' := by
  match a with
  | some ad =>
    cases l with
    | nil => exact cloneA_aux ad [] cap w hl (fun j u hj => by simp at hj) (fun x hx => by cases hx)
    | cons x xs =>
      obtain ⟨b, off, e, _⟩ := h 0 (by simp)
      cases e
      exact cloneA_aux _ _ cap w hl (ans_news h) (ans_parts h)
  | none =>
    have h0 : l.length = 0 := by
      rcases Nat.eq_zero_or_pos l.length with h0 | h0
      · exact h0
      · obtain ⟨b, off, e, _⟩ := h 0 h0
        cases e
    obtain rfl : l = [] := List.eq_nil_of_length_eq_zero h0
    have he : ∀ w : World, (binOp .eql 26 (.slice none 0 cap) (.slice none 0 0)).run Tryz.prog w = .ok (.bool true) w := fun _ => rfl
    show Calls Tryz.prog 73 #[.slice none 0 cap] w fun e w' => CloneA [] w e w'
    go_enter Tryz.func73, Tryz.ntmps73
    go_wp2
    go_ret
    exact ⟨Below.refl _ _, none, 0, rfl, fun i hi => by simp at hi⟩
end Go.Proofs.YteaopalhbnhbaaaGreatDoor
/- What a command makes of a ledger, as data. -/
namespace Go.Proofs.YteaopalhbnhbaaaGreatDoor
open Go.ChangeShapes Go.WideShapes Go.ChangeAt Go.RowKit
set_option linter.unusedVariables false
set_option maxRecDepth 100000
theorem accLen (x : Acc) : (accCells x).length = 4 := rfl
theorem hldLen (x : Hld) : (hldCells x).length = 4 := rfl
theorem snLen (x : Sn) : (snCells x).length = 2 := rfl
def AccW (x : Acc) : Prop := x.name.size ≤ maxLen ∧ x.cur.size ≤ maxLen ∧ I64 x.limit ∧ I64 x.posted
def HldW (x : Hld) : Prop := x.fr.size ≤ maxLen ∧ x.to.size ≤ maxLen ∧ I64 x.id ∧ I64 x.amount
def SnW (x : Sn) : Prop := I64 x.id ∧ I64 x.code
/-- a ledger whose texts and numbers fit -/
structure LedW (L : Led) : Prop where
  acc : ∀ x ∈ L.acc, AccW x
  hold : ∀ x ∈ L.hold, HldW x
  seen : ∀ x ∈ L.seen, SnW x
theorem AccAt.row {w : World} {a : Option Addr} {l : List Acc} (h : AccAt w a l) : RowAt 4 accCells w a l := fun i hi => by
  obtain ⟨b, off, e, hb, h0, h1, h2, h3, _⟩ := h i hi
  exact ⟨b, off, e, hb, fun r v hv => by
    match r, hv with
    | 0, hv => simp [accCells] at hv; rw [← hv]; exact h0
    | 1, hv => simp [accCells] at hv; rw [← hv]; exact h1
    | 2, hv => simp [accCells] at hv; rw [← hv]; exact h2
    | 3, hv => simp [accCells] at hv; rw [← hv]; exact h3⟩
theorem HoldAt.row {w : World} {a : Option Addr} {l : List Hld} (h : HoldAt w a l) : RowAt 4 hldCells w a l := fun i hi => by
  obtain ⟨b, off, e, hb, h0, h1, h2, h3, _⟩ := h i hi
  exact ⟨b, off, e, hb, fun r v hv => by
    match r, hv with
    | 0, hv => simp [hldCells] at hv; rw [← hv]; exact h0
    | 1, hv => simp [hldCells] at hv; rw [← hv]; exact h1
    | 2, hv => simp [hldCells] at hv; rw [← hv]; exact h2
    | 3, hv => simp [hldCells] at hv; rw [← hv]; exact h3⟩
theorem AnsAt.row {w : World} {a : Option Addr} {l : List Sn} (h : AnsAt w a l) : RowAt 2 snCells w a l := fun i hi => by
  obtain ⟨b, off, e, hb, h0, h1, _⟩ := h i hi
  exact ⟨b, off, e, hb, fun r v hv => by
    match r, hv with
    | 0, hv => simp [snCells] at hv; rw [← hv]; exact h0
    | 1, hv => simp [snCells] at hv; rw [← hv]; exact h1⟩
theorem RowAt.acc {w : World} {a : Option Addr} {l : List Acc} (h : RowAt 4 accCells w a l) (hw : ∀ x ∈ l, AccW x) : AccAt w a l := fun i hi => by
  obtain ⟨b, off, e, hb, hc⟩ := h i hi
  obtain ⟨w1, w2, w3, w4⟩ := hw _ (List.getElem_mem hi)
  exact ⟨b, off, e, hb, hc 0 _ rfl, hc 1 _ rfl, hc 2 _ rfl, hc 3 _ rfl, w1, w2, w3, w4⟩
theorem RowAt.hold {w : World} {a : Option Addr} {l : List Hld} (h : RowAt 4 hldCells w a l) (hw : ∀ x ∈ l, HldW x) : HoldAt w a l := fun i hi => by
  obtain ⟨b, off, e, hb, hc⟩ := h i hi
  obtain ⟨w1, w2, w3, w4⟩ := hw _ (List.getElem_mem hi)
  exact ⟨b, off, e, hb, hc 0 _ rfl, hc 1 _ rfl, hc 2 _ rfl, hc 3 _ rfl, w1, w2, w3, w4⟩
theorem RowAt.ans {w : World} {a : Option Addr} {l : List Sn} (h : RowAt 2 snCells w a l) (hw : ∀ x ∈ l, SnW x) : AnsAt w a l := fun i hi => by
  obtain ⟨b, off, e, hb, hc⟩ := h i hi
  obtain ⟨w1, w2⟩ := hw _ (List.getElem_mem hi)
  exact ⟨b, off, e, hb, hc 0 _ rfl, hc 1 _ rfl, w1, w2⟩
theorem AccAt.wf {w : World} {a : Option Addr} {l : List Acc} (h : AccAt w a l) : ∀ x ∈ l, AccW x := fun x hx => by
  obtain ⟨i, hi, rfl⟩ := List.mem_iff_getElem.1 hx
  obtain ⟨_, _, _, _, _, _, _, _, r⟩ := h i hi
  exact r
theorem HoldAt.wf {w : World} {a : Option Addr} {l : List Hld} (h : HoldAt w a l) : ∀ x ∈ l, HldW x := fun x hx => by
  obtain ⟨i, hi, rfl⟩ := List.mem_iff_getElem.1 hx
  obtain ⟨_, _, _, _, _, _, _, _, r⟩ := h i hi
  exact r
theorem AnsAt.wf {w : World} {a : Option Addr} {l : List Sn} (h : AnsAt w a l) : ∀ x ∈ l, SnW x := fun x hx => by
  obtain ⟨i, hi, rfl⟩ := List.mem_iff_getElem.1 hx
  obtain ⟨_, _, _, _, _, _, r⟩ := h i hi
  exact r
theorem LedAt.wf {w : World} {a h s : Option Addr} {L : Led} (k : LedAt w a h s L) : LedW L := ⟨k.acc.wf, k.hold.wf, k.seen.wf⟩
theorem acc_one (l : List Acc) : ∀ u ∈ l.flatMap accCells, u.oneCell' = true := fun u hu => by
  simp only [List.mem_flatMap, accCells, List.mem_cons, List.not_mem_nil, or_false] at hu
  obtain ⟨x, _, rfl | rfl | rfl | rfl⟩ := hu <;> rfl
/-- the first place of a number -/
def fi (ids : List Int) (x : Int) : Option Nat := ids.findIdx? (fun y => y == x)
/-- what was answered -/
def seenV (l : List Sn) (id : Int) : Int := match fi (l.map Sn.id) id with
  | none => -1
  | some k => match l[k]? with
    | none => -1
    | some x => x.code
/-- a number more that was answered -/
def seeL (l : List Sn) (id code : Int) : List Sn := l.takeWhile (fun x => decide (x.id < id)) ++ ⟨id, code⟩ :: l.dropWhile (fun x => decide (x.id < id))
def ltB (a b : ByteArray) : Bool := !Op.bytesLess b.toList a.toList && !(b.toList == a.toList)
/-- an account more, at its place -/
def insA (l : List Acc) (x : Acc) : List Acc := l.takeWhile (fun y => !ltB x.name y.name) ++ x :: l.dropWhile (fun y => !ltB x.name y.name)
def insH (l : List Hld) (x : Hld) : List Hld := l.takeWhile (fun y => decide (y.id < x.id)) ++ x :: l.dropWhile (fun y => decide (y.id < x.id))
def postA (x : Acc) (d : Int) : Acc := ⟨x.name, x.cur, x.limit, x.posted + d⟩
def setP (l : List Acc) (i : Nat) (d : Int) : List Acc := match l[i]? with
  | none => l
  | some x => l.set i (postA x d)
def payA (l : List Acc) (i j : Nat) (am : Int) : List Acc := setP (setP l i (-am)) j am
def openM (L : Led) (c : Cm) : Led × Int := match idxA L.acc c.fr with
  | some _ => (L, 4)
  | none => (⟨insA L.acc ⟨c.fr, c.to, c.am, 0⟩, L.hold, L.seen⟩, 0)
def rangeB (l : List Acc) (i : Nat) : Bool := match l[i]? with
  | none => false
  | some x => inB (-1000000000000) 1000000000000 x.posted
def keepsB (l : List Acc) (h : List Hld) (i : Nat) : Bool := match l[i]? with
  | none => false
  | some x => withinB x (heldL x.name h)
def payM (L : Led) (i j : Nat) (am : Int) : Led × Int :=
  if rangeB (payA L.acc i j am) i && rangeB (payA L.acc i j am) j then
    (if keepsB (payA L.acc i j am) L.hold i then (⟨payA L.acc i j am, L.hold, L.seen⟩, 0) else (L, 7))
  else (L, 8)
def holdM (L : Led) (i : Nat) (c : Cm) : Led × Int :=
  if 1000000000000 < heldL c.fr (insH L.hold ⟨c.id, c.fr, c.to, c.am⟩) then (L, 8)
  else if keepsB L.acc (insH L.hold ⟨c.id, c.fr, c.to, c.am⟩) i then (⟨L.acc, insH L.hold ⟨c.id, c.fr, c.to, c.am⟩, L.seen⟩, 0)
  else (L, 7)
def sameC (l : List Acc) (i j : Nat) : Bool := match l[i]?, l[j]? with
  | some x, some y => sameB x.cur y.cur
  | _, _ => false
def moveM (L : Led) (c : Cm) : Led × Int := match idxA L.acc c.fr, idxA L.acc c.to with
  | some i, some j => if sameC L.acc i j then (if c.kind = 2 then payM L i j c.am else holdM L i c) else (L, 6)
  | _, _ => (L, 5)
def endM (L : Led) (c : Cm) : Led × Int := match L.hold.find? (fun h => h.id == c.ref) with
  | none => (L, 9)
  | some h =>
    if c.kind = 5 then (⟨L.acc, L.hold.filter (fun h => !(h.id == c.ref)), L.seen⟩, 0)
    else match idxA L.acc h.fr, idxA L.acc h.to with
      | some i, some j =>
        if (payM ⟨L.acc, L.hold.filter (fun h => !(h.id == c.ref)), L.seen⟩ i j h.amount).2 = 0 then ((payM ⟨L.acc, L.hold.filter (fun h => !(h.id == c.ref)), L.seen⟩ i j h.amount).1, 0)
        else (L, (payM ⟨L.acc, L.hold.filter (fun h => !(h.id == c.ref)), L.seen⟩ i j h.amount).2)
      | _, _ => (L, 5)
def fullB (L : Led) (c : Cm) : Bool := decide (L.seen.length = 40) || (decide (c.kind = 1) && decide (L.acc.length = 12)) || (decide (c.kind = 3) && (decide (L.hold.length = 10) || L.hold.any (fun h => h.id == c.id)))
def doM (L : Led) (c : Cm) : Led × Int := if c.kind = 1 then openM L c else if c.kind = 2 ∨ c.kind = 3 then moveM L c else endM L c
def applM (L : Led) (c : Cm) : Led × Int :=
  if ledS L = false then (⟨[], [], []⟩, 1)
  else if c.B = false then (L, 2)
  else if 0 ≤ seenV L.seen c.id then (L, seenV L.seen c.id)
  else if fullB L c then (L, 3)
  else (⟨(doM L c).1.acc, (doM L c).1.hold, seeL L.seen c.id (doM L c).2⟩, (doM L c).2)
/-- a ledger's rows -/
structure LP where
  aa : Option Addr
  ca : Nat
  ha : Option Addr
  ch : Nat
  sa : Option Addr
  cs : Nat
def ledV (p : LP) (L : Led) : Value := .agg #[.slice p.aa L.acc.length p.ca, .slice p.ha L.hold.length p.ch, .slice p.sa L.seen.length p.cs]
def ledC (p : LP) (L : Led) : List Value := [.slice p.aa L.acc.length p.ca, .slice p.ha L.hold.length p.ch, .slice p.sa L.seen.length p.cs]
def ledL (p : LP) (L : Led) : List Rs := [orow 4 accCells p.aa p.ca L.acc, orow 4 hldCells p.ha p.ch L.hold, orow 2 snCells p.sa p.cs L.seen]
/-- slices as they can be -/
structure SlOk (a : Option Addr) (c n : Nat) : Prop where
  near : Near a
  nocap : a = none → c = 0
  room : n ≤ c
structure PlOk (p : LP) (D : Led) : Prop where
  a : SlOk p.aa p.ca D.acc.length
  h : SlOk p.ha p.ch D.hold.length
  s : SlOk p.sa p.cs D.seen.length
/-- a ledger of the call's own, and a code -/
def ApplEnd (R : Led × Int) (w : World) (e : Ending) (w' : World) : Prop := ∃ p : LP, e = .returned (.tuple #[ledV p R.1, .int .i64 R.2]) ∧ PlOk p R.1 ∧ Pool [] w [ledL p R.1] w'
end Go.Proofs.YteaopalhbnhbaaaGreatDoor
/- Rows of a ledger, row by row. -/
namespace Go.Proofs.YteaopalhbnhbaaaGreatDoor
open Go.ChangeShapes Go.WideShapes Go.ChangeAt Go.RowKit
set_option linter.unusedVariables false
set_option maxRecDepth 100000
theorem acc_row {w : World} {a : Option Addr} {l : List Acc} (h : RowAt 4 accCells w a l) (i : Nat) (hi : i < l.length) : ∃ b off, a = some ⟨b, off, none⟩ ∧ b < w.heap.size ∧ w.cell? ⟨b, off + i * 4, none⟩ = some (.string l[i].name) ∧ w.cell? ⟨b, off + i * 4 + 1, none⟩ = some (.string l[i].cur) ∧ w.cell? ⟨b, off + i * 4 + 2, none⟩ = some (.int .i64 l[i].limit) ∧ w.cell? ⟨b, off + i * 4 + 3, none⟩ = some (.int .i64 l[i].posted) := by
  obtain ⟨b, off, e, hb, hc⟩ := h i hi
  exact ⟨b, off, e, hb, hc 0 _ rfl, hc 1 _ rfl, hc 2 _ rfl, hc 3 _ rfl⟩
theorem hld_row {w : World} {a : Option Addr} {l : List Hld} (h : RowAt 4 hldCells w a l) (i : Nat) (hi : i < l.length) : ∃ b off, a = some ⟨b, off, none⟩ ∧ b < w.heap.size ∧ w.cell? ⟨b, off + i * 4, none⟩ = some (.int .i64 l[i].id) ∧ w.cell? ⟨b, off + i * 4 + 1, none⟩ = some (.string l[i].fr) ∧ w.cell? ⟨b, off + i * 4 + 2, none⟩ = some (.string l[i].to) ∧ w.cell? ⟨b, off + i * 4 + 3, none⟩ = some (.int .i64 l[i].amount) := by
  obtain ⟨b, off, e, hb, hc⟩ := h i hi
  exact ⟨b, off, e, hb, hc 0 _ rfl, hc 1 _ rfl, hc 2 _ rfl, hc 3 _ rfl⟩
theorem sn_row {w : World} {a : Option Addr} {l : List Sn} (h : RowAt 2 snCells w a l) (i : Nat) (hi : i < l.length) : ∃ b off, a = some ⟨b, off, none⟩ ∧ b < w.heap.size ∧ w.cell? ⟨b, off + i * 2, none⟩ = some (.int .i64 l[i].id) ∧ w.cell? ⟨b, off + i * 2 + 1, none⟩ = some (.int .i64 l[i].code) := by
  obtain ⟨b, off, e, hb, hc⟩ := h i hi
  exact ⟨b, off, e, hb, hc 0 _ rfl, hc 1 _ rfl⟩
end Go.Proofs.YteaopalhbnhbaaaGreatDoor
/- The contracts of the laws' szLedger and its parts. -/
namespace Go.Proofs.YteaopalhbnhbaaaGreatDoor
open Go.ChangeShapes Go.WideShapes Go.ChangeAt Go.RowKit
set_option linter.unusedVariables false
set_option maxRecDepth 100000
/-- some number, at most what was left -/
def SzEnd (left : Int) (n : Nat) (w : World) (e : Ending) (w' : World) : Prop := Below w.heap.size w w' ∧ ∃ r : Int, e = .returned (.int .i64 r) ∧ -1 ≤ r ∧ (0 ≤ r → r + n ≤ left)
theorem box_on {w a b : World} {o : Obj} (h : Below (w.heap.size + 1) (w.alloc o) a) (k : Below a.heap.size a b) : Below (w.heap.size + 1) (w.alloc o) b :=
  h.trans (k.mono (by have := h.size; simpa using this))
theorem box_old {w wr : World} {o : Obj} (h : Below (w.heap.size + 1) (w.alloc o) wr) : Below w.heap.size w wr :=
  (below_alloc (Below.refl _ _) o).trans (h.mono (by omega))
/-- a great ledger has no room; else its lists are short -/
def SzLed (L : Led) (w : World) (e : Ending) (w' : World) : Prop := Below w.heap.size w w' ∧ ∃ r : Int, e = .returned (.int .i64 r) ∧ (0 ≤ r → L.acc.length ≤ 1048576 ∧ L.hold.length ≤ 1048576 ∧ L.seen.length ≤ 1048576)
end Go.Proofs.YteaopalhbnhbaaaGreatDoor
/- An argument of a ledger's type, opened. -/
namespace Go.Proofs.YteaopalhbnhbaaaGreatDoor
open Go.ChangeShapes Go.WideShapes Go.ChangeAt Go.RowKit
set_option linter.unusedVariables false
set_option maxRecDepth 100000
theorem list_of {A : Type} {Q : Nat → A → Prop} : ∀ {n : Nat}, (∀ i, i < n → ∃ x, Q i x) → ∃ l : List A, l.length = n ∧ ∀ i (hi : i < l.length), Q i l[i]
  | 0, _ => ⟨[], rfl, fun i hi => by simp at hi⟩
  | n + 1, h => by
    obtain ⟨l, hl, hq⟩ := list_of (n := n) (fun i hi => h i (by omega))
    obtain ⟨x, hx⟩ := h n (by omega)
    refine ⟨l ++ [x], by simp [hl], fun i hi => ?_⟩
    rcases Nat.lt_or_ge i l.length with h1 | h1
    · rw [List.getElem_append_left h1]; exact hq i h1
    · have : i = l.length := by simp at hi; omega
      subst this
      simp only [List.getElem_concat_length]
      rw [hl]; exact hx
theorem spot_none {w : World} {a : Addr} {v : Value} (h : w.cell? a = some v) : a = ⟨a.block, a.off, none⟩ := by
  obtain ⟨b, o, s⟩ := a
  cases s with
  | none => rfl
  | some x =>
    unfold World.cell? at h
    simp only at h
    split at h <;> simp at h
theorem add_at {b off i j : Nat} : ((⟨b, off, none⟩ : Addr).add i).add j = ⟨b, off + i + j, none⟩ := by
  unfold Addr.add
  by_cases hi : i = 0 <;> by_cases hj : j = 0 <;> simp [hi, hj, Nat.add_assoc]
theorem i64_of {n : Int} (h : (Lit.int .i64 n).wf = true) : I64 n := by
  simp only [Lit.wf, Bool.and_eq_true, decide_eq_true_eq] at h
  have e1 : IntKind.i64.min = -9223372036854775808 := by decide
  have e2 : IntKind.i64.max = 9223372036854775807 := by decide
  rw [e1, e2] at h
  exact h
theorem cells9 : Tryz.prog.cellsOf 9 = 1 := by kernel_rfl
theorem cells2 : Tryz.prog.cellsOf 2 = 1 := by kernel_rfl
theorem list4 {A : Type} (l : List A) (h : l.length = 4) : ∃ a b c d, l = [a, b, c, d] := by
  match l, h with
  | [a, b, c, d], _ => exact ⟨a, b, c, d, rfl⟩
theorem list3 {A : Type} (l : List A) (h : l.length = 3) : ∃ a b c, l = [a, b, c] := by
  match l, h with
  | [a, b, c], _ => exact ⟨a, b, c, rfl⟩
theorem list2 {A : Type} (l : List A) (h : l.length = 2) : ∃ a b, l = [a, b] := by
  match l, h with
  | [a, b], _ => exact ⟨a, b, rfl⟩
section
variable {H : Type} {enc : TypeId × Value → H} {W : World} {base : Nat} {sp : Nat → Bool} {held : Bool}
end
end Go.Proofs.YteaopalhbnhbaaaGreatDoor
/- The contracts of the laws' toLedger and its parts. -/
namespace Go.Proofs.YteaopalhbnhbaaaGreatDoor
open Go.ChangeShapes Go.WideShapes Go.ChangeAt Go.RowKit
set_option linter.unusedVariables false
set_option maxRecDepth 100000
theorem info44 : (Tryz.prog.info? 50).map (fun i => (i.zero, i.size, i.bytes)) = some (some (.agg #[.string ByteArray.empty, .string ByteArray.empty, .int .i64 0, .int .i64 0]), 4, 48) := by kernel_rfl
theorem rowMid_made {w x : World} {e : TypeId} {n size : Nat} {xs : List Value} {cells : Nat → List Value} (h : x.ownsRow w.heap.size e size (.slice (some ⟨w.heap.size, 0, none⟩) n n) n xs) : RowMid w.heap.size n size cells 0 x := by
  obtain ⟨hl, ⟨h0, _⟩ | ⟨g, cap, cur, h1, hb, hg, hn, hc, hz, ht⟩⟩ := h
  · cases h0
  · simp only [Value.slice.injEq, Option.some.injEq, Addr.mk.injEq, and_true, true_and] at h1
    obtain ⟨rfl, rfl⟩ := h1
    refine ⟨(Array.getElem?_eq_some_iff.1 hg).1, fun j hj => ?_, frozen_of_block hg, fun i r hi => by omega⟩
    have hj' : j < cur.size := by rw [hz]; exact hj
    exact ⟨cur[j], by simp [World.cell?, hg, Array.getElem?_eq_getElem hj']⟩
theorem toAccount_parts {w : World} {a : Option Addr} {l : List Acc} (h : AccAt w a l) : ∀ x ∈ l, x.name.size ≤ maxLen ∧ x.cur.size ≤ maxLen ∧ I64 x.limit ∧ I64 x.posted := fun x hx => by
  obtain ⟨i, hi, rfl⟩ := List.getElem_of_mem hx
  obtain ⟨_, _, _, _, _, _, _, _, r⟩ := h i hi
  exact r
theorem toAccount_done {g n : Nat} {l : List Acc} {x : World} (h : RowMid g n 4 (fun i => (l[i]?).elim [] accCells) l.length x) (hs : ∀ x ∈ l, x.name.size ≤ maxLen ∧ x.cur.size ≤ maxLen ∧ I64 x.limit ∧ I64 x.posted) : AccAt x (some ⟨g, 0, none⟩) l := fun i hi => by
  have hd : ∀ r, r < 4 → x.cell? ⟨g, 0 + i * 4 + r, none⟩ = ((l[i]?).elim [] accCells)[r]? := fun r hr => by rw [Nat.zero_add]; exact h.done i r hi hr
  exact ⟨g, 0, rfl, h.lt, by have := hd 0 (by decide); simpa [accCells, List.getElem?_eq_getElem hi] using this, by have := hd 1 (by decide); simpa [accCells, List.getElem?_eq_getElem hi] using this, by have := hd 2 (by decide); simpa [accCells, List.getElem?_eq_getElem hi] using this, by have := hd 3 (by decide); simpa [accCells, List.getElem?_eq_getElem hi] using this, hs _ (List.getElem_mem hi)⟩
/-- a row of the call's own that reads as the list -/
def ToAccount (l : List Acc) (w : World) (e : Ending) (w' : World) : Prop := Below w.heap.size w w' ∧ ∃ g, w.heap.size ≤ g ∧ e = .returned (.slice (some ⟨g, 0, none⟩) l.length l.length) ∧ AccAt w' (some ⟨g, 0, none⟩) l
theorem toHold_parts {w : World} {a : Option Addr} {l : List Hld} (h : HoldAt w a l) : ∀ x ∈ l, x.fr.size ≤ maxLen ∧ x.to.size ≤ maxLen ∧ I64 x.id ∧ I64 x.amount := fun x hx => by
  obtain ⟨i, hi, rfl⟩ := List.getElem_of_mem hx
  obtain ⟨_, _, _, _, _, _, _, _, r⟩ := h i hi
  exact r
theorem toHold_done {g n : Nat} {l : List Hld} {x : World} (h : RowMid g n 4 (fun i => (l[i]?).elim [] hldCells) l.length x) (hs : ∀ x ∈ l, x.fr.size ≤ maxLen ∧ x.to.size ≤ maxLen ∧ I64 x.id ∧ I64 x.amount) : HoldAt x (some ⟨g, 0, none⟩) l := fun i hi => by
  have hd : ∀ r, r < 4 → x.cell? ⟨g, 0 + i * 4 + r, none⟩ = ((l[i]?).elim [] hldCells)[r]? := fun r hr => by rw [Nat.zero_add]; exact h.done i r hi hr
  exact ⟨g, 0, rfl, h.lt, by have := hd 0 (by decide); simpa [hldCells, List.getElem?_eq_getElem hi] using this, by have := hd 1 (by decide); simpa [hldCells, List.getElem?_eq_getElem hi] using this, by have := hd 2 (by decide); simpa [hldCells, List.getElem?_eq_getElem hi] using this, by have := hd 3 (by decide); simpa [hldCells, List.getElem?_eq_getElem hi] using this, hs _ (List.getElem_mem hi)⟩
/-- a row of the call's own that reads as the list -/
def ToHold (l : List Hld) (w : World) (e : Ending) (w' : World) : Prop := Below w.heap.size w w' ∧ ∃ g, w.heap.size ≤ g ∧ e = .returned (.slice (some ⟨g, 0, none⟩) l.length l.length) ∧ HoldAt w' (some ⟨g, 0, none⟩) l
theorem toAnswered_parts {w : World} {a : Option Addr} {l : List Sn} (h : AnsAt w a l) : ∀ x ∈ l, I64 x.id ∧ I64 x.code := fun x hx => by
  obtain ⟨i, hi, rfl⟩ := List.getElem_of_mem hx
  obtain ⟨_, _, _, _, _, _, r⟩ := h i hi
  exact r
theorem toAnswered_done {g n : Nat} {l : List Sn} {x : World} (h : RowMid g n 2 (fun i => (l[i]?).elim [] snCells) l.length x) (hs : ∀ x ∈ l, I64 x.id ∧ I64 x.code) : AnsAt x (some ⟨g, 0, none⟩) l := fun i hi => by
  have hd : ∀ r, r < 2 → x.cell? ⟨g, 0 + i * 2 + r, none⟩ = ((l[i]?).elim [] snCells)[r]? := fun r hr => by rw [Nat.zero_add]; exact h.done i r hi hr
  exact ⟨g, 0, rfl, h.lt, by have := hd 0 (by decide); simpa [snCells, List.getElem?_eq_getElem hi] using this, by have := hd 1 (by decide); simpa [snCells, List.getElem?_eq_getElem hi] using this, hs _ (List.getElem_mem hi)⟩
/-- a row of the call's own that reads as the list -/
def ToAnswered (l : List Sn) (w : World) (e : Ending) (w' : World) : Prop := Below w.heap.size w w' ∧ ∃ g, w.heap.size ≤ g ∧ e = .returned (.slice (some ⟨g, 0, none⟩) l.length l.length) ∧ AnsAt w' (some ⟨g, 0, none⟩) l
/-- toLedger's state -/
structure LedMid (w : World) (va vh vs v0 v1 v2 : Value) (x : World) : Prop where
  lt : w.heap.size + 1 + 1 < x.heap.size
  old : Below w.heap.size w x
  a0 : x.cell? ⟨w.heap.size, 0, none⟩ = some va
  a1 : x.cell? ⟨w.heap.size, 1, none⟩ = some vh
  a2 : x.cell? ⟨w.heap.size, 2, none⟩ = some vs
  r : ∀ j, j < 3 → ∃ v, x.cell? ⟨w.heap.size + 1, j, none⟩ = some v
  c0 : x.cell? ⟨w.heap.size + 1 + 1, 0, none⟩ = some v0
  c1 : x.cell? ⟨w.heap.size + 1 + 1, 1, none⟩ = some v1
  c2 : x.cell? ⟨w.heap.size + 1 + 1, 2, none⟩ = some v2
  f1 : ∀ j, x.frozen? ⟨w.heap.size + 1, j, none⟩ = false
  f2 : ∀ j, x.frozen? ⟨w.heap.size + 1 + 1, j, none⟩ = false
theorem LedMid.below {w : World} {va vh vs v0 v1 v2 : Value} {x y : World} (h : LedMid w va vh vs v0 v1 v2 x) (b : Below x.heap.size x y) : LedMid w va vh vs v0 v1 v2 y := by
  have hlt := h.lt
  have l0 : w.heap.size < x.heap.size := by omega
  have l1 : w.heap.size + 1 < x.heap.size := by omega
  exact ⟨Nat.lt_of_lt_of_le h.lt b.size, below_trans h.old b, (b.cell l0).trans h.a0, (b.cell l0).trans h.a1, (b.cell l0).trans h.a2, fun j hj => by obtain ⟨v, hv⟩ := h.r j hj; exact ⟨v, (b.cell l1).trans hv⟩,
    (b.cell hlt).trans h.c0, (b.cell hlt).trans h.c1, (b.cell hlt).trans h.c2, fun j => (b.frozen l1).trans (h.f1 j), fun j => (b.frozen hlt).trans (h.f2 j)⟩
theorem LedMid.set0 {w : World} {va vh vs v0 v1 v2 : Value} {x : World} (h : LedMid w va vh vs v0 v1 v2 x) (u : Value) : LedMid w va vh vs u v1 v2 (x.setCell ⟨w.heap.size + 1 + 1, 0, none⟩ u) :=
  ⟨by rw [size_setCell]; exact h.lt, h.old.setCell (by show w.heap.size ≤ w.heap.size + 1 + 1; omega) _, by rw [cell_set_other (.inl (by omega))]; exact h.a0, by rw [cell_set_other (.inl (by omega))]; exact h.a1, by rw [cell_set_other (.inl (by omega))]; exact h.a2, fun j hj => by rw [cell_set_other (.inl (by omega))]; exact h.r j hj,
    cell_set_same h.c0, by rw [cell_set_other (.inr (by omega))]; exact h.c1, by rw [cell_set_other (.inr (by omega))]; exact h.c2, fun j => by rw [frozen_set]; exact h.f1 j, fun j => by rw [frozen_set]; exact h.f2 j⟩
theorem LedMid.set1 {w : World} {va vh vs v0 v1 v2 : Value} {x : World} (h : LedMid w va vh vs v0 v1 v2 x) (u : Value) : LedMid w va vh vs v0 u v2 (x.setCell ⟨w.heap.size + 1 + 1, 1, none⟩ u) :=
  ⟨by rw [size_setCell]; exact h.lt, h.old.setCell (by show w.heap.size ≤ w.heap.size + 1 + 1; omega) _, by rw [cell_set_other (.inl (by omega))]; exact h.a0, by rw [cell_set_other (.inl (by omega))]; exact h.a1, by rw [cell_set_other (.inl (by omega))]; exact h.a2, fun j hj => by rw [cell_set_other (.inl (by omega))]; exact h.r j hj,
    by rw [cell_set_other (.inr (by omega))]; exact h.c0, cell_set_same h.c1, by rw [cell_set_other (.inr (by omega))]; exact h.c2, fun j => by rw [frozen_set]; exact h.f1 j, fun j => by rw [frozen_set]; exact h.f2 j⟩
theorem LedMid.set2 {w : World} {va vh vs v0 v1 v2 : Value} {x : World} (h : LedMid w va vh vs v0 v1 v2 x) (u : Value) : LedMid w va vh vs v0 v1 u (x.setCell ⟨w.heap.size + 1 + 1, 2, none⟩ u) :=
  ⟨by rw [size_setCell]; exact h.lt, h.old.setCell (by show w.heap.size ≤ w.heap.size + 1 + 1; omega) _, by rw [cell_set_other (.inl (by omega))]; exact h.a0, by rw [cell_set_other (.inl (by omega))]; exact h.a1, by rw [cell_set_other (.inl (by omega))]; exact h.a2, fun j hj => by rw [cell_set_other (.inl (by omega))]; exact h.r j hj,
    by rw [cell_set_other (.inr (by omega))]; exact h.c0, by rw [cell_set_other (.inr (by omega))]; exact h.c1, cell_set_same h.c2, fun j => by rw [frozen_set]; exact h.f1 j, fun j => by rw [frozen_set]; exact h.f2 j⟩
theorem AccAt.set {w : World} {g o : Nat} {l : List Acc} {b : Nat} {u : Value} (h : AccAt w (some ⟨g, 0, none⟩) l) (hne : b ≠ g) : AccAt (w.setCell ⟨b, o, none⟩ u) (some ⟨g, 0, none⟩) l := fun i hi => by
  obtain ⟨b', off, e, hb, h0, h1, h2, h3, r⟩ := h i hi
  cases e
  exact ⟨g, 0, rfl, by rw [size_setCell]; exact hb, by rw [cell_set_other (.inl hne)]; exact h0, by rw [cell_set_other (.inl hne)]; exact h1, by rw [cell_set_other (.inl hne)]; exact h2, by rw [cell_set_other (.inl hne)]; exact h3, r⟩
theorem HoldAt.set {w : World} {g o : Nat} {l : List Hld} {b : Nat} {u : Value} (h : HoldAt w (some ⟨g, 0, none⟩) l) (hne : b ≠ g) : HoldAt (w.setCell ⟨b, o, none⟩ u) (some ⟨g, 0, none⟩) l := fun i hi => by
  obtain ⟨b', off, e, hb, h0, h1, h2, h3, r⟩ := h i hi
  cases e
  exact ⟨g, 0, rfl, by rw [size_setCell]; exact hb, by rw [cell_set_other (.inl hne)]; exact h0, by rw [cell_set_other (.inl hne)]; exact h1, by rw [cell_set_other (.inl hne)]; exact h2, by rw [cell_set_other (.inl hne)]; exact h3, r⟩
theorem AnsAt.set {w : World} {g o : Nat} {l : List Sn} {b : Nat} {u : Value} (h : AnsAt w (some ⟨g, 0, none⟩) l) (hne : b ≠ g) : AnsAt (w.setCell ⟨b, o, none⟩ u) (some ⟨g, 0, none⟩) l := fun i hi => by
  obtain ⟨b', off, e, hb, h0, h1, r⟩ := h i hi
  cases e
  exact ⟨g, 0, rfl, by rw [size_setCell]; exact hb, by rw [cell_set_other (.inl hne)]; exact h0, by rw [cell_set_other (.inl hne)]; exact h1, r⟩
theorem three_set {X : World} {b : Nat} {u0 u1 u2 t0 t1 t2 : Value} (h0 : X.cell? ⟨b, 0, none⟩ = some t0) (h1 : X.cell? ⟨b, 1, none⟩ = some t1) (h2 : X.cell? ⟨b, 2, none⟩ = some t2) :
    (((X.setCell ⟨b, 0, none⟩ u0).setCell ⟨b, 1, none⟩ u1).setCell ⟨b, 2, none⟩ u2).cell? ⟨b, 0, none⟩ = some u0 ∧ (((X.setCell ⟨b, 0, none⟩ u0).setCell ⟨b, 1, none⟩ u1).setCell ⟨b, 2, none⟩ u2).cell? ⟨b, 1, none⟩ = some u1 ∧ (((X.setCell ⟨b, 0, none⟩ u0).setCell ⟨b, 1, none⟩ u1).setCell ⟨b, 2, none⟩ u2).cell? ⟨b, 2, none⟩ = some u2 := by
  refine ⟨?_, ?_, ?_⟩
  · rw [cell_set_other (.inr (by omega)), cell_set_other (.inr (by omega))]; exact cell_set_same h0
  · rw [cell_set_other (.inr (by omega))]; exact cell_set_same (by rw [cell_set_other (.inr (by omega))]; exact h1)
  · exact cell_set_same (by rw [cell_set_other (.inr (by omega)), cell_set_other (.inr (by omega))]; exact h2)
def ToLed (L : Led) (w : World) (e : Ending) (w' : World) : Prop := Below w.heap.size w w' ∧ ∃ a h s, e = .returned (.agg #[.slice a L.acc.length L.acc.length, .slice h L.hold.length L.hold.length, .slice s L.seen.length L.seen.length]) ∧ LedAt w' a h s L
end Go.Proofs.YteaopalhbnhbaaaGreatDoor
