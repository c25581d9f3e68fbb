/- Ledgers as data, and how they lie in memory. -/
import Derived.Test.YteaopalhbnhbaaaGreatDoorCmdL
import Derived.Test.YteaopalhbnhbaaaGreatDoorBel
import Derived.Below
import Derived.Lib.Strings
namespace Go.Proofs.YteaopalhbnhbaaaGreatDoor
open Go.ChangeShapes Go.WideShapes Go.ChangeAt Go.RowKit
set_option linter.unusedVariables false
set_option maxRecDepth 100000
structure Acc where
  name : ByteArray
  cur : ByteArray
  limit : Int
  posted : Int
structure Hld where
  id : Int
  fr : ByteArray
  to : ByteArray
  amount : Int
structure Sn where
  id : Int
  code : Int
structure Led where
  acc : List Acc
  hold : List Hld
  seen : List Sn
/-- an int64 -/
def I64 (n : Int) : Prop := -9223372036854775808 ≤ n ∧ n ≤ 9223372036854775807
def AccAt (w : World) (a : Option Addr) (l : List Acc) : Prop :=
  ∀ i (h : i < l.length), ∃ b off, a = some ⟨b, off, none⟩ ∧ b < w.heap.size ∧ w.cell? ⟨b, off + i * 4, none⟩ = some (.string l[i].name) ∧ w.cell? ⟨b, off + i * 4 + 1, none⟩ = some (.string l[i].cur) ∧
    w.cell? ⟨b, off + i * 4 + 2, none⟩ = some (.int .i64 l[i].limit) ∧ w.cell? ⟨b, off + i * 4 + 3, none⟩ = some (.int .i64 l[i].posted) ∧ l[i].name.size ≤ maxLen ∧ l[i].cur.size ≤ maxLen ∧ I64 l[i].limit ∧ I64 l[i].posted
def HoldAt (w : World) (a : Option Addr) (l : List Hld) : Prop :=
  ∀ i (h : i < l.length), ∃ b off, a = some ⟨b, off, none⟩ ∧ b < w.heap.size ∧ w.cell? ⟨b, off + i * 4, none⟩ = some (.int .i64 l[i].id) ∧ w.cell? ⟨b, off + i * 4 + 1, none⟩ = some (.string l[i].fr) ∧
    w.cell? ⟨b, off + i * 4 + 2, none⟩ = some (.string l[i].to) ∧ w.cell? ⟨b, off + i * 4 + 3, none⟩ = some (.int .i64 l[i].amount) ∧ l[i].fr.size ≤ maxLen ∧ l[i].to.size ≤ maxLen ∧ I64 l[i].id ∧ I64 l[i].amount
def AnsAt (w : World) (a : Option Addr) (l : List Sn) : Prop :=
  ∀ i (h : i < l.length), ∃ b off, a = some ⟨b, off, none⟩ ∧ b < w.heap.size ∧ w.cell? ⟨b, off + i * 2, none⟩ = some (.int .i64 l[i].id) ∧ w.cell? ⟨b, off + i * 2 + 1, none⟩ = some (.int .i64 l[i].code) ∧ I64 l[i].id ∧ I64 l[i].code
theorem AccAt.below {w w' : World} {a : Option Addr} {l : List Acc} (h : AccAt w a l) (k : Below w.heap.size w w') : AccAt w' a l := fun i hi => by
  obtain ⟨b, off, e, hb, h0, h1, h2, h3, r⟩ := h i hi
  have := k.size
  exact ⟨b, off, e, by omega, by rw [k.cell (by exact hb)]; exact h0, by rw [k.cell (by exact hb)]; exact h1, by rw [k.cell (by exact hb)]; exact h2, by rw [k.cell (by exact hb)]; exact h3, r⟩
theorem HoldAt.below {w w' : World} {a : Option Addr} {l : List Hld} (h : HoldAt w a l) (k : Below w.heap.size w w') : HoldAt w' a l := fun i hi => by
  obtain ⟨b, off, e, hb, h0, h1, h2, h3, r⟩ := h i hi
  have := k.size
  exact ⟨b, off, e, by omega, by rw [k.cell (by exact hb)]; exact h0, by rw [k.cell (by exact hb)]; exact h1, by rw [k.cell (by exact hb)]; exact h2, by rw [k.cell (by exact hb)]; exact h3, r⟩
theorem AnsAt.below {w w' : World} {a : Option Addr} {l : List Sn} (h : AnsAt w a l) (k : Below w.heap.size w w') : AnsAt w' a l := fun i hi => by
  obtain ⟨b, off, e, hb, h0, h1, r⟩ := h i hi
  have := k.size
  exact ⟨b, off, e, by omega, by rw [k.cell (by exact hb)]; exact h0, by rw [k.cell (by exact hb)]; exact h1, r⟩
theorem inB_iff {lo hi n : Int} : inB lo hi n = true ↔ lo ≤ n ∧ n ≤ hi := by simp [inB]
theorem list_size (s : ByteArray) : s.data.toList.length = s.size := by simp
theorem beq_bytes {a b : ByteArray} : (a.toList == b.toList) = true ↔ a = b := by
  rw [Lib.toList_data, Lib.toList_data, beq_iff_eq]
  exact ⟨fun e => ByteArray.ext (Array.toList_inj.1 e), fun e => by rw [e]⟩
/-- same bytes -/
def sameB (a b : ByteArray) : Bool := a.toList == b.toList
theorem sameB_iff {a b : ByteArray} : sameB a b = true ↔ a = b := beq_bytes
/-- where the name first stands -/
def FindEnd (l : List Acc) (nm : ByteArray) (w : World) (e : Ending) (w' : World) : Prop :=
  Below w.heap.size w w' ∧ ((∃ i, ∃ h : i < l.length, l[i].name = nm ∧ (∀ j (hj : j < i), l[j].name ≠ nm) ∧ e = .returned (.int .i64 (i : Int))) ∨ ((∀ i (h : i < l.length), l[i].name ≠ nm) ∧ e = .returned (.int .i64 (-1))))
set_option maxHeartbeats 400000 in
theorem l2Find_any (a : Option Addr) (l : List Acc) (cap : Nat) (vh vs : Value) (nm : ByteArray) (w : World) (hl : l.length ≤ 1048576) (h : AccAt w a l) :
    Calls Tryz.prog 63 #[.agg #[.slice a l.length cap, vh, vs], .string nm] w fun e w' => FindEnd l nm w e w' := by
  have HC : Hid _ := hide h
  clear h
  go_enter Tryz.func63, Tryz.ntmps63
  go_wp2
  go_loop [5] (fun i => ∃ k : Nat, k ≤ l.length ∧ i = .int .i64 (k : Int) ∧ Hid (∀ j (hj : j < l.length), j < k → l[j].name ≠ nm)) (fun i => l.length - (intOf i).toNat)
  case atStart => exact ⟨0, Nat.zero_le _, rfl, hide (fun j _ hj => by omega)⟩
  case round =>
    obtain ⟨k, hk, rfl, HN⟩ := hrel
    by_cases hlt : k < l.length
    · obtain ⟨b, off, rfl, hb, c0, _, _, _, _⟩ := HC.out k hlt
      cases hq : ((l[k]).name.toList == nm.toList)
      · have HS : Hid (∀ j (hj : j < l.length), j < k + 1 → l[j].name ≠ nm) := hide (fun j hj hjk => by
          rcases Nat.lt_or_ge j k with h | h
          · exact HN.out j hj h
          · obtain rfl : j = k := by omega
            intro e; rw [beq_bytes.2 e] at hq; cases hq)
        go_wp2
        exact ⟨⟨k + 1, by omega, by go_num, HS⟩, by simp [intOf]; omega⟩
      · have HE : Hid _ := hide (beq_bytes.1 hq)
        go_wp2
        go_ret
        exact ⟨below_alloc (Below.refl _ _) _, .inl ⟨k, hlt, HE.out, fun j hj => HN.out j (by omega) hj, rfl⟩⟩
    · go_wp2
      go_ret
      exact ⟨below_alloc (Below.refl _ _) _, .inr ⟨fun i hi => HN.out i hi (by omega), rfl⟩⟩
end Go.Proofs.YteaopalhbnhbaaaGreatDoor
