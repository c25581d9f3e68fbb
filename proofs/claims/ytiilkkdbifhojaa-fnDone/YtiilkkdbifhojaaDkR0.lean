/- The data under a name. -/
import Derived.Test.YtiilkkdbifhojaaDkP4
namespace Go.Proofs.Ytiilkkdbifhojaa
open Go.ChangeShapes Go.WideShapes Go.ChangeAt Go.RowKit
set_option linter.unusedVariables false
set_option maxRecDepth 100000
/-- the data under a name, and whether it is there -/
def fndS (l : List Fl) (nm : ByteArray) : ByteArray × Bool := match atL l nm with
  | none => (⟨#[]⟩, false)
  | some _ => (dataL l nm, true)
set_option maxHeartbeats 2000000 in
theorem dataOf_any (a : Option Addr) (l : List Fl) (cap : Nat) (nm : ByteArray) (w : World) (hl : l.length ≤ 1048576) (h : RowAt 2 flCells w a l) :
    Calls Try.prog 36 #[.slice a l.length cap, .string nm] w fun e w' => e = .returned (.tuple #[.string (fndS l nm).1, .bool (fndS l nm).2]) ∧ Below w.heap.size w w' := by
  have HC : Hid _ := hide h
  clear h
  go_enter Try.func36, Try.ntmps36
  go_wp2
  go_loopw [10] (fun i wr => ∃ k : Nat, k ≤ l.length ∧ i = .int .i64 (k : Int) ∧ Hid (Below w.heap.size w wr) ∧ Hid (∀ j (hj : j < l.length), j < k → (l[j]).nm ≠ nm)) (fun i wr => l.length - (intOf i).toNat)
  case atStart => exact ⟨0, Nat.zero_le _, rfl, hide (Below.refl _ _), hide (fun j _ hj => by omega)⟩
  case round =>
    obtain ⟨k, hk, rfl, HB, HN⟩ := hrel
    by_cases hlt : k < l.length
    · obtain ⟨b, off, rfl, hb, c0, c1⟩ := fl_row (HC.out.below HB.out) k hlt
      have hlt' : (k : Int) < (l.length : Int) := by omega
      cases hq : ((l[k]).nm.toList == nm.toList)
      · have HN2 : Hid (∀ j (hj : j < l.length), j < k + 1 → (l[j]).nm ≠ nm) := hide (fun j hj hjk => by
          rcases Nat.lt_or_ge j k with h | h
          · exact HN.out j hj h
          · obtain rfl : j = k := by omega
            intro e; rw [beq_bytes.2 e] at hq; cases hq)
        go_wp2
        exact ⟨⟨k + 1, by omega, by go_num, hide (below_alloc HB.out _), HN2⟩, by simp [intOf]; omega⟩
      · have hat := at_hit hlt (beq_bytes.1 hq) HN.out
        have HE : Hid (fndS l nm = ((l[k]).da, true)) := hide (by simp [fndS, hat, data_at hat hlt])
        clear hat
        go_wp2
        exact bodyPost_ret (v := .tuple #[.string (l[k]).da, .bool true]) (by simp [results, Try.results36, go_sem]) rfl ⟨by rw [HE.out], below_alloc HB.out _⟩
    · have hk' : ¬ (k : Int) < (l.length : Int) := by omega
      have HE : Hid (fndS l nm = (⟨#[]⟩, false)) := hide (by simp [fndS, at_miss (fun j hj => HN.out j hj (by omega))])
      go_wp2
      exact bodyPost_ret (v := .tuple #[.string ⟨#[]⟩, .bool false]) (by simp [results, Try.results36, go_sem]) rfl ⟨by rw [HE.out], HB.out⟩
end Go.Proofs.Ytiilkkdbifhojaa
