/- The drawn slots of a new world. -/
import Derived.Test.YtilacamcedjbmaaRd5
import Derived.Test.YtilacamcedjbmaaSl
namespace Go.Proofs.Ytilacamcedjbmaa
open Go.ChangeShapes Go.WideShapes Go.ChangeAt Go.RowKit
set_option linter.unusedVariables false
def DrNew (w : World) (e : Ending) (w' : World) : Prop := ∃ (l : List Slt) (g cap : Nat), 1 ≤ l.length ∧ l.length ≤ 7 ∧ (∀ x ∈ l, SltI x) ∧ l.length ≤ cap ∧ e = .returned (.slice (some ⟨g, 0, none⟩) l.length cap) ∧ RowAt 3 sltCells w' (some ⟨g, 0, none⟩) l ∧ Below w.heap.size w w'
set_option maxRecDepth 100000 in
set_option maxHeartbeats 4000000 in
theorem drawWorldNew_any (a0 : Option Addr) (len cp : Nat) (w : World) (h : IsCode w a0 len) : Calls Try.prog 5 #[.slice a0 len cp] w fun e w' => DrNew w e w' := by
  have HC0 : Hid _ := hide h
  clear h
  go_enter Try.func5, Try.ntmps5
  go_wp2_with fail
  refine (l1Open_any a0 len cp w).mono ?_
  rintro e w1 ⟨rfl, hw1⟩
  have HR1 : Hid (Rd w.heap.size w1) := hide (by rw [hw1]; exact rd_open HC0.out)
  have HB1 : Hid (Below w.heap.size w w1) := hide (by rw [hw1]; exact below_alloc (Below.refl _ _) _)
  clear hw1
  go_wp2_with fail
  refine (slots_any w.heap.size w1 HR1.out).mono ?_
  rintro e w2 ⟨⟨l, g, cap, h1, h7, hp, hg, rfl, hrow⟩, hrd, hap⟩
  have HP : Hid (∀ x ∈ l, SltI x) := hide hp
  have HB2 : Hid (Below w.heap.size w w2) := hide (below_apart HB1.out (Nat.le_refl _) hap)
  have HO : Hid _ := hide hrow
  clear hrd hap hrow hp hg HR1 HB1
  go_wp2
  go_ret
  exact ⟨l, g, cap, h1, h7, HP.out, HO.out.room, rfl, HO.out.rows, HB2.out⟩
end Go.Proofs.Ytilacamcedjbmaa
