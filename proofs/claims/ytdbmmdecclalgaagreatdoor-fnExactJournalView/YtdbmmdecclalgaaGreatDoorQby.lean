import Derived.Test.YtdbmmdecclalgaaGreatDoorChecked
import Derived.Test.YtdbmmdecclalgaaGreatDoorRows
import Derived.JoinedOf
import Derived.KernelRfl
namespace Go.Proofs.YtdbmmdecclalgaaGreatDoor.fnExactJournalView
theorem UF : (Rows.fnExactJournalViewRow.inPlace == Tryz.prog.inPlace 3) = true := by kernel_rfl
theorem UD : (Rows.fnExactJournalViewRow.unfollowed == Tryz.prog.unfollowed 3) = true := by kernel_rfl
theorem UE : (Rows.fnExactJournalViewRow.recurses == Tryz.prog.recurses 3) = true := by kernel_rfl
theorem UG : (Rows.fnExactJournalViewRow.named == Tryz.prog.varsNamed 3) = true := by kernel_rfl
theorem closed : joinedFacts Tryz.prog 3 Tryz.f3 Rows.fnExactJournalViewSpec Rows.fnExactJournalViewRow = true := by
 unfold joinedFacts
 rw [UF, UD, UE, UG]
 kernel_rfl
end Go.Proofs.YtdbmmdecclalgaaGreatDoor.fnExactJournalView
