/-
  DERIVED. GIVEN WITH THE SEED: THE CARDS: each row of YtdbmmdecclalgaaGreatDoorRows.lean that lists a variable, with what it lists TIED to the program's text (the seventh form; the later family's looks); each row that meets fmt, with fmt's text TOLD by the authors' own Lean function (tested against real Go, not proved from fmt's source: count such statements apart). THE CARD IS WHAT COUNTS. Prove the row's statement (the work); the ties are given (YtdbmmdecclalgaaGreatDoorTie.lean); close each card by the builder's one call (the guide's Derived/Test/ToyasCard.lean, 'card_holds'). Laid BY PROGRAM, IN A SANDBOX (cutbox-door.mjs). By AI agents, Wed Nov 11 2026. No macro, syntax, notation, axiom, sorry.
-/
import Derived.Test.YtdbmmdecclalgaaGreatDoorRows
import GoSem.ClaimSeven
namespace Go.Proofs.YtdbmmdecclalgaaGreatDoor
namespace Rows

/-- THE TIED CARD OF 'laws.FnExactJournalView'. -/
def fnExactJournalViewCard : Claim7 := { stood := { row := fnExactJournalViewRow, standIns := [], harness := (true, "5350c033816286a7f542ca90ddcf7dc0a290f014565f41e8a2a039eaf02b9744"), looks := true }, kinds := [], alts := [], laidByText := true, laidKinds := [.data, .data, .data, .handle, .sentinel, .sentinel, .sentinel, .sentinel, .data, .sentinel], laidTests := true, laidLooks := .later }
def FnExactJournalViewCardSaid : Prop := Claim7.holds Tryz.pinned (.plain (OpenSpec.ofChange fnExactJournalViewSpec)) fnExactJournalViewCard

/-- THE SECOND FORM's CARD OF 'laws.FnExactJournalView'. -/
def fnExactJournalViewUptoCard : Claim7 := { stood := { row := fnExactJournalViewUptoRow, standIns := [], harness := (true, "5350c033816286a7f542ca90ddcf7dc0a290f014565f41e8a2a039eaf02b9744"), looks := true }, kinds := [], alts := [], laidByText := true, laidKinds := [.data, .data, .data, .handle, .sentinel, .sentinel, .sentinel, .sentinel, .data, .sentinel], laidTests := true, laidLooks := .later }
def FnExactJournalViewUptoCardSaid : Prop := Claim7.holds Tryz.pinned (.plain (OpenSpec.upto fnExactJournalViewSpec)) fnExactJournalViewUptoCard
end Rows
end Go.Proofs.YtdbmmdecclalgaaGreatDoor
