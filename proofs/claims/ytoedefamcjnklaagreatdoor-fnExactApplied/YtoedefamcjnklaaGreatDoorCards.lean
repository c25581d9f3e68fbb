/-
  DERIVED. GIVEN WITH THE SEED: THE CARDS: each row of YtoedefamcjnklaaGreatDoorRows.lean that lists a variable, with what it lists TIED to the program's text (the seventh form; the later family's looks); each row that meets fmt, with fmt's text TOLD by the authors' own Lean function (tested against real Go, not proved from fmt's source: count such statements apart). THE CARD IS WHAT COUNTS. Prove the row's statement (the work); the ties are given (YtoedefamcjnklaaGreatDoorTie.lean); close each card by the builder's one call (the guide's Derived/Test/ToyasCard.lean, 'card_holds'). Laid BY PROGRAM, IN A SANDBOX (cutbox-door.mjs). By AI agents, Wed Nov 11 2026. No macro, syntax, notation, axiom, sorry.
-/
import Derived.Test.YtoedefamcjnklaaGreatDoorRows
import GoSem.ClaimSeven
namespace Go.Proofs.YtoedefamcjnklaaGreatDoor
namespace Rows

/-- THE TIED CARD OF 'laws.FnExactApplied'. -/
def fnExactAppliedCard : Claim7 := { stood := { row := fnExactAppliedRow, standIns := [], harness := (true, "81809a43d1ee197b1b1d86f4e85d0d0d88f8091312d3c59a54b50cf02b63a193"), looks := true }, kinds := [], alts := [], laidByText := true, laidKinds := [.handle, .sentinel, .sentinel], laidTests := true, laidLooks := .later }
def FnExactAppliedCardSaid : Prop := Claim7.holds Tryz.pinned (.plain (OpenSpec.ofChange fnExactAppliedSpec)) fnExactAppliedCard

/-- THE SECOND FORM's CARD OF 'laws.FnExactApplied'. -/
def fnExactAppliedUptoCard : Claim7 := { stood := { row := fnExactAppliedUptoRow, standIns := [], harness := (true, "81809a43d1ee197b1b1d86f4e85d0d0d88f8091312d3c59a54b50cf02b63a193"), looks := true }, kinds := [], alts := [], laidByText := true, laidKinds := [.handle, .sentinel, .sentinel], laidTests := true, laidLooks := .later }
def FnExactAppliedUptoCardSaid : Prop := Claim7.holds Tryz.pinned (.plain (OpenSpec.upto fnExactAppliedSpec)) fnExactAppliedUptoCard
end Rows
end Go.Proofs.YtoedefamcjnklaaGreatDoor
