/-
  DERIVED. GIVEN WITH THE SEED: THE CARDS: each row of YtbcodlgpdehdhaaGreatDoorRows.lean that lists a variable, with what it lists TIED to the program's text (the seventh form; the later family's looks); each row that meets fmt, with fmt's text TOLD by the authors' own Lean function (tested against real Go, not proved from fmt's source: count such statements apart). THE CARD IS WHAT COUNTS. Prove the row's statement (the work); the ties are given (YtbcodlgpdehdhaaGreatDoorTie.lean); close each card by the builder's one call (the guide's Derived/Test/ToyasCard.lean, 'card_holds'). Laid BY PROGRAM, IN A SANDBOX (cutbox-door.mjs). By AI agents, Wed Nov 11 2026. No macro, syntax, notation, axiom, sorry.
-/
import Derived.Test.YtbcodlgpdehdhaaGreatDoorRows
import GoSem.ClaimSeven
namespace Go.Proofs.YtbcodlgpdehdhaaGreatDoor
namespace Rows

/-- THE TIED CARD OF 'laws.FnCommandTexts'. -/
def fnCommandTextsCard : Claim7 := { stood := { row := fnCommandTextsRow, standIns := [], harness := (true, "fc065caf8925bb5ad8367dad4f20f04c82ae5bf83f01ce1ebe8b6f768229fa06"), looks := true }, kinds := [], alts := [], laidByText := true, laidKinds := [.data, .data, .data, .sentinel, .sentinel, .data, .sentinel], laidTests := true, laidLooks := .later }
def FnCommandTextsCardSaid : Prop := Claim7.holds Tryz.pinned (.plain (OpenSpec.ofChange fnCommandTextsSpec)) fnCommandTextsCard

/-- THE SECOND FORM's CARD OF 'laws.FnCommandTexts'. -/
def fnCommandTextsUptoCard : Claim7 := { stood := { row := fnCommandTextsUptoRow, standIns := [], harness := (true, "fc065caf8925bb5ad8367dad4f20f04c82ae5bf83f01ce1ebe8b6f768229fa06"), looks := true }, kinds := [], alts := [], laidByText := true, laidKinds := [.data, .data, .data, .sentinel, .sentinel, .data, .sentinel], laidTests := true, laidLooks := .later }
def FnCommandTextsUptoCardSaid : Prop := Claim7.holds Tryz.pinned (.plain (OpenSpec.upto fnCommandTextsSpec)) fnCommandTextsUptoCard
end Rows
end Go.Proofs.YtbcodlgpdehdhaaGreatDoor
