/-
  DERIVED. GIVEN WITH THE SEED: THE CARDS: each row of YteaopalhbnhbaaaGreatDoorRows.lean that lists a variable, with what it lists TIED to the program's text (the seventh form; the later family's looks); each row that meets fmt, with fmt's text TOLD by the authors' own Lean function (tested against real Go, not proved from fmt's source: count such statements apart). THE CARD IS WHAT COUNTS. Prove the row's statement (the work); the ties are given (YteaopalhbnhbaaaGreatDoorTie.lean); close each card by the builder's one call (the guide's Derived/Test/ToyasCard.lean, 'card_holds'). Laid BY PROGRAM, IN A SANDBOX (cutbox-door.mjs). By AI agents, Wed Nov 11 2026. No macro, syntax, notation, axiom, sorry.
-/
import Derived.Test.YteaopalhbnhbaaaGreatDoorRows
import GoSem.ClaimSeven
namespace Go.Proofs.YteaopalhbnhbaaaGreatDoor
namespace Rows

/-- THE TIED CARD OF 'laws.FnLedgerTexts'. -/
def fnLedgerTextsCard : Claim7 := { stood := { row := fnLedgerTextsRow, standIns := [], harness := (true, "5eb38e833011263d466e5f085b1ad59a81157eb1f865a0c13a01562961b3b660"), looks := true }, kinds := [], alts := [], laidByText := true, laidKinds := [.data, .data, .data, .sentinel, .sentinel, .sentinel, .sentinel], laidTests := true, laidLooks := .later }
def FnLedgerTextsCardSaid : Prop := Claim7.holds Tryz.pinned (.plain (OpenSpec.ofChange fnLedgerTextsSpec)) fnLedgerTextsCard

/-- THE TIED CARD OF 'laws.FnExactReadLedger'. -/
def fnExactReadLedgerCard : Claim7 := { stood := { row := fnExactReadLedgerRow, standIns := [], harness := (true, "5eb38e833011263d466e5f085b1ad59a81157eb1f865a0c13a01562961b3b660"), looks := true }, kinds := [], alts := [], laidByText := true, laidKinds := [.data, .data, .data, .sentinel, .sentinel, .sentinel, .sentinel], laidTests := true, laidLooks := .later }
def FnExactReadLedgerCardSaid : Prop := Claim7.holds Tryz.pinned (.plain (OpenSpec.ofChange fnExactReadLedgerSpec)) fnExactReadLedgerCard

/-- THE SECOND FORM's CARD OF 'laws.FnLedgerTexts'. -/
def fnLedgerTextsUptoCard : Claim7 := { stood := { row := fnLedgerTextsUptoRow, standIns := [], harness := (true, "5eb38e833011263d466e5f085b1ad59a81157eb1f865a0c13a01562961b3b660"), looks := true }, kinds := [], alts := [], laidByText := true, laidKinds := [.data, .data, .data, .sentinel, .sentinel, .sentinel, .sentinel], laidTests := true, laidLooks := .later }
def FnLedgerTextsUptoCardSaid : Prop := Claim7.holds Tryz.pinned (.plain (OpenSpec.upto fnLedgerTextsSpec)) fnLedgerTextsUptoCard

/-- THE SECOND FORM's CARD OF 'laws.FnExactReadLedger'. -/
def fnExactReadLedgerUptoCard : Claim7 := { stood := { row := fnExactReadLedgerUptoRow, standIns := [], harness := (true, "5eb38e833011263d466e5f085b1ad59a81157eb1f865a0c13a01562961b3b660"), looks := true }, kinds := [], alts := [], laidByText := true, laidKinds := [.data, .data, .data, .sentinel, .sentinel, .sentinel, .sentinel], laidTests := true, laidLooks := .later }
def FnExactReadLedgerUptoCardSaid : Prop := Claim7.holds Tryz.pinned (.plain (OpenSpec.upto fnExactReadLedgerSpec)) fnExactReadLedgerUptoCard
end Rows
end Go.Proofs.YteaopalhbnhbaaaGreatDoor
