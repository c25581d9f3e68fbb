/-
  DERIVED. GIVEN WITH THE SEED: THE CARDS: each row of YtggklchfhgffiaaDoorRows.lean that lists a variable, with what it lists TIED to the program's text (the seventh form; the later family's looks); each row that meets fmt, with fmt's text TOLD by the authors' own Lean function (tested against real Go, not proved from fmt's source: count such statements apart). THE CARD IS WHAT COUNTS. Prove the row's statement (the work); the ties are given (YtggklchfhgffiaaDoorTie.lean); close each card by the builder's one call (the guide's Derived/Test/ToyasCard.lean, 'card_holds'). Laid BY PROGRAM, IN A SANDBOX (cutbox-door.mjs). By AI agents, Wed Nov 11 2026. No macro, syntax, notation, axiom, sorry.
-/
import Derived.Test.YtggklchfhgffiaaDoorRows
import GoSem.ClaimSeven
namespace Go.Proofs.YtggklchfhgffiaaDoor
namespace Rows

/-- THE TIED CARD OF 'laws.FnExactLedgerOk'. -/
def fnExactLedgerOkCard : Claim7 := { stood := { row := fnExactLedgerOkRow, standIns := [], harness := (true, "f52b8ea276d0d0e4291c7ea6b8ab596b962dd935d2f0e8e3af56fb517421f79a"), looks := false }, kinds := [], alts := [], laidByText := true, laidKinds := [.sentinel], laidTests := true, laidLooks := .later }
def FnExactLedgerOkCardSaid : Prop := Claim7.holds Tryd.pinned (.plain (OpenSpec.ofChange fnExactLedgerOkSpec)) fnExactLedgerOkCard

/-- THE TIED CARD OF 'laws.FnExactHeldOf'. -/
def fnExactHeldOfCard : Claim7 := { stood := { row := fnExactHeldOfRow, standIns := [], harness := (true, "f52b8ea276d0d0e4291c7ea6b8ab596b962dd935d2f0e8e3af56fb517421f79a"), looks := false }, kinds := [], alts := [], laidByText := true, laidKinds := [.sentinel], laidTests := true, laidLooks := .later }
def FnExactHeldOfCardSaid : Prop := Claim7.holds Tryd.pinned (.plain (OpenSpec.ofChange fnExactHeldOfSpec)) fnExactHeldOfCard

/-- THE TIED CARD OF 'laws.FnExactFreeOf'. -/
def fnExactFreeOfCard : Claim7 := { stood := { row := fnExactFreeOfRow, standIns := [], harness := (true, "f52b8ea276d0d0e4291c7ea6b8ab596b962dd935d2f0e8e3af56fb517421f79a"), looks := false }, kinds := [], alts := [], laidByText := true, laidKinds := [.sentinel], laidTests := true, laidLooks := .later }
def FnExactFreeOfCardSaid : Prop := Claim7.holds Tryd.pinned (.plain (OpenSpec.ofChange fnExactFreeOfSpec)) fnExactFreeOfCard

/-- THE TIED CARD OF 'laws.FnExactTotalOf'. -/
def fnExactTotalOfCard : Claim7 := { stood := { row := fnExactTotalOfRow, standIns := [], harness := (true, "f52b8ea276d0d0e4291c7ea6b8ab596b962dd935d2f0e8e3af56fb517421f79a"), looks := false }, kinds := [], alts := [], laidByText := true, laidKinds := [.sentinel], laidTests := true, laidLooks := .later }
def FnExactTotalOfCardSaid : Prop := Claim7.holds Tryd.pinned (.plain (OpenSpec.ofChange fnExactTotalOfSpec)) fnExactTotalOfCard

/-- THE SECOND FORM's CARD OF 'laws.FnExactLedgerOk'. -/
def fnExactLedgerOkUptoCard : Claim7 := { stood := { row := fnExactLedgerOkUptoRow, standIns := [], harness := (true, "f52b8ea276d0d0e4291c7ea6b8ab596b962dd935d2f0e8e3af56fb517421f79a"), looks := false }, kinds := [], alts := [], laidByText := true, laidKinds := [.sentinel], laidTests := true, laidLooks := .later }
def FnExactLedgerOkUptoCardSaid : Prop := Claim7.holds Tryd.pinned (.plain (OpenSpec.upto fnExactLedgerOkSpec)) fnExactLedgerOkUptoCard

/-- THE SECOND FORM's CARD OF 'laws.FnExactHeldOf'. -/
def fnExactHeldOfUptoCard : Claim7 := { stood := { row := fnExactHeldOfUptoRow, standIns := [], harness := (true, "f52b8ea276d0d0e4291c7ea6b8ab596b962dd935d2f0e8e3af56fb517421f79a"), looks := false }, kinds := [], alts := [], laidByText := true, laidKinds := [.sentinel], laidTests := true, laidLooks := .later }
def FnExactHeldOfUptoCardSaid : Prop := Claim7.holds Tryd.pinned (.plain (OpenSpec.upto fnExactHeldOfSpec)) fnExactHeldOfUptoCard

/-- THE SECOND FORM's CARD OF 'laws.FnExactFreeOf'. -/
def fnExactFreeOfUptoCard : Claim7 := { stood := { row := fnExactFreeOfUptoRow, standIns := [], harness := (true, "f52b8ea276d0d0e4291c7ea6b8ab596b962dd935d2f0e8e3af56fb517421f79a"), looks := false }, kinds := [], alts := [], laidByText := true, laidKinds := [.sentinel], laidTests := true, laidLooks := .later }
def FnExactFreeOfUptoCardSaid : Prop := Claim7.holds Tryd.pinned (.plain (OpenSpec.upto fnExactFreeOfSpec)) fnExactFreeOfUptoCard

/-- THE SECOND FORM's CARD OF 'laws.FnExactTotalOf'. -/
def fnExactTotalOfUptoCard : Claim7 := { stood := { row := fnExactTotalOfUptoRow, standIns := [], harness := (true, "f52b8ea276d0d0e4291c7ea6b8ab596b962dd935d2f0e8e3af56fb517421f79a"), looks := false }, kinds := [], alts := [], laidByText := true, laidKinds := [.sentinel], laidTests := true, laidLooks := .later }
def FnExactTotalOfUptoCardSaid : Prop := Claim7.holds Tryd.pinned (.plain (OpenSpec.upto fnExactTotalOfSpec)) fnExactTotalOfUptoCard
end Rows
end Go.Proofs.YtggklchfhgffiaaDoor
