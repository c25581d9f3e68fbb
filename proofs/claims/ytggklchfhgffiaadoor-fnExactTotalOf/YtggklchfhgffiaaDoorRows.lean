/-
  NARROWER THAN 'FOR EVERY INPUT', by the rows' own cells (each row's printed sentence says how): FnExactLedgerOk: ifaces, laid · FnExactHeldOf: ifaces, laid · FnExactFreeOf: ifaces, laid · FnExactTotalOf: ifaces, laid.
  DERIVED. THE GIVEN ROWS OF THIS SEAT. 4 by the template 'for every input the law returns true; each argument reads behind the call as it read before'; 0 by the template 'total and deterministic' (their statements: YtggklchfhgffiaaDoorTotals.lean).
  GIVEN WITH THE SEED: the statements are not yours to turn. If you find one false, say at which input.
  Laid BY PROGRAM, IN A SANDBOX (cutbox-rows.mjs): the forced cells as the released guide's own fill.sh prints them over the translation 64366cd2914142d0… (all of the seat's roots in one cut). By AI agents, Wed Nov 11 2026. No macro, syntax, notation, axiom, sorry.
-/
import Derived.Test.YtggklchfhgffiaaDoorChecked
import GoSem.Claim
import GoSem.ClaimJoined
import GoSem.ClaimMapViews
import Derived.JoinedTies
import Derived.KernelRfl
namespace Go.Proofs.YtggklchfhgffiaaDoor
/- THE CELL 'sum', in the pinned program and in every row, IS THE sha256 OF THE DUMP (.gsa) THAT YtggklchfhgffiaaDoorProg.lean LOADS. Nothing in Lean hashes anything: it is a label: what it is worth is what the hold of that sum in a sandbox is worth. -/
noncomputable def Tryd.pinned : Pinned := { name := "ytggklchfhgffiaadoor", sum := "64366cd2914142d0280ddcec0eafbbfbb6cdd804003ecf551d5ae6b380e95f86", checked := Tryd.checked }
namespace Rows
def none {H : Type} : Left H := { results := [], args := [] }

/- WHAT THE LISTED PACKAGE-LEVEL VARIABLES READ AS WHEN THE CALL BEGINS. Each datum BY PROGRAM (the guide's laid-datum.mjs) off the statement by which the dump's own 'gosem.cut.vars' lays the variable. In a bare row this is a premise. The card (YtggklchfhgffiaaDoorCards.lean) ties it to the program's text. -/
def laid_loop_example_g00280_impl_errDenied {H : Type} : DataW H := .iface "*errors.errorString" (.ptr (.agg [.lit (.string [116, 104, 101, 32, 99, 111, 109, 109, 97, 110, 100, 32, 119, 97, 115, 32, 100, 101, 110, 105, 101, 100])]))

/-- 'laws.FnExactLedgerOk': WHATEVER THE INPUT: true; the input reads as it did. -/
def fnExactLedgerOkSpec : ChangeSpec := { name := "fnExactLedgerOk", vars := ["loop.example/g00280/impl.errDenied"], fn := fun _ => fun
  | [d, g1] => { results := [.lit (.bool true)], args := [d], vars := [g1] }
  | _ => none }
def fnExactLedgerOkRow : OpenClaim := { program := "ytggklchfhgffiaadoor", sum := "64366cd2914142d0280ddcec0eafbbfbb6cdd804003ecf551d5ae6b380e95f86", func := "loop.example/g00280/laws.FnExactLedgerOk", spec := "fnExactLedgerOk", unfollowed := true, recurses := true, named := ["loop.example/g00280/impl.errDenied"], ifaces := true, apart := false, laid := [("loop.example/g00280/impl.errDenied", laid_loop_example_g00280_impl_errDenied)] }
def FnExactLedgerOkSaid : Prop := fnExactLedgerOkRow.holds Tryd.pinned (OpenSpec.ofChange fnExactLedgerOkSpec)

/-- ITS FALSE NEIGHBOUR: 'it returns false'. Refute it at one input. -/
def fnExactLedgerOkWrong : ChangeSpec := { name := "fnExactLedgerOk", vars := ["loop.example/g00280/impl.errDenied"], fn := fun _ => fun
  | [d, g1] => { results := [.lit (.bool false)], args := [d], vars := [g1] }
  | _ => none }
def FnExactLedgerOkWrongFalsely : Prop := fnExactLedgerOkRow.holds Tryd.pinned (OpenSpec.ofChange fnExactLedgerOkWrong)

/-- 'laws.FnExactHeldOf': WHATEVER THE INPUT: true; the input reads as it did. -/
def fnExactHeldOfSpec : ChangeSpec := { name := "fnExactHeldOf", vars := ["loop.example/g00280/impl.errDenied"], fn := fun _ => fun
  | [d1, d2, g1] => { results := [.lit (.bool true)], args := [d1, d2], vars := [g1] }
  | _ => none }
def fnExactHeldOfRow : OpenClaim := { program := "ytggklchfhgffiaadoor", sum := "64366cd2914142d0280ddcec0eafbbfbb6cdd804003ecf551d5ae6b380e95f86", func := "loop.example/g00280/laws.FnExactHeldOf", spec := "fnExactHeldOf", unfollowed := true, recurses := true, named := ["loop.example/g00280/impl.errDenied"], ifaces := true, apart := false, laid := [("loop.example/g00280/impl.errDenied", laid_loop_example_g00280_impl_errDenied)] }
def FnExactHeldOfSaid : Prop := fnExactHeldOfRow.holds Tryd.pinned (OpenSpec.ofChange fnExactHeldOfSpec)

/-- ITS FALSE NEIGHBOUR: 'it returns false'. Refute it at one input. -/
def fnExactHeldOfWrong : ChangeSpec := { name := "fnExactHeldOf", vars := ["loop.example/g00280/impl.errDenied"], fn := fun _ => fun
  | [d1, d2, g1] => { results := [.lit (.bool false)], args := [d1, d2], vars := [g1] }
  | _ => none }
def FnExactHeldOfWrongFalsely : Prop := fnExactHeldOfRow.holds Tryd.pinned (OpenSpec.ofChange fnExactHeldOfWrong)

/-- 'laws.FnExactFreeOf': WHATEVER THE INPUT: true; the input reads as it did. -/
def fnExactFreeOfSpec : ChangeSpec := { name := "fnExactFreeOf", vars := ["loop.example/g00280/impl.errDenied"], fn := fun _ => fun
  | [d1, d2, g1] => { results := [.lit (.bool true)], args := [d1, d2], vars := [g1] }
  | _ => none }
def fnExactFreeOfRow : OpenClaim := { program := "ytggklchfhgffiaadoor", sum := "64366cd2914142d0280ddcec0eafbbfbb6cdd804003ecf551d5ae6b380e95f86", func := "loop.example/g00280/laws.FnExactFreeOf", spec := "fnExactFreeOf", unfollowed := true, recurses := true, named := ["loop.example/g00280/impl.errDenied"], ifaces := true, apart := false, laid := [("loop.example/g00280/impl.errDenied", laid_loop_example_g00280_impl_errDenied)] }
def FnExactFreeOfSaid : Prop := fnExactFreeOfRow.holds Tryd.pinned (OpenSpec.ofChange fnExactFreeOfSpec)

/-- ITS FALSE NEIGHBOUR: 'it returns false'. Refute it at one input. -/
def fnExactFreeOfWrong : ChangeSpec := { name := "fnExactFreeOf", vars := ["loop.example/g00280/impl.errDenied"], fn := fun _ => fun
  | [d1, d2, g1] => { results := [.lit (.bool false)], args := [d1, d2], vars := [g1] }
  | _ => none }
def FnExactFreeOfWrongFalsely : Prop := fnExactFreeOfRow.holds Tryd.pinned (OpenSpec.ofChange fnExactFreeOfWrong)

/-- 'laws.FnExactTotalOf': WHATEVER THE INPUT: true; the input reads as it did. -/
def fnExactTotalOfSpec : ChangeSpec := { name := "fnExactTotalOf", vars := ["loop.example/g00280/impl.errDenied"], fn := fun _ => fun
  | [d1, d2, g1] => { results := [.lit (.bool true)], args := [d1, d2], vars := [g1] }
  | _ => none }
def fnExactTotalOfRow : OpenClaim := { program := "ytggklchfhgffiaadoor", sum := "64366cd2914142d0280ddcec0eafbbfbb6cdd804003ecf551d5ae6b380e95f86", func := "loop.example/g00280/laws.FnExactTotalOf", spec := "fnExactTotalOf", unfollowed := true, recurses := true, named := ["loop.example/g00280/impl.errDenied"], ifaces := true, apart := false, laid := [("loop.example/g00280/impl.errDenied", laid_loop_example_g00280_impl_errDenied)] }
def FnExactTotalOfSaid : Prop := fnExactTotalOfRow.holds Tryd.pinned (OpenSpec.ofChange fnExactTotalOfSpec)

/-- ITS FALSE NEIGHBOUR: 'it returns false'. Refute it at one input. -/
def fnExactTotalOfWrong : ChangeSpec := { name := "fnExactTotalOf", vars := ["loop.example/g00280/impl.errDenied"], fn := fun _ => fun
  | [d1, d2, g1] => { results := [.lit (.bool false)], args := [d1, d2], vars := [g1] }
  | _ => none }
def FnExactTotalOfWrongFalsely : Prop := fnExactTotalOfRow.holds Tryd.pinned (OpenSpec.ofChange fnExactTotalOfWrong)

/- THE SECOND FORM. 'bulk': how many values and letters a reading holds, each counted each time it is reached (what is shared counts as often as it is met; a slice's spare places count too). A statement '..UptoSaid' is the law's where the arguments, and the package variables that the reading takes, are together of bulk at most 1048576: NARROWER than '..Said'. Prove '..Said' where nothing that the law and all that it calls make is longer than what came in: it says more and counts as full. Else prove '..UptoSaid'. A law counts once. -/
mutual
def uptoBulk {H : Type} : DataW H → Nat
  | .lit (.string bytes) => bytes.length + 1
  | .lit _ => 1
  | .nil => 1
  | .ptr d => uptoBulk d + 1
  | .slice elems spare => uptoBulkAll elems + uptoBulkAll spare + 1
  | .agg parts => uptoBulkAll parts + 1
  | .iface _ d => uptoBulk d + 1
  | .map entries => uptoBulkEntries entries + 1
  | .held _ => 1
def uptoBulkAll {H : Type} : List (DataW H) → Nat
  | [] => 0
  | d :: r => uptoBulk d + uptoBulkAll r
def uptoBulkEntries {H : Type} : List (Lit × DataW H) → Nat
  | [] => 0
  | x :: r => uptoBulkEntry x + uptoBulkEntries r
def uptoBulkEntry {H : Type} : Lit × DataW H → Nat
  | (.string bytes, d) => bytes.length + uptoBulk d + 1
  | (_, d) => uptoBulk d + 1
 end
def uptoSmall : (H : Type) → List (DataW H) → Bool := fun _ ds => decide (uptoBulkAll ds ≤ 1048576)
def OpenSpec.upto (s : _root_.Go.ChangeSpec) : _root_.Go.OpenSpec := { _root_.Go.OpenSpec.ofChange s with cond := some uptoSmall }

/-- 'laws.FnExactLedgerOk', WHERE WHAT IT READS IS OF BULK AT MOST 1048576: true; the input reads as it did. -/
def fnExactLedgerOkUptoRow : OpenClaim := { program := "ytggklchfhgffiaadoor", sum := "64366cd2914142d0280ddcec0eafbbfbb6cdd804003ecf551d5ae6b380e95f86", func := "loop.example/g00280/laws.FnExactLedgerOk", spec := "fnExactLedgerOk", unfollowed := true, recurses := true, named := ["loop.example/g00280/impl.errDenied"], ifaces := true, apart := false, laid := [("loop.example/g00280/impl.errDenied", laid_loop_example_g00280_impl_errDenied)], narrowed := true }
def FnExactLedgerOkUptoSaid : Prop := fnExactLedgerOkUptoRow.holds Tryd.pinned (OpenSpec.upto fnExactLedgerOkSpec)

/-- 'laws.FnExactHeldOf', WHERE WHAT IT READS IS OF BULK AT MOST 1048576: true; the input reads as it did. -/
def fnExactHeldOfUptoRow : OpenClaim := { program := "ytggklchfhgffiaadoor", sum := "64366cd2914142d0280ddcec0eafbbfbb6cdd804003ecf551d5ae6b380e95f86", func := "loop.example/g00280/laws.FnExactHeldOf", spec := "fnExactHeldOf", unfollowed := true, recurses := true, named := ["loop.example/g00280/impl.errDenied"], ifaces := true, apart := false, laid := [("loop.example/g00280/impl.errDenied", laid_loop_example_g00280_impl_errDenied)], narrowed := true }
def FnExactHeldOfUptoSaid : Prop := fnExactHeldOfUptoRow.holds Tryd.pinned (OpenSpec.upto fnExactHeldOfSpec)

/-- 'laws.FnExactFreeOf', WHERE WHAT IT READS IS OF BULK AT MOST 1048576: true; the input reads as it did. -/
def fnExactFreeOfUptoRow : OpenClaim := { program := "ytggklchfhgffiaadoor", sum := "64366cd2914142d0280ddcec0eafbbfbb6cdd804003ecf551d5ae6b380e95f86", func := "loop.example/g00280/laws.FnExactFreeOf", spec := "fnExactFreeOf", unfollowed := true, recurses := true, named := ["loop.example/g00280/impl.errDenied"], ifaces := true, apart := false, laid := [("loop.example/g00280/impl.errDenied", laid_loop_example_g00280_impl_errDenied)], narrowed := true }
def FnExactFreeOfUptoSaid : Prop := fnExactFreeOfUptoRow.holds Tryd.pinned (OpenSpec.upto fnExactFreeOfSpec)

/-- 'laws.FnExactTotalOf', WHERE WHAT IT READS IS OF BULK AT MOST 1048576: true; the input reads as it did. -/
def fnExactTotalOfUptoRow : OpenClaim := { program := "ytggklchfhgffiaadoor", sum := "64366cd2914142d0280ddcec0eafbbfbb6cdd804003ecf551d5ae6b380e95f86", func := "loop.example/g00280/laws.FnExactTotalOf", spec := "fnExactTotalOf", unfollowed := true, recurses := true, named := ["loop.example/g00280/impl.errDenied"], ifaces := true, apart := false, laid := [("loop.example/g00280/impl.errDenied", laid_loop_example_g00280_impl_errDenied)], narrowed := true }
def FnExactTotalOfUptoSaid : Prop := fnExactTotalOfUptoRow.holds Tryd.pinned (OpenSpec.upto fnExactTotalOfSpec)

end Rows
end Go.Proofs.YtggklchfhgffiaaDoor
