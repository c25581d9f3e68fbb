/-
  NARROWER THAN 'FOR EVERY INPUT', by the rows' own cells (each row's printed sentence says how): FnBalanced: ifaces, laid · FnAgain: ifaces, laid · FnRefused: ifaces, laid · FnPosted: ifaces, laid · FnHeld: ifaces, laid · FnFree: ifaces, laid.
  DERIVED. THE GIVEN ROWS OF THIS SEAT. 6 by the template 'for every input the law returns true; each argument reads behind the call as it read before'; 0 by the template 'total and deterministic' (their statements: YtjjoeajnhblacaaGreatDoorTotals.lean).
  GIVEN WITH THE SEED: the statements are not yours to turn. If you find one false, say at which input.
  Laid BY PROGRAM, IN A SANDBOX (cutbox-rows.mjs): the forced cells as the released guide's own fill.sh prints them over the translation 6d0ee813ee0fd125… (all of the seat's roots in one cut). By AI agents, Wed Nov 11 2026. No macro, syntax, notation, axiom, sorry.
-/
import Derived.Test.YtjjoeajnhblacaaGreatDoorChecked
import GoSem.Claim
import GoSem.ClaimJoined
import GoSem.ClaimMapViews
import Derived.JoinedTies
import Derived.KernelRfl
namespace Go.Proofs.YtjjoeajnhblacaaGreatDoor
/- THE CELL 'sum', in the pinned program and in every row, IS THE sha256 OF THE DUMP (.gsa) THAT YtjjoeajnhblacaaGreatDoorProg.lean LOADS. Nothing in Lean hashes anything: it is a label: what it is worth is what the hold of that sum in a sandbox is worth. -/
noncomputable def Tryz.pinned : Pinned := { name := "ytjjoeajnhblacaagreatdoor", sum := "6d0ee813ee0fd1256ea722122cb0ad2ee1f19c2d6652358236e69e2fb2085d67", checked := Tryz.checked }
namespace Rows
def none {H : Type} : Left H := { results := [], args := [] }

/- WHAT THE LISTED PACKAGE-LEVEL VARIABLES READ AS WHEN THE CALL BEGINS. Each datum BY PROGRAM (the guide's laid-datum.mjs) off the statement by which the dump's own 'gosem.cut.vars' lays the variable. In a bare row this is a premise. The card (YtjjoeajnhblacaaGreatDoorCards.lean) ties it to the program's text. -/
def laid_errors_errorType {H : Type} : DataW H := .iface "internal/reflectlite.rtype" (.agg [.ptr (.lit (.string [101, 114, 114, 111, 114]))])
def laid_loop_example_g00280_impl_errAside {H : Type} : DataW H := .iface "*errors.errorString" (.ptr (.agg [.lit (.string [116, 104, 101, 32, 99, 111, 109, 109, 97, 110, 100, 32, 119, 97, 115, 32, 112, 117, 116, 32, 97, 115, 105, 100, 101])]))
def laid_loop_example_g00280_impl_errDenied {H : Type} : DataW H := .iface "*errors.errorString" (.ptr (.agg [.lit (.string [116, 104, 101, 32, 99, 111, 109, 109, 97, 110, 100, 32, 119, 97, 115, 32, 100, 101, 110, 105, 101, 100])]))

/-- 'laws.FnBalanced': WHATEVER THE INPUT: true; the input reads as it did. -/
def fnBalancedSpec : ChangeSpec := { name := "fnBalanced", vars := ["loop.example/g00280/impl.errAside", "loop.example/g00280/impl.errDenied"], fn := fun _ => fun
  | [d, g1, g2] => { results := [.lit (.bool true)], args := [d], vars := [g1, g2] }
  | _ => none }
def fnBalancedRow : OpenClaim := { program := "ytjjoeajnhblacaagreatdoor", sum := "6d0ee813ee0fd1256ea722122cb0ad2ee1f19c2d6652358236e69e2fb2085d67", func := "loop.example/g00280/laws.FnBalanced", spec := "fnBalanced", inPlace := ["slices.overlaps[loop.example/g00280/impl.Hold]", "internal/reflectlite.ValueOf", "(internal/reflectlite.Value).Type", "(internal/reflectlite.Value).IsNil", "internal/reflectlite.TypeOf", "(internal/reflectlite.Value).Elem", "(internal/reflectlite.Value).Set"], unfollowed := true, recurses := true, named := ["loop.example/g00280/impl.errAside", "loop.example/g00280/impl.errDenied", "errors.errorType"], ifaces := true, apart := false, laid := [("errors.errorType", laid_errors_errorType), ("loop.example/g00280/impl.errAside", laid_loop_example_g00280_impl_errAside), ("loop.example/g00280/impl.errDenied", laid_loop_example_g00280_impl_errDenied)] }
def FnBalancedSaid : Prop := fnBalancedRow.holds Tryz.pinned (OpenSpec.ofChange fnBalancedSpec)

/-- ITS FALSE NEIGHBOUR: 'it returns false'. Refute it at one input. -/
def fnBalancedWrong : ChangeSpec := { name := "fnBalanced", vars := ["loop.example/g00280/impl.errAside", "loop.example/g00280/impl.errDenied"], fn := fun _ => fun
  | [d, g1, g2] => { results := [.lit (.bool false)], args := [d], vars := [g1, g2] }
  | _ => none }
def FnBalancedWrongFalsely : Prop := fnBalancedRow.holds Tryz.pinned (OpenSpec.ofChange fnBalancedWrong)

/-- 'laws.FnAgain': WHATEVER THE INPUT: true; the input reads as it did. -/
def fnAgainSpec : ChangeSpec := { name := "fnAgain", vars := ["loop.example/g00280/impl.errAside", "loop.example/g00280/impl.errDenied"], fn := fun _ => fun
  | [d, g1, g2] => { results := [.lit (.bool true)], args := [d], vars := [g1, g2] }
  | _ => none }
def fnAgainRow : OpenClaim := { program := "ytjjoeajnhblacaagreatdoor", sum := "6d0ee813ee0fd1256ea722122cb0ad2ee1f19c2d6652358236e69e2fb2085d67", func := "loop.example/g00280/laws.FnAgain", spec := "fnAgain", inPlace := ["slices.overlaps[loop.example/g00280/impl.Hold]", "internal/reflectlite.ValueOf", "(internal/reflectlite.Value).Type", "(internal/reflectlite.Value).IsNil", "internal/reflectlite.TypeOf", "(internal/reflectlite.Value).Elem", "(internal/reflectlite.Value).Set"], unfollowed := true, recurses := true, named := ["loop.example/g00280/impl.errAside", "loop.example/g00280/impl.errDenied", "errors.errorType"], ifaces := true, apart := false, laid := [("errors.errorType", laid_errors_errorType), ("loop.example/g00280/impl.errAside", laid_loop_example_g00280_impl_errAside), ("loop.example/g00280/impl.errDenied", laid_loop_example_g00280_impl_errDenied)] }
def FnAgainSaid : Prop := fnAgainRow.holds Tryz.pinned (OpenSpec.ofChange fnAgainSpec)

/-- ITS FALSE NEIGHBOUR: 'it returns false'. Refute it at one input. -/
def fnAgainWrong : ChangeSpec := { name := "fnAgain", vars := ["loop.example/g00280/impl.errAside", "loop.example/g00280/impl.errDenied"], fn := fun _ => fun
  | [d, g1, g2] => { results := [.lit (.bool false)], args := [d], vars := [g1, g2] }
  | _ => none }
def FnAgainWrongFalsely : Prop := fnAgainRow.holds Tryz.pinned (OpenSpec.ofChange fnAgainWrong)

/-- 'laws.FnRefused': WHATEVER THE INPUT: true; the input reads as it did. -/
def fnRefusedSpec : ChangeSpec := { name := "fnRefused", vars := ["loop.example/g00280/impl.errAside", "loop.example/g00280/impl.errDenied"], fn := fun _ => fun
  | [d, g1, g2] => { results := [.lit (.bool true)], args := [d], vars := [g1, g2] }
  | _ => none }
def fnRefusedRow : OpenClaim := { program := "ytjjoeajnhblacaagreatdoor", sum := "6d0ee813ee0fd1256ea722122cb0ad2ee1f19c2d6652358236e69e2fb2085d67", func := "loop.example/g00280/laws.FnRefused", spec := "fnRefused", inPlace := ["slices.overlaps[loop.example/g00280/impl.Hold]", "internal/reflectlite.ValueOf", "(internal/reflectlite.Value).Type", "(internal/reflectlite.Value).IsNil", "internal/reflectlite.TypeOf", "(internal/reflectlite.Value).Elem", "(internal/reflectlite.Value).Set"], unfollowed := true, recurses := true, named := ["loop.example/g00280/impl.errAside", "loop.example/g00280/impl.errDenied", "errors.errorType"], ifaces := true, apart := false, laid := [("errors.errorType", laid_errors_errorType), ("loop.example/g00280/impl.errAside", laid_loop_example_g00280_impl_errAside), ("loop.example/g00280/impl.errDenied", laid_loop_example_g00280_impl_errDenied)] }
def FnRefusedSaid : Prop := fnRefusedRow.holds Tryz.pinned (OpenSpec.ofChange fnRefusedSpec)

/-- ITS FALSE NEIGHBOUR: 'it returns false'. Refute it at one input. -/
def fnRefusedWrong : ChangeSpec := { name := "fnRefused", vars := ["loop.example/g00280/impl.errAside", "loop.example/g00280/impl.errDenied"], fn := fun _ => fun
  | [d, g1, g2] => { results := [.lit (.bool false)], args := [d], vars := [g1, g2] }
  | _ => none }
def FnRefusedWrongFalsely : Prop := fnRefusedRow.holds Tryz.pinned (OpenSpec.ofChange fnRefusedWrong)

/-- 'laws.FnPosted': WHATEVER THE INPUT: true; the input reads as it did. -/
def fnPostedSpec : ChangeSpec := { name := "fnPosted", vars := ["loop.example/g00280/impl.errAside", "loop.example/g00280/impl.errDenied"], fn := fun _ => fun
  | [d, g1, g2] => { results := [.lit (.bool true)], args := [d], vars := [g1, g2] }
  | _ => none }
def fnPostedRow : OpenClaim := { program := "ytjjoeajnhblacaagreatdoor", sum := "6d0ee813ee0fd1256ea722122cb0ad2ee1f19c2d6652358236e69e2fb2085d67", func := "loop.example/g00280/laws.FnPosted", spec := "fnPosted", inPlace := ["slices.overlaps[loop.example/g00280/impl.Hold]", "internal/reflectlite.ValueOf", "(internal/reflectlite.Value).Type", "(internal/reflectlite.Value).IsNil", "internal/reflectlite.TypeOf", "(internal/reflectlite.Value).Elem", "(internal/reflectlite.Value).Set"], unfollowed := true, recurses := true, named := ["loop.example/g00280/impl.errAside", "loop.example/g00280/impl.errDenied", "errors.errorType"], ifaces := true, apart := false, laid := [("errors.errorType", laid_errors_errorType), ("loop.example/g00280/impl.errAside", laid_loop_example_g00280_impl_errAside), ("loop.example/g00280/impl.errDenied", laid_loop_example_g00280_impl_errDenied)] }
def FnPostedSaid : Prop := fnPostedRow.holds Tryz.pinned (OpenSpec.ofChange fnPostedSpec)

/-- ITS FALSE NEIGHBOUR: 'it returns false'. Refute it at one input. -/
def fnPostedWrong : ChangeSpec := { name := "fnPosted", vars := ["loop.example/g00280/impl.errAside", "loop.example/g00280/impl.errDenied"], fn := fun _ => fun
  | [d, g1, g2] => { results := [.lit (.bool false)], args := [d], vars := [g1, g2] }
  | _ => none }
def FnPostedWrongFalsely : Prop := fnPostedRow.holds Tryz.pinned (OpenSpec.ofChange fnPostedWrong)

/-- 'laws.FnHeld': WHATEVER THE INPUT: true; the input reads as it did. -/
def fnHeldSpec : ChangeSpec := { name := "fnHeld", vars := ["loop.example/g00280/impl.errAside", "loop.example/g00280/impl.errDenied"], fn := fun _ => fun
  | [d, g1, g2] => { results := [.lit (.bool true)], args := [d], vars := [g1, g2] }
  | _ => none }
def fnHeldRow : OpenClaim := { program := "ytjjoeajnhblacaagreatdoor", sum := "6d0ee813ee0fd1256ea722122cb0ad2ee1f19c2d6652358236e69e2fb2085d67", func := "loop.example/g00280/laws.FnHeld", spec := "fnHeld", inPlace := ["slices.overlaps[loop.example/g00280/impl.Hold]", "internal/reflectlite.ValueOf", "(internal/reflectlite.Value).Type", "(internal/reflectlite.Value).IsNil", "internal/reflectlite.TypeOf", "(internal/reflectlite.Value).Elem", "(internal/reflectlite.Value).Set"], unfollowed := true, recurses := true, named := ["loop.example/g00280/impl.errAside", "loop.example/g00280/impl.errDenied", "errors.errorType"], ifaces := true, apart := false, laid := [("errors.errorType", laid_errors_errorType), ("loop.example/g00280/impl.errAside", laid_loop_example_g00280_impl_errAside), ("loop.example/g00280/impl.errDenied", laid_loop_example_g00280_impl_errDenied)] }
def FnHeldSaid : Prop := fnHeldRow.holds Tryz.pinned (OpenSpec.ofChange fnHeldSpec)

/-- ITS FALSE NEIGHBOUR: 'it returns false'. Refute it at one input. -/
def fnHeldWrong : ChangeSpec := { name := "fnHeld", vars := ["loop.example/g00280/impl.errAside", "loop.example/g00280/impl.errDenied"], fn := fun _ => fun
  | [d, g1, g2] => { results := [.lit (.bool false)], args := [d], vars := [g1, g2] }
  | _ => none }
def FnHeldWrongFalsely : Prop := fnHeldRow.holds Tryz.pinned (OpenSpec.ofChange fnHeldWrong)

/-- 'laws.FnFree': WHATEVER THE INPUT: true; the input reads as it did. -/
def fnFreeSpec : ChangeSpec := { name := "fnFree", vars := ["loop.example/g00280/impl.errDenied", "loop.example/g00280/impl.errAside"], fn := fun _ => fun
  | [d, g1, g2] => { results := [.lit (.bool true)], args := [d], vars := [g1, g2] }
  | _ => none }
def fnFreeRow : OpenClaim := { program := "ytjjoeajnhblacaagreatdoor", sum := "6d0ee813ee0fd1256ea722122cb0ad2ee1f19c2d6652358236e69e2fb2085d67", func := "loop.example/g00280/laws.FnFree", spec := "fnFree", inPlace := ["slices.overlaps[loop.example/g00280/impl.Hold]", "internal/reflectlite.ValueOf", "(internal/reflectlite.Value).Type", "(internal/reflectlite.Value).IsNil", "internal/reflectlite.TypeOf", "(internal/reflectlite.Value).Elem", "(internal/reflectlite.Value).Set"], unfollowed := true, recurses := true, named := ["loop.example/g00280/impl.errDenied", "loop.example/g00280/impl.errAside", "errors.errorType"], ifaces := true, apart := false, laid := [("errors.errorType", laid_errors_errorType), ("loop.example/g00280/impl.errAside", laid_loop_example_g00280_impl_errAside), ("loop.example/g00280/impl.errDenied", laid_loop_example_g00280_impl_errDenied)] }
def FnFreeSaid : Prop := fnFreeRow.holds Tryz.pinned (OpenSpec.ofChange fnFreeSpec)

/-- ITS FALSE NEIGHBOUR: 'it returns false'. Refute it at one input. -/
def fnFreeWrong : ChangeSpec := { name := "fnFree", vars := ["loop.example/g00280/impl.errDenied", "loop.example/g00280/impl.errAside"], fn := fun _ => fun
  | [d, g1, g2] => { results := [.lit (.bool false)], args := [d], vars := [g1, g2] }
  | _ => none }
def FnFreeWrongFalsely : Prop := fnFreeRow.holds Tryz.pinned (OpenSpec.ofChange fnFreeWrong)

/- THE SECOND FORM. 'bulk': how many values and letters a reading holds, each counted each time it is reached (what is shared counts as often as it is met; a slice's spare places count too). A statement '..UptoSaid' is the law's where the arguments, and the package variables that the reading takes, are together of bulk at most 1048576: NARROWER than '..Said'. Prove '..Said' where nothing that the law and all that it calls make is longer than what came in: it says more and counts as full. Else prove '..UptoSaid'. A law counts once. -/
mutual
def uptoBulk {H : Type} : DataW H → Nat
  | .lit (.string bytes) => bytes.length + 1
  | .lit _ => 1
  | .nil => 1
  | .ptr d => uptoBulk d + 1
  | .slice elems spare => uptoBulkAll elems + uptoBulkAll spare + 1
  | .agg parts => uptoBulkAll parts + 1
  | .iface _ d => uptoBulk d + 1
  | .map entries => uptoBulkEntries entries + 1
  | .held _ => 1
def uptoBulkAll {H : Type} : List (DataW H) → Nat
  | [] => 0
  | d :: r => uptoBulk d + uptoBulkAll r
def uptoBulkEntries {H : Type} : List (Lit × DataW H) → Nat
  | [] => 0
  | x :: r => uptoBulkEntry x + uptoBulkEntries r
def uptoBulkEntry {H : Type} : Lit × DataW H → Nat
  | (.string bytes, d) => bytes.length + uptoBulk d + 1
  | (_, d) => uptoBulk d + 1
 end
def uptoSmall : (H : Type) → List (DataW H) → Bool := fun _ ds => decide (uptoBulkAll ds ≤ 1048576)
def OpenSpec.upto (s : _root_.Go.ChangeSpec) : _root_.Go.OpenSpec := { _root_.Go.OpenSpec.ofChange s with cond := some uptoSmall }

/-- 'laws.FnBalanced', WHERE WHAT IT READS IS OF BULK AT MOST 1048576: true; the input reads as it did. -/
def fnBalancedUptoRow : OpenClaim := { program := "ytjjoeajnhblacaagreatdoor", sum := "6d0ee813ee0fd1256ea722122cb0ad2ee1f19c2d6652358236e69e2fb2085d67", func := "loop.example/g00280/laws.FnBalanced", spec := "fnBalanced", inPlace := ["slices.overlaps[loop.example/g00280/impl.Hold]", "internal/reflectlite.ValueOf", "(internal/reflectlite.Value).Type", "(internal/reflectlite.Value).IsNil", "internal/reflectlite.TypeOf", "(internal/reflectlite.Value).Elem", "(internal/reflectlite.Value).Set"], unfollowed := true, recurses := true, named := ["loop.example/g00280/impl.errAside", "loop.example/g00280/impl.errDenied", "errors.errorType"], ifaces := true, apart := false, laid := [("errors.errorType", laid_errors_errorType), ("loop.example/g00280/impl.errAside", laid_loop_example_g00280_impl_errAside), ("loop.example/g00280/impl.errDenied", laid_loop_example_g00280_impl_errDenied)], narrowed := true }
def FnBalancedUptoSaid : Prop := fnBalancedUptoRow.holds Tryz.pinned (OpenSpec.upto fnBalancedSpec)

/-- 'laws.FnAgain', WHERE WHAT IT READS IS OF BULK AT MOST 1048576: true; the input reads as it did. -/
def fnAgainUptoRow : OpenClaim := { program := "ytjjoeajnhblacaagreatdoor", sum := "6d0ee813ee0fd1256ea722122cb0ad2ee1f19c2d6652358236e69e2fb2085d67", func := "loop.example/g00280/laws.FnAgain", spec := "fnAgain", inPlace := ["slices.overlaps[loop.example/g00280/impl.Hold]", "internal/reflectlite.ValueOf", "(internal/reflectlite.Value).Type", "(internal/reflectlite.Value).IsNil", "internal/reflectlite.TypeOf", "(internal/reflectlite.Value).Elem", "(internal/reflectlite.Value).Set"], unfollowed := true, recurses := true, named := ["loop.example/g00280/impl.errAside", "loop.example/g00280/impl.errDenied", "errors.errorType"], ifaces := true, apart := false, laid := [("errors.errorType", laid_errors_errorType), ("loop.example/g00280/impl.errAside", laid_loop_example_g00280_impl_errAside), ("loop.example/g00280/impl.errDenied", laid_loop_example_g00280_impl_errDenied)], narrowed := true }
def FnAgainUptoSaid : Prop := fnAgainUptoRow.holds Tryz.pinned (OpenSpec.upto fnAgainSpec)

/-- 'laws.FnRefused', WHERE WHAT IT READS IS OF BULK AT MOST 1048576: true; the input reads as it did. -/
def fnRefusedUptoRow : OpenClaim := { program := "ytjjoeajnhblacaagreatdoor", sum := "6d0ee813ee0fd1256ea722122cb0ad2ee1f19c2d6652358236e69e2fb2085d67", func := "loop.example/g00280/laws.FnRefused", spec := "fnRefused", inPlace := ["slices.overlaps[loop.example/g00280/impl.Hold]", "internal/reflectlite.ValueOf", "(internal/reflectlite.Value).Type", "(internal/reflectlite.Value).IsNil", "internal/reflectlite.TypeOf", "(internal/reflectlite.Value).Elem", "(internal/reflectlite.Value).Set"], unfollowed := true, recurses := true, named := ["loop.example/g00280/impl.errAside", "loop.example/g00280/impl.errDenied", "errors.errorType"], ifaces := true, apart := false, laid := [("errors.errorType", laid_errors_errorType), ("loop.example/g00280/impl.errAside", laid_loop_example_g00280_impl_errAside), ("loop.example/g00280/impl.errDenied", laid_loop_example_g00280_impl_errDenied)], narrowed := true }
def FnRefusedUptoSaid : Prop := fnRefusedUptoRow.holds Tryz.pinned (OpenSpec.upto fnRefusedSpec)

/-- 'laws.FnPosted', WHERE WHAT IT READS IS OF BULK AT MOST 1048576: true; the input reads as it did. -/
def fnPostedUptoRow : OpenClaim := { program := "ytjjoeajnhblacaagreatdoor", sum := "6d0ee813ee0fd1256ea722122cb0ad2ee1f19c2d6652358236e69e2fb2085d67", func := "loop.example/g00280/laws.FnPosted", spec := "fnPosted", inPlace := ["slices.overlaps[loop.example/g00280/impl.Hold]", "internal/reflectlite.ValueOf", "(internal/reflectlite.Value).Type", "(internal/reflectlite.Value).IsNil", "internal/reflectlite.TypeOf", "(internal/reflectlite.Value).Elem", "(internal/reflectlite.Value).Set"], unfollowed := true, recurses := true, named := ["loop.example/g00280/impl.errAside", "loop.example/g00280/impl.errDenied", "errors.errorType"], ifaces := true, apart := false, laid := [("errors.errorType", laid_errors_errorType), ("loop.example/g00280/impl.errAside", laid_loop_example_g00280_impl_errAside), ("loop.example/g00280/impl.errDenied", laid_loop_example_g00280_impl_errDenied)], narrowed := true }
def FnPostedUptoSaid : Prop := fnPostedUptoRow.holds Tryz.pinned (OpenSpec.upto fnPostedSpec)

/-- 'laws.FnHeld', WHERE WHAT IT READS IS OF BULK AT MOST 1048576: true; the input reads as it did. -/
def fnHeldUptoRow : OpenClaim := { program := "ytjjoeajnhblacaagreatdoor", sum := "6d0ee813ee0fd1256ea722122cb0ad2ee1f19c2d6652358236e69e2fb2085d67", func := "loop.example/g00280/laws.FnHeld", spec := "fnHeld", inPlace := ["slices.overlaps[loop.example/g00280/impl.Hold]", "internal/reflectlite.ValueOf", "(internal/reflectlite.Value).Type", "(internal/reflectlite.Value).IsNil", "internal/reflectlite.TypeOf", "(internal/reflectlite.Value).Elem", "(internal/reflectlite.Value).Set"], unfollowed := true, recurses := true, named := ["loop.example/g00280/impl.errAside", "loop.example/g00280/impl.errDenied", "errors.errorType"], ifaces := true, apart := false, laid := [("errors.errorType", laid_errors_errorType), ("loop.example/g00280/impl.errAside", laid_loop_example_g00280_impl_errAside), ("loop.example/g00280/impl.errDenied", laid_loop_example_g00280_impl_errDenied)], narrowed := true }
def FnHeldUptoSaid : Prop := fnHeldUptoRow.holds Tryz.pinned (OpenSpec.upto fnHeldSpec)

/-- 'laws.FnFree', WHERE WHAT IT READS IS OF BULK AT MOST 1048576: true; the input reads as it did. -/
def fnFreeUptoRow : OpenClaim := { program := "ytjjoeajnhblacaagreatdoor", sum := "6d0ee813ee0fd1256ea722122cb0ad2ee1f19c2d6652358236e69e2fb2085d67", func := "loop.example/g00280/laws.FnFree", spec := "fnFree", inPlace := ["slices.overlaps[loop.example/g00280/impl.Hold]", "internal/reflectlite.ValueOf", "(internal/reflectlite.Value).Type", "(internal/reflectlite.Value).IsNil", "internal/reflectlite.TypeOf", "(internal/reflectlite.Value).Elem", "(internal/reflectlite.Value).Set"], unfollowed := true, recurses := true, named := ["loop.example/g00280/impl.errDenied", "loop.example/g00280/impl.errAside", "errors.errorType"], ifaces := true, apart := false, laid := [("errors.errorType", laid_errors_errorType), ("loop.example/g00280/impl.errAside", laid_loop_example_g00280_impl_errAside), ("loop.example/g00280/impl.errDenied", laid_loop_example_g00280_impl_errDenied)], narrowed := true }
def FnFreeUptoSaid : Prop := fnFreeUptoRow.holds Tryz.pinned (OpenSpec.upto fnFreeSpec)

end Rows
end Go.Proofs.YtjjoeajnhblacaaGreatDoor
