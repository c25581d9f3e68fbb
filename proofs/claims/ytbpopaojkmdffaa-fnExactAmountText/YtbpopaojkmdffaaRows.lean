/-
  No cell of these rows narrows 'for every input' (looked for: loops, veiled, ifaces, maps, wideKeys, modest, calm, conditions, laid).
  DERIVED. THE GIVEN ROWS OF THIS SEAT. 6 by the template 'for every input the law returns true; each argument reads behind the call as it read before'; 0 by the template 'total and deterministic' (their statements: YtbpopaojkmdffaaTotals.lean).
  GIVEN WITH THE SEED: the statements are not yours to turn. If you find one false, say at which input.
  Laid BY PROGRAM, IN A SANDBOX (cutbox-rows.mjs): the forced cells as the released guide's own fill.sh prints them over the translation f4bb30cf416df374… (all of the seat's roots in one cut). By AI agents, Wed Nov 11 2026. No macro, syntax, notation, axiom, sorry.
-/
import Derived.Test.YtbpopaojkmdffaaChecked
import GoSem.Claim
import GoSem.ClaimJoined
import GoSem.ClaimMapViews
import Derived.JoinedTies
import Derived.KernelRfl
namespace Go.Proofs.Ytbpopaojkmdffaa
/- THE CELL 'sum', in the pinned program and in every row, IS THE sha256 OF THE DUMP (.gsa) THAT YtbpopaojkmdffaaProg.lean LOADS. Nothing in Lean hashes anything: it is a label: what it is worth is what the hold of that sum in a sandbox is worth. -/
noncomputable def Try.pinned : Pinned := { name := "ytbpopaojkmdffaa", sum := "f4bb30cf416df3748029437a782fdd201691a4fd5f3f364eb002e0b694c8410d", checked := Try.checked }
namespace Rows
def none {H : Type} : Left H := { results := [], args := [] }

/-- 'laws.FnAmounts': WHATEVER THE INPUT: true; the input reads as it did. -/
def fnAmountsSpec : ChangeSpec := { name := "fnAmounts", fn := fun _ => fun
  | [d] => { results := [.lit (.bool true)], args := [d] }
  | _ => none }
def fnAmountsRow : OpenClaim := { program := "ytbpopaojkmdffaa", sum := "f4bb30cf416df3748029437a782fdd201691a4fd5f3f364eb002e0b694c8410d", func := "loop.example/g00280/laws.FnAmounts", spec := "fnAmounts", recurses := true, apart := false }
def FnAmountsSaid : Prop := fnAmountsRow.holds Try.pinned (OpenSpec.ofChange fnAmountsSpec)

/-- ITS FALSE NEIGHBOUR: 'it returns false'. Refute it at one input. -/
def fnAmountsWrong : ChangeSpec := { name := "fnAmounts", fn := fun _ => fun
  | [d] => { results := [.lit (.bool false)], args := [d] }
  | _ => none }
def FnAmountsWrongFalsely : Prop := fnAmountsRow.holds Try.pinned (OpenSpec.ofChange fnAmountsWrong)

/-- 'laws.FnExactNameOk': WHATEVER THE INPUT: true; the input reads as it did. -/
def fnExactNameOkSpec : ChangeSpec := { name := "fnExactNameOk", fn := fun _ => fun
  | [d] => { results := [.lit (.bool true)], args := [d] }
  | _ => none }
def fnExactNameOkRow : OpenClaim := { program := "ytbpopaojkmdffaa", sum := "f4bb30cf416df3748029437a782fdd201691a4fd5f3f364eb002e0b694c8410d", func := "loop.example/g00280/laws.FnExactNameOk", spec := "fnExactNameOk", apart := false }
def FnExactNameOkSaid : Prop := fnExactNameOkRow.holds Try.pinned (OpenSpec.ofChange fnExactNameOkSpec)

/-- ITS FALSE NEIGHBOUR: 'it returns false'. Refute it at one input. -/
def fnExactNameOkWrong : ChangeSpec := { name := "fnExactNameOk", fn := fun _ => fun
  | [d] => { results := [.lit (.bool false)], args := [d] }
  | _ => none }
def FnExactNameOkWrongFalsely : Prop := fnExactNameOkRow.holds Try.pinned (OpenSpec.ofChange fnExactNameOkWrong)

/-- 'laws.FnExactCurOk': WHATEVER THE INPUT: true; the input reads as it did. -/
def fnExactCurOkSpec : ChangeSpec := { name := "fnExactCurOk", fn := fun _ => fun
  | [d] => { results := [.lit (.bool true)], args := [d] }
  | _ => none }
def fnExactCurOkRow : OpenClaim := { program := "ytbpopaojkmdffaa", sum := "f4bb30cf416df3748029437a782fdd201691a4fd5f3f364eb002e0b694c8410d", func := "loop.example/g00280/laws.FnExactCurOk", spec := "fnExactCurOk", apart := false }
def FnExactCurOkSaid : Prop := fnExactCurOkRow.holds Try.pinned (OpenSpec.ofChange fnExactCurOkSpec)

/-- ITS FALSE NEIGHBOUR: 'it returns false'. Refute it at one input. -/
def fnExactCurOkWrong : ChangeSpec := { name := "fnExactCurOk", fn := fun _ => fun
  | [d] => { results := [.lit (.bool false)], args := [d] }
  | _ => none }
def FnExactCurOkWrongFalsely : Prop := fnExactCurOkRow.holds Try.pinned (OpenSpec.ofChange fnExactCurOkWrong)

/-- 'laws.FnExactAmountText': WHATEVER THE INPUT: true; the input reads as it did. -/
def fnExactAmountTextSpec : ChangeSpec := { name := "fnExactAmountText", fn := fun _ => fun
  | [d] => { results := [.lit (.bool true)], args := [d] }
  | _ => none }
def fnExactAmountTextRow : OpenClaim := { program := "ytbpopaojkmdffaa", sum := "f4bb30cf416df3748029437a782fdd201691a4fd5f3f364eb002e0b694c8410d", func := "loop.example/g00280/laws.FnExactAmountText", spec := "fnExactAmountText", recurses := true, apart := false }
def FnExactAmountTextSaid : Prop := fnExactAmountTextRow.holds Try.pinned (OpenSpec.ofChange fnExactAmountTextSpec)

/-- ITS FALSE NEIGHBOUR: 'it returns false'. Refute it at one input. -/
def fnExactAmountTextWrong : ChangeSpec := { name := "fnExactAmountText", fn := fun _ => fun
  | [d] => { results := [.lit (.bool false)], args := [d] }
  | _ => none }
def FnExactAmountTextWrongFalsely : Prop := fnExactAmountTextRow.holds Try.pinned (OpenSpec.ofChange fnExactAmountTextWrong)

/-- 'laws.FnExactReadAmount': WHATEVER THE INPUT: true; the input reads as it did. -/
def fnExactReadAmountSpec : ChangeSpec := { name := "fnExactReadAmount", fn := fun _ => fun
  | [d] => { results := [.lit (.bool true)], args := [d] }
  | _ => none }
def fnExactReadAmountRow : OpenClaim := { program := "ytbpopaojkmdffaa", sum := "f4bb30cf416df3748029437a782fdd201691a4fd5f3f364eb002e0b694c8410d", func := "loop.example/g00280/laws.FnExactReadAmount", spec := "fnExactReadAmount", recurses := true, apart := false }
def FnExactReadAmountSaid : Prop := fnExactReadAmountRow.holds Try.pinned (OpenSpec.ofChange fnExactReadAmountSpec)

/-- ITS FALSE NEIGHBOUR: 'it returns false'. Refute it at one input. -/
def fnExactReadAmountWrong : ChangeSpec := { name := "fnExactReadAmount", fn := fun _ => fun
  | [d] => { results := [.lit (.bool false)], args := [d] }
  | _ => none }
def FnExactReadAmountWrongFalsely : Prop := fnExactReadAmountRow.holds Try.pinned (OpenSpec.ofChange fnExactReadAmountWrong)

/-- 'laws.FnExactCommandOk': WHATEVER THE INPUT: true; the input reads as it did. -/
def fnExactCommandOkSpec : ChangeSpec := { name := "fnExactCommandOk", fn := fun _ => fun
  | [d] => { results := [.lit (.bool true)], args := [d] }
  | _ => none }
def fnExactCommandOkRow : OpenClaim := { program := "ytbpopaojkmdffaa", sum := "f4bb30cf416df3748029437a782fdd201691a4fd5f3f364eb002e0b694c8410d", func := "loop.example/g00280/laws.FnExactCommandOk", spec := "fnExactCommandOk", apart := false }
def FnExactCommandOkSaid : Prop := fnExactCommandOkRow.holds Try.pinned (OpenSpec.ofChange fnExactCommandOkSpec)

/-- ITS FALSE NEIGHBOUR: 'it returns false'. Refute it at one input. -/
def fnExactCommandOkWrong : ChangeSpec := { name := "fnExactCommandOk", fn := fun _ => fun
  | [d] => { results := [.lit (.bool false)], args := [d] }
  | _ => none }
def FnExactCommandOkWrongFalsely : Prop := fnExactCommandOkRow.holds Try.pinned (OpenSpec.ofChange fnExactCommandOkWrong)

/- THE SECOND FORM. 'bulk': how many values and letters a reading holds, each counted each time it is reached (what is shared counts as often as it is met; a slice's spare places count too). A statement '..UptoSaid' is the law's where the arguments, and the package variables that the reading takes, are together of bulk at most 1048576: NARROWER than '..Said'. Prove '..Said' where nothing that the law and all that it calls make is longer than what came in: it says more and counts as full. Else prove '..UptoSaid'. A law counts once. -/
mutual
def uptoBulk {H : Type} : DataW H → Nat
  | .lit (.string bytes) => bytes.length + 1
  | .lit _ => 1
  | .nil => 1
  | .ptr d => uptoBulk d + 1
  | .slice elems spare => uptoBulkAll elems + uptoBulkAll spare + 1
  | .agg parts => uptoBulkAll parts + 1
  | .iface _ d => uptoBulk d + 1
  | .map entries => uptoBulkEntries entries + 1
  | .held _ => 1
def uptoBulkAll {H : Type} : List (DataW H) → Nat
  | [] => 0
  | d :: r => uptoBulk d + uptoBulkAll r
def uptoBulkEntries {H : Type} : List (Lit × DataW H) → Nat
  | [] => 0
  | x :: r => uptoBulkEntry x + uptoBulkEntries r
def uptoBulkEntry {H : Type} : Lit × DataW H → Nat
  | (.string bytes, d) => bytes.length + uptoBulk d + 1
  | (_, d) => uptoBulk d + 1
 end
def uptoSmall : (H : Type) → List (DataW H) → Bool := fun _ ds => decide (uptoBulkAll ds ≤ 1048576)
def OpenSpec.upto (s : _root_.Go.ChangeSpec) : _root_.Go.OpenSpec := { _root_.Go.OpenSpec.ofChange s with cond := some uptoSmall }

/-- 'laws.FnAmounts', WHERE WHAT IT READS IS OF BULK AT MOST 1048576: true; the input reads as it did. -/
def fnAmountsUptoRow : OpenClaim := { program := "ytbpopaojkmdffaa", sum := "f4bb30cf416df3748029437a782fdd201691a4fd5f3f364eb002e0b694c8410d", func := "loop.example/g00280/laws.FnAmounts", spec := "fnAmounts", recurses := true, apart := false, narrowed := true }
def FnAmountsUptoSaid : Prop := fnAmountsUptoRow.holds Try.pinned (OpenSpec.upto fnAmountsSpec)

/-- 'laws.FnExactNameOk', WHERE WHAT IT READS IS OF BULK AT MOST 1048576: true; the input reads as it did. -/
def fnExactNameOkUptoRow : OpenClaim := { program := "ytbpopaojkmdffaa", sum := "f4bb30cf416df3748029437a782fdd201691a4fd5f3f364eb002e0b694c8410d", func := "loop.example/g00280/laws.FnExactNameOk", spec := "fnExactNameOk", apart := false, narrowed := true }
def FnExactNameOkUptoSaid : Prop := fnExactNameOkUptoRow.holds Try.pinned (OpenSpec.upto fnExactNameOkSpec)

/-- 'laws.FnExactCurOk', WHERE WHAT IT READS IS OF BULK AT MOST 1048576: true; the input reads as it did. -/
def fnExactCurOkUptoRow : OpenClaim := { program := "ytbpopaojkmdffaa", sum := "f4bb30cf416df3748029437a782fdd201691a4fd5f3f364eb002e0b694c8410d", func := "loop.example/g00280/laws.FnExactCurOk", spec := "fnExactCurOk", apart := false, narrowed := true }
def FnExactCurOkUptoSaid : Prop := fnExactCurOkUptoRow.holds Try.pinned (OpenSpec.upto fnExactCurOkSpec)

/-- 'laws.FnExactAmountText', WHERE WHAT IT READS IS OF BULK AT MOST 1048576: true; the input reads as it did. -/
def fnExactAmountTextUptoRow : OpenClaim := { program := "ytbpopaojkmdffaa", sum := "f4bb30cf416df3748029437a782fdd201691a4fd5f3f364eb002e0b694c8410d", func := "loop.example/g00280/laws.FnExactAmountText", spec := "fnExactAmountText", recurses := true, apart := false, narrowed := true }
def FnExactAmountTextUptoSaid : Prop := fnExactAmountTextUptoRow.holds Try.pinned (OpenSpec.upto fnExactAmountTextSpec)

/-- 'laws.FnExactReadAmount', WHERE WHAT IT READS IS OF BULK AT MOST 1048576: true; the input reads as it did. -/
def fnExactReadAmountUptoRow : OpenClaim := { program := "ytbpopaojkmdffaa", sum := "f4bb30cf416df3748029437a782fdd201691a4fd5f3f364eb002e0b694c8410d", func := "loop.example/g00280/laws.FnExactReadAmount", spec := "fnExactReadAmount", recurses := true, apart := false, narrowed := true }
def FnExactReadAmountUptoSaid : Prop := fnExactReadAmountUptoRow.holds Try.pinned (OpenSpec.upto fnExactReadAmountSpec)

/-- 'laws.FnExactCommandOk', WHERE WHAT IT READS IS OF BULK AT MOST 1048576: true; the input reads as it did. -/
def fnExactCommandOkUptoRow : OpenClaim := { program := "ytbpopaojkmdffaa", sum := "f4bb30cf416df3748029437a782fdd201691a4fd5f3f364eb002e0b694c8410d", func := "loop.example/g00280/laws.FnExactCommandOk", spec := "fnExactCommandOk", apart := false, narrowed := true }
def FnExactCommandOkUptoSaid : Prop := fnExactCommandOkUptoRow.holds Try.pinned (OpenSpec.upto fnExactCommandOkSpec)

end Rows
end Go.Proofs.Ytbpopaojkmdffaa
