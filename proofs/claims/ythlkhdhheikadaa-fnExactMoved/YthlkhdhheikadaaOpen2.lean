/- A move as an argument, opened. -/
import Derived.Test.YthlkhdhheikadaaOpen
namespace Go.Proofs.Ythlkhdhheikadaa
open Go.ChangeShapes Go.WideShapes Go.ChangeAt Go.RowKit
set_option linter.unusedVariables false
theorem open_move {H : Type} {enc : TypeId × Value → H} {W : World} {base : Nat} {v : Value} {d : DataW H} {p : List MemPlace} (hv : Value.okWide Try.prog W .any base 33 v) (h : DataW.Trod enc Try.prog W 0 (fun _ => true) true 33 v d p) :
    ∃ (x y z : Int), v = .agg #[.int .i64 x, .int .i64 y, .int .i64 z] ∧ I64 x ∧ I64 y ∧ I64 z := by
  obtain ⟨cs, rfl, hsz⟩ := okWide_struct Try.underlying33 hv
  obtain ⟨fuel, hf⟩ := h
  obtain ⟨xs, n, _, _, hl, hlen, hfi⟩ := DataW.trod_struct Try.underlying33 hf
  obtain ⟨y0, y1, y2, rfl⟩ := list3 xs hlen
  rw [cells33] at hl
  simp only [Value.cells] at hl hfi
  obtain ⟨a0, a1, a2, hcs⟩ := list3 _ hl
  rw [hcs] at hfi
  have h0 : DataW.trod enc Try.prog W 0 (fun _ => true) true n 2 [a0] = some y0 := by simpa [cells2] using hfi 0 _ rfl
  have h1 : DataW.trod enc Try.prog W 0 (fun _ => true) true n 2 [a1] = some y1 := by simpa [cells2] using hfi 1 _ rfl
  have h2 : DataW.trod enc Try.prog W 0 (fun _ => true) true n 2 [a2] = some y2 := by simpa [cells2] using hfi 2 _ rfl
  obtain ⟨x, e0, _, s0⟩ := DataW.trod_int Try.underlying2 h0
  obtain ⟨y, e1, _, s1⟩ := DataW.trod_int Try.underlying2 h1
  obtain ⟨z, e2, _, s2⟩ := DataW.trod_int Try.underlying2 h2
  simp only [List.cons.injEq, and_true] at e0 e1 e2
  subst e0 e1 e2
  exact ⟨x, y, z, by congr 1; exact Array.toList_inj.1 hcs, i64_of s0, i64_of s1, i64_of s2⟩
end Go.Proofs.Ythlkhdhheikadaa
