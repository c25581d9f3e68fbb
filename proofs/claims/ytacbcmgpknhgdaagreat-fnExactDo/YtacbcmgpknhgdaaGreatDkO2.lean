/- An argument of an operation's type, opened. -/
import Derived.Test.YtacbcmgpknhgdaaGreatDkO
namespace Go.Proofs.YtacbcmgpknhgdaaGreat
open Go.ChangeShapes Go.WideShapes Go.ChangeAt Go.RowKit
set_option linter.unusedVariables false
set_option maxRecDepth 100000
theorem open_dop {H : Type} {enc : TypeId × Value → H} {W : World} {base : Nat} {v : Value} {d : DataW H} {p : List MemPlace} (hv : Value.okWide Tryz.prog W .any base 27 v) (h : DataW.Trod enc Tryz.prog W 0 (fun _ => true) true 27 v d p) :
    ∃ o : Dp, v = .agg #[.int .i64 o.kind, .string o.nm, .string o.tn, .string o.da] ∧ LimO o := by
  obtain ⟨cs, rfl, hsz⟩ := okWide_struct Tryz.underlying27 hv
  obtain ⟨fuel, hf⟩ := h
  obtain ⟨xs, n, _, _, hl, hlen, hfi⟩ := DataW.trod_struct Tryz.underlying27 hf
  obtain ⟨y0, y1, y2, y3, rfl⟩ := list4 xs hlen
  rw [clO] at hl
  simp only [Value.cells] at hl hfi
  obtain ⟨a0, a1, a2, a3, hcs⟩ := list4 _ hl
  rw [hcs] at hfi
  have h0 : DataW.trod enc Tryz.prog W 0 (fun _ => true) true n 2 [a0] = some y0 := by simpa [clI] using hfi 0 _ rfl
  have h1 : DataW.trod enc Tryz.prog W 0 (fun _ => true) true n 9 [a1] = some y1 := by simpa [clI, clS] using hfi 1 _ rfl
  have h2 : DataW.trod enc Tryz.prog W 0 (fun _ => true) true n 9 [a2] = some y2 := by simpa [clI, clS] using hfi 2 _ rfl
  have h3 : DataW.trod enc Tryz.prog W 0 (fun _ => true) true n 9 [a3] = some y3 := by simpa [clI, clS] using hfi 3 _ rfl
  obtain ⟨z0, e0, _, s0⟩ := DataW.trod_int Tryz.underlying2 h0
  obtain ⟨z1, e1, _, s1⟩ := DataW.trod_string Tryz.underlying9 h1
  obtain ⟨z2, e2, _, s2⟩ := DataW.trod_string Tryz.underlying9 h2
  obtain ⟨z3, e3, _, s3⟩ := DataW.trod_string Tryz.underlying9 h3
  simp only [List.cons.injEq, and_true] at e0 e1 e2 e3
  subst e0 e1 e2 e3
  exact ⟨⟨z0, z1, z2, z3⟩, by congr 1; exact Array.toList_inj.1 hcs, s1, s2, s3⟩
end Go.Proofs.YtacbcmgpknhgdaaGreat
