/- An act of a node, opened. -/
import Derived.Test.YtaohhdlkgnjphaaGreatNOpen
import Derived.Test.YtaohhdlkgnjphaaGreatAcD
namespace Go.Proofs.YtaohhdlkgnjphaaGreat
open Go.ChangeShapes Go.WideShapes Go.ChangeAt Go.RowKit
set_option linter.unusedVariables false
set_option maxRecDepth 100000
theorem cellsNAct : Tryz.prog.cellsOf 29 = 9 := by kernel_rfl
theorem list9 {A : Type} (l : List A) (h : l.length = 9) : ∃ a b c d e f g i j, l = [a, b, c, d, e, f, g, i, j] := by
 match l, h with
 | [a, b, c, d, e, f, g, i, j], _ => exact ⟨a, b, c, d, e, f, g, i, j, rfl⟩
theorem open_nact {H : Type} {enc : TypeId × Value → H} {W : World} {base : Nat} {v : Value} {d : DataW H} {p : List MemPlace} (hv : Value.okWide Tryz.prog W .any base 29 v) (h : DataW.Trod enc Tryz.prog W 0 (fun _ => true) true 29 v d p) :
  ∃ a : Ac, v = a.v := by
 obtain ⟨cs, rfl, hsz⟩ := okWide_struct Tryz.underlying29 hv
 obtain ⟨fuel, hf⟩ := h
 obtain ⟨xs, n, _, _, hl, hlen, hfi⟩ := DataW.trod_struct Tryz.underlying29 hf
 obtain ⟨y0, y1, y2, y3, y4, rfl⟩ := list5 xs hlen
 rw [cellsNAct] at hl
 simp only [Value.cells] at hl hfi
 obtain ⟨a0, a1, a2, a3, b0, b1, b2, b3, b4, hcs⟩ := list9 _ hl
 rw [hcs] at hfi
 have h0 : DataW.trod enc Tryz.prog W 0 (fun _ => true) true n 2 [a0] = some y0 := by simpa [cells2, cellsMsg] using hfi 0 _ rfl
 have h1 : DataW.trod enc Tryz.prog W 0 (fun _ => true) true n 2 [a1] = some y1 := by simpa [cells2, cellsMsg] using hfi 1 _ rfl
 have h2 : DataW.trod enc Tryz.prog W 0 (fun _ => true) true n 2 [a2] = some y2 := by simpa [cells2, cellsMsg] using hfi 2 _ rfl
 have h3 : DataW.trod enc Tryz.prog W 0 (fun _ => true) true n 2 [a3] = some y3 := by simpa [cells2, cellsMsg] using hfi 3 _ rfl
 have h4 : DataW.trod enc Tryz.prog W 0 (fun _ => true) true n 27 [b0, b1, b2, b3, b4] = some y4 := by simpa [cells2, cellsMsg] using hfi 4 _ rfl
 obtain ⟨xm, m, _, _, _, hlm, hfm⟩ := DataW.trod_struct Tryz.underlying27 h4
 obtain ⟨x0, x1, x2, x3, x4, rfl⟩ := list5 xm hlm
 have g0 : DataW.trod enc Tryz.prog W 0 (fun _ => true) true m 2 [b0] = some x0 := by simpa [cells2] using hfm 0 _ rfl
 have g1 : DataW.trod enc Tryz.prog W 0 (fun _ => true) true m 2 [b1] = some x1 := by simpa [cells2] using hfm 1 _ rfl
 have g2 : DataW.trod enc Tryz.prog W 0 (fun _ => true) true m 2 [b2] = some x2 := by simpa [cells2] using hfm 2 _ rfl
 have g3 : DataW.trod enc Tryz.prog W 0 (fun _ => true) true m 2 [b3] = some x3 := by simpa [cells2] using hfm 3 _ rfl
 have g4 : DataW.trod enc Tryz.prog W 0 (fun _ => true) true m 2 [b4] = some x4 := by simpa [cells2] using hfm 4 _ rfl
 obtain ⟨z0, e0, _, _⟩ := DataW.trod_int Tryz.underlying2 h0
 obtain ⟨z1, e1, _, _⟩ := DataW.trod_int Tryz.underlying2 h1
 obtain ⟨z2, e2, _, _⟩ := DataW.trod_int Tryz.underlying2 h2
 obtain ⟨z3, e3, _, _⟩ := DataW.trod_int Tryz.underlying2 h3
 obtain ⟨t0, f0, _, _⟩ := DataW.trod_int Tryz.underlying2 g0
 obtain ⟨t1, f1, _, _⟩ := DataW.trod_int Tryz.underlying2 g1
 obtain ⟨t2, f2, _, _⟩ := DataW.trod_int Tryz.underlying2 g2
 obtain ⟨t3, f3, _, _⟩ := DataW.trod_int Tryz.underlying2 g3
 obtain ⟨t4, f4, _, _⟩ := DataW.trod_int Tryz.underlying2 g4
 simp only [List.cons.injEq, and_true] at e0 e1 e2 e3 f0 f1 f2 f3 f4
 subst e0 e1 e2 e3 f0 f1 f2 f3 f4
 exact ⟨⟨z0, z1, z2, z3, ⟨t0, t1, t2, t3, t4⟩⟩, by unfold Ac.v; congr 1; exact Array.toList_inj.1 hcs⟩
end Go.Proofs.YtaohhdlkgnjphaaGreat
