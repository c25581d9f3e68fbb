/- Arguments of the laws' types, opened: a node, a world. -/
import Derived.Test.YtaohhdlkgnjphaaGreatOpen
import Derived.Test.YtaohhdlkgnjphaaGreatBa
namespace Go.Proofs.YtaohhdlkgnjphaaGreat
open Go.Value renaming int → J, slice → V
open Go.IntKind renaming i64 → Z
open Go.ChangeShapes Go.WideShapes Go.ChangeAt Go.RowKit
set_option linter.unusedVariables false
set_option maxRecDepth 100000
theorem cellsAns : Tryz.prog.cellsOf 100 = 2 := by kernel_rfl
theorem cellsPeer : Tryz.prog.cellsOf 86 = 4 := by kernel_rfl
theorem cellsEnd : Tryz.prog.cellsOf 84 = 3 := by kernel_rfl
theorem cellsNode : Tryz.prog.cellsOf 25 = 6 := by kernel_rfl
theorem cellsMsg : Tryz.prog.cellsOf 27 = 5 := by kernel_rfl
theorem cellsPS : Tryz.prog.cellsOf 82 = 1 := by kernel_rfl
theorem cellsAS : Tryz.prog.cellsOf 22 = 1 := by kernel_rfl
theorem cellsPeS : Tryz.prog.cellsOf 23 = 1 := by kernel_rfl
theorem list4 {A : Type} (l : List A) (h : l.length = 4) : ∃ a b c d, l = [a, b, c, d] := by
 match l, h with
 | [a, b, c, d], _ => exact ⟨a, b, c, d, rfl⟩
theorem list5 {A : Type} (l : List A) (h : l.length = 5) : ∃ a b c d e, l = [a, b, c, d, e] := by
 match l, h with
 | [a, b, c, d, e], _ => exact ⟨a, b, c, d, e, rfl⟩
theorem list6 {A : Type} (l : List A) (h : l.length = 6) : ∃ a b c d e f, l = [a, b, c, d, e, f] := by
 match l, h with
 | [a, b, c, d, e, f], _ => exact ⟨a, b, c, d, e, f, rfl⟩
section
variable {H : Type} {enc : TypeId × Value → H} {W : World} {base : Nat} {sp : Nat → Bool} {held : Bool}

theorem open_sns {fuel : Nat} {cs : List Value} {x : DataW H × List MemPlace} (h : DataW.trod enc Tryz.prog W base sp held fuel 22 cs = some x) : ∃ a cap, ∃ l : List Sn, cs = [V a l.length cap] ∧ RowAt 2 snCells W a l ∧ l.length ≤ maxLen := by
 rcases Deep.open_slice Tryz.underlying22 h with ⟨rfl, _⟩ | ⟨a, len, cap, m, k, D, Pl, rfl, hb, hl, hm, hmm, rfl, hx⟩
 ·exact ⟨none, 0, [], rfl, fun i hi => by simp at hi, by simp⟩
 ·have hlm : len ≤ m := by rw [hmm]; split <;> omega
  have hsp : 0 < len → a = ⟨a.block, a.off, none⟩ := fun h0 => by
   obtain ⟨cs', h1, _⟩ := hx 0 (by omega)
   rw [cellsAns] at h1
   obtain ⟨_, hcl, hcell⟩ := World.cells?_some h1
   have := hcell 0 (by decide)
   simp only [Nat.zero_mul, Addr.add, if_true] at this
   exact spot_none (v := cs'[0]) (by rw [this, List.getElem?_eq_getElem])
  have each : ∀ i, i < len → ∃ y : Sn, ∃ b off, some a = some ⟨b, off, none⟩ ∧ b < W.heap.size ∧ ∀ r v, (snCells y)[r]? = some v → W.cell? ⟨b, off + i * 2 + r, none⟩ = some v := fun i hi => by
   obtain ⟨cs', h1, h2⟩ := hx i (by omega)
   rw [cellsAns] at h1
   obtain ⟨_, hcl, hcell⟩ := World.cells?_some h1
   have ea := hsp (by omega)
   rw [ea] at hcell
   obtain ⟨v0, v1, rfl⟩ := list2 cs' hcl
   have c0 := hcell 0 (by decide)
   rw [add_at] at c0
   have c1 := hcell 1 (by decide)
   rw [add_at] at c1
   obtain ⟨xsa, na, _, _, _, hxla, hfa⟩ := DataW.trod_struct Tryz.underlying100 h2
   obtain ⟨ya0, ya1, rfl⟩ := list2 xsa hxla
   have g0 : DataW.trod enc Tryz.prog W base sp held na 2 [v0] = some ya0 := by simpa [cells2, cellsAns, cellsPeer, cellsEnd, cellsNode, cellsMsg, cellsPS, cellsAS, cellsPeS] using hfa 0 _ rfl
   have g1 : DataW.trod enc Tryz.prog W base sp held na 2 [v1] = some ya1 := by simpa [cells2, cellsAns, cellsPeer, cellsEnd, cellsNode, cellsMsg, cellsPS, cellsAS, cellsPeS] using hfa 1 _ rfl
   obtain ⟨z0, ez0, _, sz0⟩ := DataW.trod_int Tryz.underlying2 g0
   simp only [List.cons.injEq, and_true] at ez0
   subst ez0
   obtain ⟨z1, ez1, _, sz1⟩ := DataW.trod_int Tryz.underlying2 g1
   simp only [List.cons.injEq, and_true] at ez1
   subst ez1
   have hblk : a.block < W.heap.size := by
    rcases Nat.lt_or_ge a.block W.heap.size with h' | h'
    ·exact h'
    ·exfalso
     have := c0
     simp [World.cell?, Array.getElem?_eq_none h'] at this
   refine ⟨⟨z0, z1⟩, a.block, a.off, by rw [← ea], hblk, fun r v hv => ?_⟩
   match r, hv with
   | 0, hv => simp [snCells] at hv; subst hv; exact c0
   | 1, hv => simp [snCells] at hv; subst hv; exact c1
   | r + 2, hv => simp [snCells] at hv
  obtain ⟨l, hll, hq⟩ := list_of each
  refine ⟨some a, cap, l, by rw [hll], fun i hi => ?_, by rw [hll]; omega⟩
  exact hq i hi

theorem open_prs {fuel : Nat} {cs : List Value} {x : DataW H × List MemPlace} (h : DataW.trod enc Tryz.prog W base sp held fuel 23 cs = some x) : ∃ a cap, ∃ l : List Pr, cs = [V a l.length cap] ∧ RowAt 4 prCells W a l ∧ l.length ≤ maxLen ∧ ∀ y ∈ l, (RowAt 2 prcCells W (y).a (y).E.out ∧ (y).E.out.length ≤ maxLen) := by
 rcases Deep.open_slice Tryz.underlying23 h with ⟨rfl, _⟩ | ⟨a, len, cap, m, k, D, Pl, rfl, hb, hl, hm, hmm, rfl, hx⟩
 ·exact ⟨none, 0, [], rfl, fun i hi => by simp at hi, by simp, fun y hy => by simp at hy⟩
 ·have hlm : len ≤ m := by rw [hmm]; split <;> omega
  have hsp : 0 < len → a = ⟨a.block, a.off, none⟩ := fun h0 => by
   obtain ⟨cs', h1, _⟩ := hx 0 (by omega)
   rw [cellsPeer] at h1
   obtain ⟨_, hcl, hcell⟩ := World.cells?_some h1
   have := hcell 0 (by decide)
   simp only [Nat.zero_mul, Addr.add, if_true] at this
   exact spot_none (v := cs'[0]) (by rw [this, List.getElem?_eq_getElem])
  have each : ∀ i, i < len → ∃ y : Pr, (∃ b off, some a = some ⟨b, off, none⟩ ∧ b < W.heap.size ∧ ∀ r v, (prCells y)[r]? = some v → W.cell? ⟨b, off + i * 4 + r, none⟩ = some v) ∧ (RowAt 2 prcCells W (y).a (y).E.out ∧ (y).E.out.length ≤ maxLen) := fun i hi => by
   obtain ⟨cs', h1, h2⟩ := hx i (by omega)
   rw [cellsPeer] at h1
   obtain ⟨_, hcl, hcell⟩ := World.cells?_some h1
   have ea := hsp (by omega)
   rw [ea] at hcell
   obtain ⟨v0, v1, v2, v3, rfl⟩ := list4 cs' hcl
   have c0 := hcell 0 (by decide)
   rw [add_at] at c0
   have c1 := hcell 1 (by decide)
   rw [add_at] at c1
   have c2 := hcell 2 (by decide)
   rw [add_at] at c2
   have c3 := hcell 3 (by decide)
   rw [add_at] at c3
   obtain ⟨xsa, na, _, _, _, hxla, hfa⟩ := DataW.trod_struct Tryz.underlying86 h2
   obtain ⟨ya0, ya1, rfl⟩ := list2 xsa hxla
   have g0 : DataW.trod enc Tryz.prog W base sp held na 2 [v0] = some ya0 := by simpa [cells2, cellsAns, cellsPeer, cellsEnd, cellsNode, cellsMsg, cellsPS, cellsAS, cellsPeS] using hfa 0 _ rfl
   have g1 : DataW.trod enc Tryz.prog W base sp held na 84 [v1, v2, v3] = some ya1 := by simpa [cells2, cellsAns, cellsPeer, cellsEnd, cellsNode, cellsMsg, cellsPS, cellsAS, cellsPeS] using hfa 1 _ rfl
   obtain ⟨z0, ez0, _, sz0⟩ := DataW.trod_int Tryz.underlying2 g0
   simp only [List.cons.injEq, and_true] at ez0
   subst ez0
   obtain ⟨xsb, nb, _, _, _, hxlb, hfb⟩ := DataW.trod_struct Tryz.underlying84 g1
   obtain ⟨yb0, yb1, yb2, rfl⟩ := list3 xsb hxlb
   have k0 : DataW.trod enc Tryz.prog W base sp held nb 82 [v1] = some yb0 := by simpa [cells2, cellsAns, cellsPeer, cellsEnd, cellsNode, cellsMsg, cellsPS, cellsAS, cellsPeS] using hfb 0 _ rfl
   have k1 : DataW.trod enc Tryz.prog W base sp held nb 2 [v2] = some yb1 := by simpa [cells2, cellsAns, cellsPeer, cellsEnd, cellsNode, cellsMsg, cellsPS, cellsAS, cellsPeS] using hfb 1 _ rfl
   have k2 : DataW.trod enc Tryz.prog W base sp held nb 2 [v3] = some yb2 := by simpa [cells2, cellsAns, cellsPeer, cellsEnd, cellsNode, cellsMsg, cellsPS, cellsAS, cellsPeS] using hfb 2 _ rfl
   obtain ⟨pa, pc, pl, ep, hpr, hpn⟩ := open_prcs k0
   simp only [List.cons.injEq, and_true] at ep
   subst ep
   obtain ⟨z1, ez1, _, sz1⟩ := DataW.trod_int Tryz.underlying2 k1
   simp only [List.cons.injEq, and_true] at ez1
   subst ez1
   obtain ⟨z2, ez2, _, sz2⟩ := DataW.trod_int Tryz.underlying2 k2
   simp only [List.cons.injEq, and_true] at ez2
   subst ez2
   have hblk : a.block < W.heap.size := by
    rcases Nat.lt_or_ge a.block W.heap.size with h' | h'
    ·exact h'
    ·exfalso
     have := c0
     simp [World.cell?, Array.getElem?_eq_none h'] at this
   refine ⟨⟨z0, pa, pc, ⟨pl, z1, z2⟩⟩, ⟨a.block, a.off, by rw [← ea], hblk, fun r v hv => ?_⟩, ⟨hpr, hpn⟩⟩
   match r, hv with
   | 0, hv => simp [prCells] at hv; subst hv; exact c0
   | 1, hv => simp [prCells] at hv; subst hv; exact c1
   | 2, hv => simp [prCells] at hv; subst hv; exact c2
   | 3, hv => simp [prCells] at hv; subst hv; exact c3
   | r + 4, hv => simp [prCells] at hv
  obtain ⟨l, hll, hq⟩ := list_of each
  refine ⟨some a, cap, l, by rw [hll], fun i hi => ?_, by rw [hll]; omega, fun y hy => ?_⟩
  ·exact (hq i hi).1
  ·obtain ⟨i, hi, rfl⟩ := List.mem_iff_getElem.1 hy
   exact (hq i hi).2

/-- a node as it comes: its rows lie there, none too long for a machine -/
def NodeIn (W : World) (n : Nd) : Prop := NodeAt W n ∧ n.seen.length ≤ maxLen ∧ n.peers.length ≤ maxLen ∧ LimP n.peers

end

theorem open_node {H : Type} {enc : TypeId × Value → H} {W : World} {base : Nat} {v : Value} {d : DataW H} {p : List MemPlace} (hv : Value.okWide Tryz.prog W .any base 25 v) (h : DataW.Trod enc Tryz.prog W 0 (fun _ => true) true 25 v d p) :
  ∃ n : Nd, v = .agg #[J Z n.id, J Z n.has, J Z n.spent, J Z n.earned, V n.sa n.seen.length n.sc, V n.pa n.peers.length n.pc] ∧ NodeIn W n := by
 obtain ⟨cs, rfl, hsz⟩ := okWide_struct Tryz.underlying25 hv
 obtain ⟨fuel, hf⟩ := h
 obtain ⟨xs, n, _, _, hl, hlen, hfi⟩ := DataW.trod_struct Tryz.underlying25 hf
 obtain ⟨y0, y1, y2, y3, y4, y5, rfl⟩ := list6 xs hlen
 rw [cellsNode] at hl
 simp only [Value.cells] at hl hfi
 obtain ⟨a0, a1, a2, a3, a4, a5, hcs⟩ := list6 _ hl
 rw [hcs] at hfi
 have h0 : DataW.trod enc Tryz.prog W 0 (fun _ => true) true n 2 [a0] = some y0 := by simpa [cells2, cellsAns, cellsPeer, cellsEnd, cellsNode, cellsMsg, cellsPS, cellsAS, cellsPeS] using hfi 0 _ rfl
 have h1 : DataW.trod enc Tryz.prog W 0 (fun _ => true) true n 2 [a1] = some y1 := by simpa [cells2, cellsAns, cellsPeer, cellsEnd, cellsNode, cellsMsg, cellsPS, cellsAS, cellsPeS] using hfi 1 _ rfl
 have h2 : DataW.trod enc Tryz.prog W 0 (fun _ => true) true n 2 [a2] = some y2 := by simpa [cells2, cellsAns, cellsPeer, cellsEnd, cellsNode, cellsMsg, cellsPS, cellsAS, cellsPeS] using hfi 2 _ rfl
 have h3 : DataW.trod enc Tryz.prog W 0 (fun _ => true) true n 2 [a3] = some y3 := by simpa [cells2, cellsAns, cellsPeer, cellsEnd, cellsNode, cellsMsg, cellsPS, cellsAS, cellsPeS] using hfi 3 _ rfl
 have h4 : DataW.trod enc Tryz.prog W 0 (fun _ => true) true n 22 [a4] = some y4 := by simpa [cells2, cellsAns, cellsPeer, cellsEnd, cellsNode, cellsMsg, cellsPS, cellsAS, cellsPeS] using hfi 4 _ rfl
 have h5 : DataW.trod enc Tryz.prog W 0 (fun _ => true) true n 23 [a5] = some y5 := by simpa [cells2, cellsAns, cellsPeer, cellsEnd, cellsNode, cellsMsg, cellsPS, cellsAS, cellsPeS] using hfi 5 _ rfl
 obtain ⟨z0, e0, _, s0⟩ := DataW.trod_int Tryz.underlying2 h0
 obtain ⟨z1, e1, _, s1⟩ := DataW.trod_int Tryz.underlying2 h1
 obtain ⟨z2, e2, _, s2⟩ := DataW.trod_int Tryz.underlying2 h2
 obtain ⟨z3, e3, _, s3⟩ := DataW.trod_int Tryz.underlying2 h3
 obtain ⟨sa, sc, sl, e4, hsr, hsn⟩ := open_sns h4
 obtain ⟨pa, pc, pl, e5, hpr, hpn, hpe⟩ := open_prs h5
 simp only [List.cons.injEq, and_true] at e0 e1 e2 e3 e4 e5
 subst e0 e1 e2 e3 e4 e5
 exact ⟨⟨z0, z1, z2, z3, sa, sc, sl, pa, pc, pl⟩, by congr 1; exact Array.toList_inj.1 hcs, ⟨hsr, hpr, fun p hp => (hpe p hp).1⟩, hsn, hpn, fun p hp => (hpe p hp).2⟩

end Go.Proofs.YtaohhdlkgnjphaaGreat
