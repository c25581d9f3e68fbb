/- Arguments of the laws' types, opened: an end, a parcel. -/
import Derived.Test.YtaohhdlkgnjphaaGreatBa
import Derived.Deep.Slices
import Derived.ChangeOld
namespace Go.Proofs.YtaohhdlkgnjphaaGreat
open Go.Value renaming int → J, slice → V
open Go.ChangeShapes Go.WideShapes Go.ChangeAt Go.RowKit
set_option linter.unusedVariables false
set_option maxRecDepth 100000
theorem list_of {A : Type} {Q : Nat → A → Prop} : ∀ {n : Nat}, (∀ i, i < n → ∃ x, Q i x) → ∃ l : List A, l.length = n ∧ ∀ i (hi : i < l.length), Q i l[i]
 | 0, _ => ⟨[], rfl, fun i hi => by simp at hi⟩
 | n + 1, h => by
  obtain ⟨l, hl, hq⟩ := list_of (n := n) (fun i hi => h i (by omega))
  obtain ⟨x, hx⟩ := h n (by omega)
  refine ⟨l ++ [x], by simp [hl], fun i hi => ?_⟩
  rcases Nat.lt_or_ge i l.length with h1 | h1
  ·rw [List.getElem_append_left h1]; exact hq i h1
  ·have : i = l.length := by simp at hi; omega
   subst this
   simp only [List.getElem_concat_length]
   rw [hl]; exact hx
theorem spot_none {w : World} {a : Addr} {v : Value} (h : w.cell? a = some v) : a = ⟨a.block, a.off, none⟩ := by
 obtain ⟨b, o, s⟩ := a
 cases s with
 | none => rfl
 | some x =>
  unfold World.cell? at h
  simp only at h
  split at h <;> simp at h
theorem add_at {b off i j : Nat} : ((⟨b, off, none⟩ : Addr).add i).add j = ⟨b, off + i + j, none⟩ := by
 unfold Addr.add
 by_cases hi : i = 0 <;> by_cases hj : j = 0 <;> simp [hi, hj, Nat.add_assoc]
theorem own : ownKnob Tryz.prog.godebug = none := by kernel_rfl
theorem laidOut : laidOutB Tryz.prog = true := by kernel_rfl
theorem cellsPrc : Tryz.prog.cellsOf 158 = 2 := by kernel_rfl
theorem cells2 : Tryz.prog.cellsOf 2 = 1 := by kernel_rfl
theorem list3 {A : Type} (l : List A) (h : l.length = 3) : ∃ a b c, l = [a, b, c] := by
 match l, h with
 | [a, b, c], _ => exact ⟨a, b, c, rfl⟩
theorem list2 {A : Type} (l : List A) (h : l.length = 2) : ∃ a b, l = [a, b] := by
 match l, h with
 | [a, b], _ => exact ⟨a, b, rfl⟩
section
variable {H : Type} {enc : TypeId × Value → H} {W : World} {base : Nat} {sp : Nat → Bool} {held : Bool}
theorem open_prcs {fuel : Nat} {cs : List Value} {x : DataW H × List MemPlace} (h : DataW.trod enc Tryz.prog W base sp held fuel 82 cs = some x) : ∃ a cap, ∃ l : List Prc, cs = [V a l.length cap] ∧ RowAt 2 prcCells W a l ∧ l.length ≤ maxLen := by
 rcases Deep.open_slice Tryz.underlying82 h with ⟨rfl, _⟩ | ⟨a, len, cap, m, k, D, Pl, rfl, hb, hl, hm, hmm, rfl, hx⟩
 ·exact ⟨none, 0, [], rfl, fun i hi => by simp at hi, by simp⟩
 ·have hlm : len ≤ m := by rw [hmm]; split <;> omega
  have hsp : 0 < len → a = ⟨a.block, a.off, none⟩ := fun h0 => by
   obtain ⟨cs', h1, _⟩ := hx 0 (by omega)
   rw [cellsPrc] at h1
   obtain ⟨_, hcl, hcell⟩ := World.cells?_some h1
   have := hcell 0 (by decide)
   simp only [Nat.zero_mul, Addr.add, if_true] at this
   exact spot_none (v := cs'[0]) (by rw [this, List.getElem?_eq_getElem])
  have each : ∀ i, i < len → ∃ y : Prc, ∃ b off, some a = some ⟨b, off, none⟩ ∧ b < W.heap.size ∧ ∀ r v, (prcCells y)[r]? = some v → W.cell? ⟨b, off + i * 2 + r, none⟩ = some v := fun i hi => by
   obtain ⟨cs', h1, h2⟩ := hx i (by omega)
   rw [cellsPrc] at h1
   obtain ⟨_, hcl, hcell⟩ := World.cells?_some h1
   obtain ⟨xs, n', _, _, _, hxl, hf⟩ := DataW.trod_struct Tryz.underlying158 h2
   have ea := hsp (by omega)
   rw [ea] at hcell
   obtain ⟨y0, y1, rfl⟩ := list2 xs hxl
   obtain ⟨v0, v1, rfl⟩ := list2 cs' hcl
   have g0 : DataW.trod enc Tryz.prog W base sp held n' 2 [v0] = some y0 := by simpa [cells2] using hf 0 _ rfl
   have c0 := hcell 0 (by decide)
   rw [add_at] at c0
   have g1 : DataW.trod enc Tryz.prog W base sp held n' 2 [v1] = some y1 := by simpa [cells2] using hf 1 _ rfl
   have c1 := hcell 1 (by decide)
   rw [add_at] at c1
   obtain ⟨z0, e0, _, s0⟩ := DataW.trod_int Tryz.underlying2 g0
   obtain ⟨z1, e1, _, s1⟩ := DataW.trod_int Tryz.underlying2 g1
   simp only [List.cons.injEq, and_true] at e0 e1
   subst e0 e1
   have hblk : a.block < W.heap.size := by
    rcases Nat.lt_or_ge a.block W.heap.size with h' | h'
    ·exact h'
    ·exfalso
     have := c0
     simp [World.cell?, Array.getElem?_eq_none h'] at this
   refine ⟨⟨z0, z1⟩, a.block, a.off, by rw [← ea], hblk, fun r v hv => ?_⟩
   match r, hv with
   | 0, hv => simp [prcCells] at hv; subst hv; exact c0
   | 1, hv => simp [prcCells] at hv; subst hv; exact c1
   | r + 2, hv => simp [prcCells] at hv
  obtain ⟨l, hll, hq⟩ := list_of each
  refine ⟨some a, cap, l, by rw [hll], fun i hi => ?_, by rw [hll]; omega⟩
  exact hq i hi
end
end Go.Proofs.YtaohhdlkgnjphaaGreat
