/- Arguments of the laws' types, opened: slots, a move. -/
import Derived.Test.YthlnfomhbnpcoaaRow
import Derived.Deep.Slices
import Derived.ChangeOld
namespace Go.Proofs.Ythlnfomhbnpcoaa
open Go.ChangeShapes Go.WideShapes Go.ChangeAt Go.RowKit
set_option linter.unusedVariables false
theorem list_of {A : Type} {Q : Nat → A → Prop} : ∀ {n : Nat}, (∀ i, i < n → ∃ x, Q i x) → ∃ l : List A, l.length = n ∧ ∀ i (hi : i < l.length), Q i l[i]
  | 0, _ => ⟨[], rfl, fun i hi => by simp at hi⟩
  | n + 1, h => by
    obtain ⟨l, hl, hq⟩ := list_of (n := n) (fun i hi => h i (by omega))
    obtain ⟨x, hx⟩ := h n (by omega)
    refine ⟨l ++ [x], by simp [hl], fun i hi => ?_⟩
    rcases Nat.lt_or_ge i l.length with h1 | h1
    · rw [List.getElem_append_left h1]; exact hq i h1
    · have : i = l.length := by simp at hi; omega
      subst this
      simp only [List.getElem_concat_length]
      rw [hl]; exact hx
theorem spot_none {w : World} {a : Addr} {v : Value} (h : w.cell? a = some v) : a = ⟨a.block, a.off, none⟩ := by
  obtain ⟨b, o, s⟩ := a
  cases s with
  | none => rfl
  | some x =>
    unfold World.cell? at h
    simp only at h
    split at h <;> simp at h
theorem add_at {b off i j : Nat} : ((⟨b, off, none⟩ : Addr).add i).add j = ⟨b, off + i + j, none⟩ := by
  unfold Addr.add
  by_cases hi : i = 0 <;> by_cases hj : j = 0 <;> simp [hi, hj, Nat.add_assoc]
theorem i64_of {n : Int} (h : (Lit.int .i64 n).wf = true) : I64 n := by
  simp only [Lit.wf, Bool.and_eq_true, decide_eq_true_eq] at h
  have e1 : IntKind.i64.min = -9223372036854775808 := by decide
  have e2 : IntKind.i64.max = 9223372036854775807 := by decide
  rw [e1, e2] at h
  exact h
theorem own : ownKnob Try.prog.godebug = none := by kernel_rfl
theorem laidOut : laidOutB Try.prog = true := by kernel_rfl
theorem cellsS : Try.prog.cellsOf 51 = 3 := by kernel_rfl
theorem cells2 : Try.prog.cellsOf 2 = 1 := by kernel_rfl
theorem list3 {A : Type} (l : List A) (h : l.length = 3) : ∃ a b c, l = [a, b, c] := by
  match l, h with
  | [a, b, c], _ => exact ⟨a, b, c, rfl⟩
section
variable {H : Type} {enc : TypeId × Value → H} {W : World} {base : Nat} {sp : Nat → Bool} {held : Bool}
theorem open_slots {fuel : Nat} {cs : List Value} {x : DataW H × List MemPlace} (h : DataW.trod enc Try.prog W base sp held fuel 22 cs = some x) : ∃ a cap, ∃ l : List Slt, cs = [.slice a l.length cap] ∧ SlotAt W a l ∧ l.length ≤ maxLen := by
  rcases Deep.open_slice Try.underlying22 h with ⟨rfl, _⟩ | ⟨a, len, cap, m, k, D, Pl, rfl, hb, hl, hm, hmm, rfl, hx⟩
  · exact ⟨none, 0, [], rfl, fun i hi => by simp at hi, by simp⟩
  · have hlm : len ≤ m := by rw [hmm]; split <;> omega
    have hsp : 0 < len → a = ⟨a.block, a.off, none⟩ := fun h0 => by
      obtain ⟨cs', h1, _⟩ := hx 0 (by omega)
      rw [cellsS] at h1
      obtain ⟨_, hcl, hcell⟩ := World.cells?_some h1
      have := hcell 0 (by decide)
      simp only [Nat.zero_mul, Addr.add, if_true] at this
      exact spot_none (v := cs'[0]) (by rw [this, List.getElem?_eq_getElem])
    have each : ∀ i, i < len → ∃ y : Slt, ∃ b off, some a = some ⟨b, off, none⟩ ∧ b < W.heap.size ∧ W.cell? ⟨b, off + i * 3, none⟩ = some (.int .i64 y.id) ∧ W.cell? ⟨b, off + i * 3 + 1, none⟩ = some (.int .i64 y.up) ∧ W.cell? ⟨b, off + i * 3 + 2, none⟩ = some (.int .i64 y.has) ∧ I64 y.id ∧ I64 y.up ∧ I64 y.has := fun i hi => by
      obtain ⟨cs', h1, h2⟩ := hx i (by omega)
      rw [cellsS] at h1
      obtain ⟨_, hcl, hcell⟩ := World.cells?_some h1
      obtain ⟨xs, n', _, _, _, hxl, hf⟩ := DataW.trod_struct Try.underlying51 h2
      have ea := hsp (by omega)
      rw [ea] at hcell
      obtain ⟨y0, y1, y2, rfl⟩ := list3 xs hxl
      obtain ⟨v0, v1, v2, rfl⟩ := list3 cs' hcl
      have g0 : DataW.trod enc Try.prog W base sp held n' 2 [v0] = some y0 := by simpa [cells2] using hf 0 _ rfl
      have c0 := hcell 0 (by decide)
      rw [add_at] at c0
      have g1 : DataW.trod enc Try.prog W base sp held n' 2 [v1] = some y1 := by simpa [cells2] using hf 1 _ rfl
      have c1 := hcell 1 (by decide)
      rw [add_at] at c1
      have g2 : DataW.trod enc Try.prog W base sp held n' 2 [v2] = some y2 := by simpa [cells2] using hf 2 _ rfl
      have c2 := hcell 2 (by decide)
      rw [add_at] at c2
      obtain ⟨z0, e0, _, s0⟩ := DataW.trod_int Try.underlying2 g0
      obtain ⟨z1, e1, _, s1⟩ := DataW.trod_int Try.underlying2 g1
      obtain ⟨z2, e2, _, s2⟩ := DataW.trod_int Try.underlying2 g2
      simp only [List.cons.injEq, and_true] at e0 e1 e2
      subst e0 e1 e2
      have hblk : a.block < W.heap.size := by
        rcases Nat.lt_or_ge a.block W.heap.size with h' | h'
        · exact h'
        · exfalso
          have := c0
          simp [World.cell?, Array.getElem?_eq_none h'] at this
      exact ⟨⟨z0, z1, z2⟩, a.block, a.off, by rw [← ea], hblk, c0, c1, c2, i64_of s0, i64_of s1, i64_of s2⟩
    obtain ⟨l, hll, hq⟩ := list_of each
    refine ⟨some a, cap, l, by rw [hll], fun i hi => ?_, by rw [hll]; omega⟩
    exact hq i hi
end
theorem open_list {H : Type} {enc : TypeId × Value → H} {W : World} {v : Value} {d : DataW H} {p : List MemPlace} (hone : v.cells.toList = [v]) (h : DataW.Trod enc Try.prog W 0 (fun _ => true) true 22 v d p) :
    ∃ (a : Option Addr) (cap : Nat) (l : List Slt), v = .slice a l.length cap ∧ SlotAt W a l ∧ l.length ≤ maxLen := by
  obtain ⟨fuel, hf⟩ := h
  obtain ⟨a, cap, l, e, hs, hm⟩ := open_slots hf
  rw [hone] at e
  simp only [List.cons.injEq, and_true] at e
  exact ⟨a, cap, l, e, hs, hm⟩
end Go.Proofs.Ythlnfomhbnpcoaa
