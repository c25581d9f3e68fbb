/- An argument of a ledger's type, opened. -/
import Derived.Test.YtoedefamcjnklaaGreatDoorGc
import Derived.Deep.Slices
namespace Go.Proofs.YtoedefamcjnklaaGreatDoor
open Go.ChangeShapes Go.WideShapes Go.ChangeAt Go.RowKit
set_option linter.unusedVariables false
set_option maxRecDepth 100000
theorem list_of {A : Type} {Q : Nat → A → Prop} : ∀ {n : Nat}, (∀ i, i < n → ∃ x, Q i x) → ∃ l : List A, l.length = n ∧ ∀ i (hi : i < l.length), Q i l[i]
  | 0, _ => ⟨[], rfl, fun i hi => by simp at hi⟩
  | n + 1, h => by
    obtain ⟨l, hl, hq⟩ := list_of (n := n) (fun i hi => h i (by omega))
    obtain ⟨x, hx⟩ := h n (by omega)
    refine ⟨l ++ [x], by simp [hl], fun i hi => ?_⟩
    rcases Nat.lt_or_ge i l.length with h1 | h1
    · rw [List.getElem_append_left h1]; exact hq i h1
    · have : i = l.length := by simp at hi; omega
      subst this
      simp only [List.getElem_concat_length]
      rw [hl]; exact hx
theorem spot_none {w : World} {a : Addr} {v : Value} (h : w.cell? a = some v) : a = ⟨a.block, a.off, none⟩ := by
  obtain ⟨b, o, s⟩ := a
  cases s with
  | none => rfl
  | some x =>
    unfold World.cell? at h
    simp only at h
    split at h <;> simp at h
theorem add_at {b off i j : Nat} : ((⟨b, off, none⟩ : Addr).add i).add j = ⟨b, off + i + j, none⟩ := by
  unfold Addr.add
  by_cases hi : i = 0 <;> by_cases hj : j = 0 <;> simp [hi, hj, Nat.add_assoc]
theorem i64_of {n : Int} (h : (Lit.int .i64 n).wf = true) : I64 n := by
  simp only [Lit.wf, Bool.and_eq_true, decide_eq_true_eq] at h
  have e1 : IntKind.i64.min = -9223372036854775808 := by decide
  have e2 : IntKind.i64.max = 9223372036854775807 := by decide
  rw [e1, e2] at h
  exact h
theorem cells69 : Tryz.prog.cellsOf 68 = 4 := by kernel_rfl
theorem cells71 : Tryz.prog.cellsOf 71 = 4 := by kernel_rfl
theorem cells75 : Tryz.prog.cellsOf 89 = 2 := by kernel_rfl
theorem cells9 : Tryz.prog.cellsOf 9 = 1 := by kernel_rfl
theorem cells2 : Tryz.prog.cellsOf 2 = 1 := by kernel_rfl
theorem cells22 : Tryz.prog.cellsOf 22 = 1 := by kernel_rfl
theorem cells23 : Tryz.prog.cellsOf 23 = 1 := by kernel_rfl
theorem cells24 : Tryz.prog.cellsOf 24 = 1 := by kernel_rfl
theorem cells26 : Tryz.prog.cellsOf 26 = 3 := by kernel_rfl
theorem list4 {A : Type} (l : List A) (h : l.length = 4) : ∃ a b c d, l = [a, b, c, d] := by
  match l, h with
  | [a, b, c, d], _ => exact ⟨a, b, c, d, rfl⟩
theorem list3 {A : Type} (l : List A) (h : l.length = 3) : ∃ a b c, l = [a, b, c] := by
  match l, h with
  | [a, b, c], _ => exact ⟨a, b, c, rfl⟩
theorem list2 {A : Type} (l : List A) (h : l.length = 2) : ∃ a b, l = [a, b] := by
  match l, h with
  | [a, b], _ => exact ⟨a, b, rfl⟩
section
variable {H : Type} {enc : TypeId × Value → H} {W : World} {base : Nat} {sp : Nat → Bool} {held : Bool}
theorem open_accs {fuel : Nat} {cs : List Value} {x : DataW H × List MemPlace} (h : DataW.trod enc Tryz.prog W base sp held fuel 22 cs = some x) : ∃ a cap, ∃ l : List Acc, cs = [.slice a l.length cap] ∧ AccAt W a l ∧ l.length ≤ maxLen := by
  rcases Deep.open_slice Tryz.underlying22 h with ⟨rfl, _⟩ | ⟨a, len, cap, m, k, D, Pl, rfl, hb, hl, hm, hmm, rfl, hx⟩
  · exact ⟨none, 0, [], rfl, fun i hi => by simp at hi, by simp⟩
  · have hlm : len ≤ m := by rw [hmm]; split <;> omega
    have hsp : 0 < len → a = ⟨a.block, a.off, none⟩ := fun h0 => by
      obtain ⟨cs', h1, _⟩ := hx 0 (by omega)
      rw [cells69] at h1
      obtain ⟨_, hcl, hcell⟩ := World.cells?_some h1
      have := hcell 0 (by decide)
      simp only [Nat.zero_mul, Addr.add, if_true] at this
      exact spot_none (v := cs'[0]) (by rw [this, List.getElem?_eq_getElem])
    have each : ∀ i, i < len → ∃ y : Acc, ∃ b off, some a = some ⟨b, off, none⟩ ∧ b < W.heap.size ∧ W.cell? ⟨b, off + i * 4, none⟩ = some (.string y.name) ∧ W.cell? ⟨b, off + i * 4 + 1, none⟩ = some (.string y.cur) ∧ W.cell? ⟨b, off + i * 4 + 2, none⟩ = some (.int .i64 y.limit) ∧ W.cell? ⟨b, off + i * 4 + 3, none⟩ = some (.int .i64 y.posted) ∧ y.name.size ≤ maxLen ∧ y.cur.size ≤ maxLen ∧ I64 y.limit ∧ I64 y.posted := fun i hi => by
      obtain ⟨cs', h1, h2⟩ := hx i (by omega)
      rw [cells69] at h1
      obtain ⟨_, hcl, hcell⟩ := World.cells?_some h1
      obtain ⟨xs, n', _, _, _, hxl, hf⟩ := DataW.trod_struct Tryz.underlying68 h2
      have ea := hsp (by omega)
      rw [ea] at hcell
      obtain ⟨y0, y1, y2, y3, rfl⟩ := list4 xs hxl
      obtain ⟨v0, v1, v2, v3, rfl⟩ := list4 cs' hcl
      have g0 : DataW.trod enc Tryz.prog W base sp held n' 9 [v0] = some y0 := by simpa [cells9] using hf 0 _ rfl
      have c0 := hcell 0 (by decide)
      rw [add_at] at c0
      have g1 : DataW.trod enc Tryz.prog W base sp held n' 9 [v1] = some y1 := by simpa [cells9] using hf 1 _ rfl
      have c1 := hcell 1 (by decide)
      rw [add_at] at c1
      have g2 : DataW.trod enc Tryz.prog W base sp held n' 2 [v2] = some y2 := by simpa [cells2] using hf 2 _ rfl
      have c2 := hcell 2 (by decide)
      rw [add_at] at c2
      have g3 : DataW.trod enc Tryz.prog W base sp held n' 2 [v3] = some y3 := by simpa [cells2] using hf 3 _ rfl
      have c3 := hcell 3 (by decide)
      rw [add_at] at c3
      obtain ⟨z0, e0, _, s0⟩ := DataW.trod_string Tryz.underlying9 g0
      obtain ⟨z1, e1, _, s1⟩ := DataW.trod_string Tryz.underlying9 g1
      obtain ⟨z2, e2, _, s2⟩ := DataW.trod_int Tryz.underlying2 g2
      obtain ⟨z3, e3, _, s3⟩ := DataW.trod_int Tryz.underlying2 g3
      simp only [List.cons.injEq, and_true] at e0 e1 e2 e3
      subst e0 e1 e2 e3
      have hblk : a.block < W.heap.size := by
        rcases Nat.lt_or_ge a.block W.heap.size with h' | h'
        · exact h'
        · exfalso
          have := c0
          simp [World.cell?, Array.getElem?_eq_none h'] at this
      exact ⟨⟨z0, z1, z2, z3⟩, a.block, a.off, by rw [← ea], hblk, c0, c1, c2, c3, s0, s1, i64_of s2, i64_of s3⟩
    obtain ⟨l, hll, hq⟩ := list_of each
    refine ⟨some a, cap, l, by rw [hll], fun i hi => ?_, by rw [hll]; omega⟩
    exact hq i hi
theorem open_hlds {fuel : Nat} {cs : List Value} {x : DataW H × List MemPlace} (h : DataW.trod enc Tryz.prog W base sp held fuel 23 cs = some x) : ∃ a cap, ∃ l : List Hld, cs = [.slice a l.length cap] ∧ HoldAt W a l ∧ l.length ≤ maxLen := by
  rcases Deep.open_slice Tryz.underlying23 h with ⟨rfl, _⟩ | ⟨a, len, cap, m, k, D, Pl, rfl, hb, hl, hm, hmm, rfl, hx⟩
  · exact ⟨none, 0, [], rfl, fun i hi => by simp at hi, by simp⟩
  · have hlm : len ≤ m := by rw [hmm]; split <;> omega
    have hsp : 0 < len → a = ⟨a.block, a.off, none⟩ := fun h0 => by
      obtain ⟨cs', h1, _⟩ := hx 0 (by omega)
      rw [cells71] at h1
      obtain ⟨_, hcl, hcell⟩ := World.cells?_some h1
      have := hcell 0 (by decide)
      simp only [Nat.zero_mul, Addr.add, if_true] at this
      exact spot_none (v := cs'[0]) (by rw [this, List.getElem?_eq_getElem])
    have each : ∀ i, i < len → ∃ y : Hld, ∃ b off, some a = some ⟨b, off, none⟩ ∧ b < W.heap.size ∧ W.cell? ⟨b, off + i * 4, none⟩ = some (.int .i64 y.id) ∧ W.cell? ⟨b, off + i * 4 + 1, none⟩ = some (.string y.fr) ∧ W.cell? ⟨b, off + i * 4 + 2, none⟩ = some (.string y.to) ∧ W.cell? ⟨b, off + i * 4 + 3, none⟩ = some (.int .i64 y.amount) ∧ y.fr.size ≤ maxLen ∧ y.to.size ≤ maxLen ∧ I64 y.id ∧ I64 y.amount := fun i hi => by
      obtain ⟨cs', h1, h2⟩ := hx i (by omega)
      rw [cells71] at h1
      obtain ⟨_, hcl, hcell⟩ := World.cells?_some h1
      obtain ⟨xs, n', _, _, _, hxl, hf⟩ := DataW.trod_struct Tryz.underlying71 h2
      have ea := hsp (by omega)
      rw [ea] at hcell
      obtain ⟨y0, y1, y2, y3, rfl⟩ := list4 xs hxl
      obtain ⟨v0, v1, v2, v3, rfl⟩ := list4 cs' hcl
      have g0 : DataW.trod enc Tryz.prog W base sp held n' 2 [v0] = some y0 := by simpa [cells2] using hf 0 _ rfl
      have c0 := hcell 0 (by decide)
      rw [add_at] at c0
      have g1 : DataW.trod enc Tryz.prog W base sp held n' 9 [v1] = some y1 := by simpa [cells9] using hf 1 _ rfl
      have c1 := hcell 1 (by decide)
      rw [add_at] at c1
      have g2 : DataW.trod enc Tryz.prog W base sp held n' 9 [v2] = some y2 := by simpa [cells9] using hf 2 _ rfl
      have c2 := hcell 2 (by decide)
      rw [add_at] at c2
      have g3 : DataW.trod enc Tryz.prog W base sp held n' 2 [v3] = some y3 := by simpa [cells2] using hf 3 _ rfl
      have c3 := hcell 3 (by decide)
      rw [add_at] at c3
      obtain ⟨z0, e0, _, s0⟩ := DataW.trod_int Tryz.underlying2 g0
      obtain ⟨z1, e1, _, s1⟩ := DataW.trod_string Tryz.underlying9 g1
      obtain ⟨z2, e2, _, s2⟩ := DataW.trod_string Tryz.underlying9 g2
      obtain ⟨z3, e3, _, s3⟩ := DataW.trod_int Tryz.underlying2 g3
      simp only [List.cons.injEq, and_true] at e0 e1 e2 e3
      subst e0 e1 e2 e3
      have hblk : a.block < W.heap.size := by
        rcases Nat.lt_or_ge a.block W.heap.size with h' | h'
        · exact h'
        · exfalso
          have := c0
          simp [World.cell?, Array.getElem?_eq_none h'] at this
      exact ⟨⟨z0, z1, z2, z3⟩, a.block, a.off, by rw [← ea], hblk, c0, c1, c2, c3, s1, s2, i64_of s0, i64_of s3⟩
    obtain ⟨l, hll, hq⟩ := list_of each
    refine ⟨some a, cap, l, by rw [hll], fun i hi => ?_, by rw [hll]; omega⟩
    exact hq i hi
theorem open_anss {fuel : Nat} {cs : List Value} {x : DataW H × List MemPlace} (h : DataW.trod enc Tryz.prog W base sp held fuel 24 cs = some x) : ∃ a cap, ∃ l : List Sn, cs = [.slice a l.length cap] ∧ AnsAt W a l ∧ l.length ≤ maxLen := by
  rcases Deep.open_slice Tryz.underlying24 h with ⟨rfl, _⟩ | ⟨a, len, cap, m, k, D, Pl, rfl, hb, hl, hm, hmm, rfl, hx⟩
  · exact ⟨none, 0, [], rfl, fun i hi => by simp at hi, by simp⟩
  · have hlm : len ≤ m := by rw [hmm]; split <;> omega
    have hsp : 0 < len → a = ⟨a.block, a.off, none⟩ := fun h0 => by
      obtain ⟨cs', h1, _⟩ := hx 0 (by omega)
      rw [cells75] at h1
      obtain ⟨_, hcl, hcell⟩ := World.cells?_some h1
      have := hcell 0 (by decide)
      simp only [Nat.zero_mul, Addr.add, if_true] at this
      exact spot_none (v := cs'[0]) (by rw [this, List.getElem?_eq_getElem])
    have each : ∀ i, i < len → ∃ y : Sn, ∃ b off, some a = some ⟨b, off, none⟩ ∧ b < W.heap.size ∧ W.cell? ⟨b, off + i * 2, none⟩ = some (.int .i64 y.id) ∧ W.cell? ⟨b, off + i * 2 + 1, none⟩ = some (.int .i64 y.code) ∧ I64 y.id ∧ I64 y.code := fun i hi => by
      obtain ⟨cs', h1, h2⟩ := hx i (by omega)
      rw [cells75] at h1
      obtain ⟨_, hcl, hcell⟩ := World.cells?_some h1
      obtain ⟨xs, n', _, _, _, hxl, hf⟩ := DataW.trod_struct Tryz.underlying89 h2
      have ea := hsp (by omega)
      rw [ea] at hcell
      obtain ⟨y0, y1, rfl⟩ := list2 xs hxl
      obtain ⟨v0, v1, rfl⟩ := list2 cs' hcl
      have g0 : DataW.trod enc Tryz.prog W base sp held n' 2 [v0] = some y0 := by simpa [cells2] using hf 0 _ rfl
      have c0 := hcell 0 (by decide)
      rw [add_at] at c0
      have g1 : DataW.trod enc Tryz.prog W base sp held n' 2 [v1] = some y1 := by simpa [cells2] using hf 1 _ rfl
      have c1 := hcell 1 (by decide)
      rw [add_at] at c1
      obtain ⟨z0, e0, _, s0⟩ := DataW.trod_int Tryz.underlying2 g0
      obtain ⟨z1, e1, _, s1⟩ := DataW.trod_int Tryz.underlying2 g1
      simp only [List.cons.injEq, and_true] at e0 e1
      subst e0 e1
      have hblk : a.block < W.heap.size := by
        rcases Nat.lt_or_ge a.block W.heap.size with h' | h'
        · exact h'
        · exfalso
          have := c0
          simp [World.cell?, Array.getElem?_eq_none h'] at this
      exact ⟨⟨z0, z1⟩, a.block, a.off, by rw [← ea], hblk, c0, c1, i64_of s0, i64_of s1⟩
    obtain ⟨l, hll, hq⟩ := list_of each
    refine ⟨some a, cap, l, by rw [hll], fun i hi => ?_, by rw [hll]; omega⟩
    exact hq i hi
end
theorem open_led {H : Type} {enc : TypeId × Value → H} {W : World} {base : Nat} {v : Value} {d : DataW H} {p : List MemPlace} (hv : Value.okWide Tryz.prog W .any base 26 v) (h : DataW.Trod enc Tryz.prog W 0 (fun _ => true) true 26 v d p) :
    ∃ (a h s : Option Addr) (ca ch cs : Nat) (L : Led), v = .agg #[.slice a L.acc.length ca, .slice h L.hold.length ch, .slice s L.seen.length cs] ∧ LedAt W a h s L ∧ L.acc.length ≤ maxLen ∧ L.hold.length ≤ maxLen ∧ L.seen.length ≤ maxLen := by
  obtain ⟨cs, rfl, hsz⟩ := okWide_struct Tryz.underlying26 hv
  obtain ⟨fuel, hf⟩ := h
  obtain ⟨xs, n, _, _, hl, hlen, hfi⟩ := DataW.trod_struct Tryz.underlying26 hf
  obtain ⟨y0, y1, y2, rfl⟩ := list3 xs hlen
  rw [cells26] at hl
  simp only [Value.cells] at hl hfi
  obtain ⟨a0, a1, a2, hcs⟩ := list3 _ hl
  rw [hcs] at hfi
  have h0 : DataW.trod enc Tryz.prog W 0 (fun _ => true) true n 22 [a0] = some y0 := by simpa [cells22] using hfi 0 _ rfl
  have h1 : DataW.trod enc Tryz.prog W 0 (fun _ => true) true n 23 [a1] = some y1 := by simpa [cells23] using hfi 1 _ rfl
  have h2 : DataW.trod enc Tryz.prog W 0 (fun _ => true) true n 24 [a2] = some y2 := by simpa [cells24] using hfi 2 _ rfl
  obtain ⟨a, ca, la, e0, ha, na⟩ := open_accs h0
  obtain ⟨h, ch, lh, e1, hh, nh⟩ := open_hlds h1
  obtain ⟨s, cs', ls, e2, hs, ns⟩ := open_anss h2
  simp only [List.cons.injEq, and_true] at e0 e1 e2
  subst e0 e1 e2
  exact ⟨a, h, s, ca, ch, cs', ⟨la, lh, ls⟩, by congr 1; exact Array.toList_inj.1 hcs, ⟨ha, hh, hs⟩, na, nh, ns⟩
end Go.Proofs.YtoedefamcjnklaaGreatDoor
