/- The drawn disk with what is asked of it. -/
import Derived.Test.YtiilkkdbifhojaaGreatBh
namespace Go.Proofs.YtiilkkdbifhojaaGreat
open Go.ChangeShapes Go.WideShapes Go.ChangeAt Go.RowKit
set_option linter.unusedVariables false
set_option maxRecDepth 100000
/-- where a row lies, if there is anything in it -/
def RowOff {A : Type} (a : Option Addr) (l : List A) (p : Nat → Prop) : Prop := 0 < l.length → ∀ ad, a = some ad → p ad.block
theorem RowAt.off {A : Type} {sz : Nat} {f : A → List Value} {x y : World} {a : Option Addr} {l : List A} {p : Nat → Prop} (h : RowAt sz f x a l) (hp : RowOff a l p) (s : x.heap.size ≤ y.heap.size) (e : ∀ g, p g → g < x.heap.size → y.heap[g]? = x.heap[g]?) : RowAt sz f y a l := fun i hi => by
  obtain ⟨b, off, ea, hb, hc⟩ := h i hi
  exact ⟨b, off, ea, by omega, fun r v hv => (World.cell?_of_block (w := x) (w' := y) (a := ⟨b, off + i * sz + r, none⟩) (e b (hp (by omega) _ ea) hb)).trans (hc r v hv)⟩
structure DkOff (p : Nat → Prop) (a1 a2 a3 : Option Addr) (L S : List Fl) (O : List Dp) : Prop where
  r1 : RowOff a1 L p
  r2 : RowOff a2 S p
  r3 : RowOff a3 O p
theorem DkAt.off {x y : World} {a1 a2 a3 : Option Addr} {L S : List Fl} {O : List Dp} {p : Nat → Prop} (h : DkAt x a1 a2 a3 L S O) (hp : DkOff p a1 a2 a3 L S O) (s : x.heap.size ≤ y.heap.size) (e : ∀ g, p g → g < x.heap.size → y.heap[g]? = x.heap[g]?) : DkAt y a1 a2 a3 L S O :=
  ⟨h.r1.off hp.r1 s e, h.r2.off hp.r2 s e, h.r3.off hp.r3 s e⟩
theorem DkOff.of {a1 a2 a3 : Option Addr} {L S : List Fl} {O : List Dp} {m : Nat} {p : Nat → Prop} (h : ∀ ad, (a1 = some ad ∨ a2 = some ad ∨ a3 = some ad) → m ≤ ad.block) (hp : ∀ g, m ≤ g → p g) : DkOff p a1 a2 a3 L S O :=
  ⟨fun _ ad q => hp _ (h ad (.inl q)), fun _ ad q => hp _ (h ad (.inr (.inl q))), fun _ ad q => hp _ (h ad (.inr (.inr q)))⟩
theorem row_lt {A : Type} {sz : Nat} {f : A → List Value} {x : World} {a : Option Addr} {l : List A} (h : RowAt sz f x a l) : RowOff a l (fun g => g < x.heap.size) := fun h0 ad q => by
  obtain ⟨b, off, ea, hb, _⟩ := h 0 h0
  rw [ea] at q
  simp only [Option.some.injEq] at q
  rw [← q]; exact hb
theorem DkAt.lt {x : World} {a1 a2 a3 : Option Addr} {L S : List Fl} {O : List Dp} (h : DkAt x a1 a2 a3 L S O) : DkOff (fun g => g < x.heap.size) a1 a2 a3 L S O := ⟨row_lt h.r1, row_lt h.r2, row_lt h.r3⟩
theorem DkOff.and {a1 a2 a3 : Option Addr} {L S : List Fl} {O : List Dp} {p q r : Nat → Prop} (h : DkOff p a1 a2 a3 L S O) (k : DkOff q a1 a2 a3 L S O) (hr : ∀ g, p g → q g → r g) : DkOff r a1 a2 a3 L S O :=
  ⟨fun h0 ad e => hr _ (h.r1 h0 ad e) (k.r1 h0 ad e), fun h0 ad e => hr _ (h.r2 h0 ad e) (k.r2 h0 ad e), fun h0 ad e => hr _ (h.r3 h0 ad e) (k.r3 h0 ad e)⟩
/-- a disk behind its variable, away from certain blocks -/
def DkIn (D : Nat) (p : Nat → Prop) (x : World) : Prop := ∃ (a1 a2 a3 : Option Addr) (c1 c2 c3 : Nat) (L S : List Fl) (O : List Dp), Blk D [.slice a1 L.length c1, .slice a2 S.length c2, .slice a3 O.length c3] x ∧ DkAt x a1 a2 a3 L S O ∧ SmD L S O ∧ ((a1 = none → c1 = 0) ∧ (a2 = none → c2 = 0) ∧ (a3 = none → c3 = 0)) ∧ DkOff p a1 a2 a3 L S O
structure DoSt (w : World) (D P : Nat) (x : World) : Prop where
  bel : Below w.heap.size w x
  rd : Rd (w.heap.size + 2) x
  r1 : Blk w.heap.size [.slice none 0 0, .slice none 0 0, .slice none 0 0] x
  r2 : Blk (w.heap.size + 1) [.int .i64 0, .string ⟨#[]⟩, .string ⟨#[]⟩, .string ⟨#[]⟩] x
  ds : DkIn D (fun g => w.heap.size + 2 < g ∧ g ≠ D ∧ g ≠ P) x
  os : ∃ o : Dp, SmO o ∧ Blk P [.int .i64 o.kind, .string o.nm, .string o.tn, .string o.da] x
  lt : w.heap.size + 2 < D ∧ D < P
theorem DkIn.off {D : Nat} {p : Nat → Prop} {x y : World} (h : DkIn D p x) (s : x.heap.size ≤ y.heap.size) (e : ∀ g, p g → g < x.heap.size → y.heap[g]? = x.heap[g]?) (eD : y.heap[D]? = x.heap[D]?) : DkIn D p y := by
  obtain ⟨a1, a2, a3, c1, c2, c3, L, S, O, h1, h2, h3, h4, h5⟩ := h
  exact ⟨a1, a2, a3, c1, c2, c3, L, S, O, h1.same eD s, h2.off h5 s e, h3, h4, h5⟩
theorem DoSt.apart {w : World} {D P : Nat} {x y : World} (h : DoSt w D P x) (k : Apart (w.heap.size + 2) x y) (hr : Rd (w.heap.size + 2) y) : DoSt w D P y := by
  have l := h.lt
  obtain ⟨o, ho, hP⟩ := h.os
  have lD : D < x.heap.size := by obtain ⟨_, _, _, _, _, _, _, _, _, h1, _⟩ := h.ds; exact h1.lt
  exact ⟨below_apart h.bel (by omega) k, hr, h.r1.apart k (by omega), h.r2.apart k (by omega), h.ds.off k.size (fun g hg hx => k.block g hx (by omega)) (k.block D lD (by omega)), ⟨o, ho, hP.apart k (by omega)⟩, l⟩
theorem DoSt.below {w : World} {D P : Nat} {x y : World} (h : DoSt w D P x) (k : Below x.heap.size x y) : DoSt w D P y := h.apart (apart_of k) (h.rd.on k)
theorem DoSt.setop {w : World} {D P : Nat} {x : World} {o o' : Dp} {j : Nat} {v : Value} (h : DoSt w D P x) (hP : Blk P [.int .i64 o.kind, .string o.nm, .string o.tn, .string o.da] x) (ho : SmO o') (hj : j < 4) (hc : [Value.int .i64 o'.kind, .string o'.nm, .string o'.tn, .string o'.da] = [Value.int .i64 o.kind, .string o.nm, .string o.tn, .string o.da].set j v) : DoSt w D P (x.setCell ⟨P, j, none⟩ v) := by
  have l := h.lt
  have eb : ∀ g, g ≠ P → (x.setCell ⟨P, j, none⟩ v).heap[g]? = x.heap[g]? := fun g hg => set_block _ _ hg
  exact ⟨h.bel.setCell (p := ⟨P, j, none⟩) (by show w.heap.size ≤ P; omega) _, h.rd.set_hi (by omega) _, h.r1.other _ _ (by omega), h.r2.other _ _ (by omega), h.ds.off (by simp) (fun g hg _ => eb g hg.2.2) (eb D (by omega)), ⟨o', ho, by rw [hc]; exact hP.set j v (by simpa using hj)⟩, l⟩
theorem DoSt.putd {w : World} {D P : Nat} {x : World} {a1 a2 a3 : Option Addr} {c1 c2 c3 : Nat} {L S : List Fl} {O : List Dp} {u1 u2 u3 : Value} (h : DoSt w D P x) (hD : Blk D [u1, u2, u3] x) (h2 : DkAt x a1 a2 a3 L S O) (h3 : SmD L S O) (h4 : (a1 = none → c1 = 0) ∧ (a2 = none → c2 = 0) ∧ (a3 = none → c3 = 0)) (h5 : DkOff (fun g => w.heap.size + 2 < g ∧ g ≠ D ∧ g ≠ P) a1 a2 a3 L S O) : DoSt w D P (((x.setCell ⟨D, 0, none⟩ (.slice a1 L.length c1)).setCell ⟨D, 1, none⟩ (.slice a2 S.length c2)).setCell ⟨D, 2, none⟩ (.slice a3 O.length c3)) := by
  have l := h.lt
  obtain ⟨o, ho, hP⟩ := h.os
  have eb : ∀ g, g ≠ D → (((x.setCell ⟨D, 0, none⟩ (.slice a1 L.length c1)).setCell ⟨D, 1, none⟩ (.slice a2 S.length c2)).setCell ⟨D, 2, none⟩ (.slice a3 O.length c3)).heap[g]? = x.heap[g]? := fun g hg => by rw [set_block _ _ hg, set_block _ _ hg, set_block _ _ hg]
  exact ⟨((h.bel.setCell (p := ⟨D, 0, none⟩) (by show w.heap.size ≤ D; omega) _).setCell (p := ⟨D, 1, none⟩) (by show w.heap.size ≤ D; omega) _).setCell (p := ⟨D, 2, none⟩) (by show w.heap.size ≤ D; omega) _, ((h.rd.set_hi (by omega) _).set_hi (by omega) _).set_hi (by omega) _, ((h.r1.other _ _ (by omega)).other _ _ (by omega)).other _ _ (by omega), ((h.r2.other _ _ (by omega)).other _ _ (by omega)).other _ _ (by omega), ⟨a1, a2, a3, c1, c2, c3, L, S, O, ((hD.set 0 _ (by simp)).set 1 _ (by simp)).set 2 _ (by simp), h2.off h5 (by simp) (fun g hg _ => eb g hg.2.1), h3, h4, h5⟩, ⟨o, ho, ((hP.other _ _ (by omega)).other _ _ (by omega)).other _ _ (by omega)⟩, l⟩
/-- what was drawn -/
def DrawnDo (w : World) (e : Ending) (w' : World) : Prop := Below w.heap.size w w' ∧ ∃ (a1 a2 a3 : Option Addr) (c1 c2 c3 : Nat) (L S : List Fl) (O : List Dp) (o : Dp), e = .returned (.tuple #[.agg #[.slice a1 L.length c1, .slice a2 S.length c2, .slice a3 O.length c3], .agg #[.int .i64 o.kind, .string o.nm, .string o.tn, .string o.da]]) ∧ DkAt w' a1 a2 a3 L S O ∧ SmD L S O ∧ ((a1 = none → c1 = 0) ∧ (a2 = none → c2 = 0) ∧ (a3 = none → c3 = 0)) ∧ SmO o
theorem drawnDo_end {w x y : World} {D P : Nat} {a1 a2 a3 : Option Addr} {c1 c2 c3 : Nat} {L S : List Fl} {O : List Dp} {o : Dp} (h : DoSt w D P x) (h2 : DkAt x a1 a2 a3 L S O) (h3 : SmD L S O) (h4 : (a1 = none → c1 = 0) ∧ (a2 = none → c2 = 0) ∧ (a3 = none → c3 = 0)) (h5 : DkOff (fun g => w.heap.size + 2 < g ∧ g ≠ D ∧ g ≠ P) a1 a2 a3 L S O) (ho : SmO o) (hb : Below w.heap.size x y) (hy : ∀ g, w.heap.size + 2 < g → y.heap[g]? = x.heap[g]?) : DrawnDo w (.returned (.tuple #[.agg #[.slice a1 L.length c1, .slice a2 S.length c2, .slice a3 O.length c3], .agg #[.int .i64 o.kind, .string o.nm, .string o.tn, .string o.da]])) y :=
  ⟨h.bel.trans hb, a1, a2, a3, c1, c2, c3, L, S, O, o, rfl, h2.off h5 hb.size (fun g hg _ => hy g hg.1), h3, h4, ho⟩
theorem drew_heap (y : World) : y.drew.heap = y.heap := rfl
theorem drawnDo_fin {w x : World} {e : Ending} {s1 s2 s3 t0 t1 t2 t3 : Value} (h : ∀ y : World, Below w.heap.size x y → (∀ g, w.heap.size + 2 < g → y.heap[g]? = x.heap[g]?) → DrawnDo w e y) : DrawnDo w e (((((((x.setCell ⟨w.heap.size, 0, none⟩ (s1)).setCell ⟨w.heap.size, 1, none⟩ (s2)).setCell ⟨w.heap.size, 2, none⟩ (s3)).setCell ⟨(w.heap.size + 1), 0, none⟩ (t0)).setCell ⟨(w.heap.size + 1), 1, none⟩ (t1)).setCell ⟨(w.heap.size + 1), 2, none⟩ (t2)).setCell ⟨(w.heap.size + 1), 3, none⟩ (t3)).drew := by
  have b1 := (Below.refl w.heap.size x).setCell (p := ⟨w.heap.size, 0, none⟩) (Nat.le_refl _) s1
  have b2 := b1.setCell (p := ⟨w.heap.size, 1, none⟩) (Nat.le_refl _) s2
  have b3 := b2.setCell (p := ⟨w.heap.size, 2, none⟩) (Nat.le_refl _) s3
  have b4 := b3.setCell (p := ⟨w.heap.size + 1, 0, none⟩) (Nat.le_succ _) t0
  have b5 := b4.setCell (p := ⟨w.heap.size + 1, 1, none⟩) (Nat.le_succ _) t1
  have b6 := b5.setCell (p := ⟨w.heap.size + 1, 2, none⟩) (Nat.le_succ _) t2
  have hb := b6.setCell (p := ⟨w.heap.size + 1, 3, none⟩) (Nat.le_succ _) t3
  refine h _ hb.drew (fun g hg => ?_)
  rw [drew_heap, set_block _ _ (by omega), set_block _ _ (by omega), set_block _ _ (by omega), set_block _ _ (by omega), set_block _ _ (by omega), set_block _ _ (by omega), set_block _ _ (by omega)]
theorem x_sm : (⟨#[120]⟩ : ByteArray).size ≤ 1048600 := by show (1 : Nat) ≤ _; omega
theorem bop_sm : SmO ⟨1, ⟨#[98]⟩, ⟨#[]⟩, ⟨#[]⟩⟩ := ⟨by show (1 : Nat) ≤ _; omega, em_sm, em_sm⟩
theorem smD_do3 {live safe : List Fl} {ops : List Dp} {o : Dp} (h : SmD live safe ops) (ho : SmO o) : SmD (doLv live safe ops o) (doSv live safe ops o) (doOv live safe ops o) := by
  cases hB : diskB ⟨live, safe, ops⟩
  · obtain ⟨_, e2, e3, e4⟩ := do_no (o := o) hB
    rw [e2, e3, e4]
    exact ⟨⟨by simp, fun x hx => by simp at hx⟩, ⟨by simp, fun x hx => by simp at hx⟩, by simp, fun x hx => by simp at hx⟩
  · by_cases hc : doCv live safe ops o = 0
    · exact smD_of (do_disk hB hc)
    · obtain ⟨e1, e2, e3, e4⟩ := do_yes (o := o) hB
      rw [e1] at hc
      rw [e2, e3, e4, (act_no rfl hc).1, (act_no rfl hc).2]
      exact h
end Go.Proofs.YtiilkkdbifhojaaGreat
