/- The drawn disk with what is asked of it. -/
import Derived.Test.YtiilkkdbifhojaaLU1
namespace Go.Proofs.Ytiilkkdbifhojaa
open Go.ChangeShapes Go.WideShapes Go.ChangeAt Go.RowKit
set_option linter.unusedVariables false
set_option maxRecDepth 100000
/-- where a row lies, if there is anything in it -/
def RowOff {A : Type} (a : Option Addr) (l : List A) (p : Nat → Prop) : Prop := 0 < l.length → ∀ ad, a = some ad → p ad.block
theorem RowAt.off {A : Type} {sz : Nat} {f : A → List Value} {x y : World} {a : Option Addr} {l : List A} {p : Nat → Prop} (h : RowAt sz f x a l) (hp : RowOff a l p) (s : x.heap.size ≤ y.heap.size) (e : ∀ g, p g → g < x.heap.size → y.heap[g]? = x.heap[g]?) : RowAt sz f y a l := fun i hi => by
  obtain ⟨b, off, ea, hb, hc⟩ := h i hi
  exact ⟨b, off, ea, by omega, fun r v hv => (World.cell?_of_block (w := x) (w' := y) (a := ⟨b, off + i * sz + r, none⟩) (e b (hp (by omega) _ ea) hb)).trans (hc r v hv)⟩
structure DkOff (p : Nat → Prop) (a1 a2 a3 : Option Addr) (L S : List Fl) (O : List Dp) : Prop where
  r1 : RowOff a1 L p
  r2 : RowOff a2 S p
  r3 : RowOff a3 O p
theorem DkAt.off {x y : World} {a1 a2 a3 : Option Addr} {L S : List Fl} {O : List Dp} {p : Nat → Prop} (h : DkAt x a1 a2 a3 L S O) (hp : DkOff p a1 a2 a3 L S O) (s : x.heap.size ≤ y.heap.size) (e : ∀ g, p g → g < x.heap.size → y.heap[g]? = x.heap[g]?) : DkAt y a1 a2 a3 L S O :=
  ⟨h.r1.off hp.r1 s e, h.r2.off hp.r2 s e, h.r3.off hp.r3 s e⟩
theorem DkOff.of {a1 a2 a3 : Option Addr} {L S : List Fl} {O : List Dp} {m : Nat} {p : Nat → Prop} (h : ∀ ad, (a1 = some ad ∨ a2 = some ad ∨ a3 = some ad) → m ≤ ad.block) (hp : ∀ g, m ≤ g → p g) : DkOff p a1 a2 a3 L S O :=
  ⟨fun _ ad q => hp _ (h ad (.inl q)), fun _ ad q => hp _ (h ad (.inr (.inl q))), fun _ ad q => hp _ (h ad (.inr (.inr q)))⟩
theorem row_lt {A : Type} {sz : Nat} {f : A → List Value} {x : World} {a : Option Addr} {l : List A} (h : RowAt sz f x a l) : RowOff a l (fun g => g < x.heap.size) := fun h0 ad q => by
  obtain ⟨b, off, ea, hb, _⟩ := h 0 h0
  rw [ea] at q
  simp only [Option.some.injEq] at q
  rw [← q]; exact hb
theorem DkAt.lt {x : World} {a1 a2 a3 : Option Addr} {L S : List Fl} {O : List Dp} (h : DkAt x a1 a2 a3 L S O) : DkOff (fun g => g < x.heap.size) a1 a2 a3 L S O := ⟨row_lt h.r1, row_lt h.r2, row_lt h.r3⟩
theorem DkOff.and {a1 a2 a3 : Option Addr} {L S : List Fl} {O : List Dp} {p q r : Nat → Prop} (h : DkOff p a1 a2 a3 L S O) (k : DkOff q a1 a2 a3 L S O) (hr : ∀ g, p g → q g → r g) : DkOff r a1 a2 a3 L S O :=
  ⟨fun h0 ad e => hr _ (h.r1 h0 ad e) (k.r1 h0 ad e), fun h0 ad e => hr _ (h.r2 h0 ad e) (k.r2 h0 ad e), fun h0 ad e => hr _ (h.r3 h0 ad e) (k.r3 h0 ad e)⟩
/-- a disk behind its variable, away from certain blocks -/
def DkIn (D : Nat) (p : Nat → Prop) (x : World) : Prop := ∃ (a1 a2 a3 : Option Addr) (c1 c2 c3 : Nat) (L S : List Fl) (O : List Dp), Blk D [.slice a1 L.length c1, .slice a2 S.length c2, .slice a3 O.length c3] x ∧ DkAt x a1 a2 a3 L S O ∧ SmD L S O ∧ ((a1 = none → c1 = 0) ∧ (a2 = none → c2 = 0) ∧ (a3 = none → c3 = 0)) ∧ DkOff p a1 a2 a3 L S O
structure DoSt (w : World) (D P : Nat) (x : World) : Prop where
  bel : Below w.heap.size w x
  rd : Rd (w.heap.size + 2) x
  r1 : Blk w.heap.size [.slice none 0 0, .slice none 0 0, .slice none 0 0] x
  r2 : Blk (w.heap.size + 1) [.int .i64 0, .string ⟨#[]⟩, .string ⟨#[]⟩, .string ⟨#[]⟩] x
  ds : DkIn D (fun g => w.heap.size + 2 < g ∧ g ≠ D ∧ g ≠ P) x
  os : ∃ o : Dp, SmO o ∧ Blk P [.int .i64 o.kind, .string o.nm, .string o.tn, .string o.da] x
  lt : w.heap.size + 2 < D ∧ D < P
theorem DkIn.off {D : Nat} {p : Nat → Prop} {x y : World} (h : DkIn D p x) (s : x.heap.size ≤ y.heap.size) (e : ∀ g, p g → g < x.heap.size → y.heap[g]? = x.heap[g]?) (eD : y.heap[D]? = x.heap[D]?) : DkIn D p y := by
  obtain ⟨a1, a2, a3, c1, c2, c3, L, S, O, h1, h2, h3, h4, h5⟩ := h
  exact ⟨a1, a2, a3, c1, c2, c3, L, S, O, h1.same eD s, h2.off h5 s e, h3, h4, h5⟩
theorem DoSt.apart {w : World} {D P : Nat} {x y : World} (h : DoSt w D P x) (k : Apart (w.heap.size + 2) x y) (hr : Rd (w.heap.size + 2) y) : DoSt w D P y := by
  have l := h.lt
  obtain ⟨o, ho, hP⟩ := h.os
  have lD : D < x.heap.size := by obtain ⟨_, _, _, _, _, _, _, _, _, h1, _⟩ := h.ds; exact h1.lt
  exact ⟨below_apart h.bel (by omega) k, hr, h.r1.apart k (by omega), h.r2.apart k (by omega), h.ds.off k.size (fun g hg hx => k.block g hx (by omega)) (k.block D lD (by omega)), ⟨o, ho, hP.apart k (by omega)⟩, l⟩
theorem DoSt.below {w : World} {D P : Nat} {x y : World} (h : DoSt w D P x) (k : Below x.heap.size x y) : DoSt w D P y := h.apart (apart_of k) (h.rd.on k)
theorem DoSt.setop {w : World} {D P : Nat} {x : World} {o o' : Dp} {j : Nat} {v : Value} (h : DoSt w D P x) (hP : Blk P [.int .i64 o.kind, .string o.nm, .string o.tn, .string o.da] x) (ho : SmO o') (hj : j < 4) (hc : [Value.int .i64 o'.kind, .string o'.nm, .string o'.tn, .string o'.da] = [Value.int .i64 o.kind, .string o.nm, .string o.tn, .string o.da].set j v) : DoSt w D P (x.setCell ⟨P, j, none⟩ v) := by
  have l := h.lt
  have eb : ∀ g, g ≠ P → (x.setCell ⟨P, j, none⟩ v).heap[g]? = x.heap[g]? := fun g hg => set_block _ _ hg
  exact ⟨h.bel.setCell (p := ⟨P, j, none⟩) (by show w.heap.size ≤ P; omega) _, h.rd.set_hi (by omega) _, h.r1.other _ _ (by omega), h.r2.other _ _ (by omega), h.ds.off (by simp) (fun g hg _ => eb g hg.2.2) (eb D (by omega)), ⟨o', ho, by rw [hc]; exact hP.set j v (by simpa using hj)⟩, l⟩
theorem DoSt.putd {w : World} {D P : Nat} {x : World} {a1 a2 a3 : Option Addr} {c1 c2 c3 : Nat} {L S : List Fl} {O : List Dp} {u1 u2 u3 : Value} (h : DoSt w D P x) (hD : Blk D [u1, u2, u3] x) (h2 : DkAt x a1 a2 a3 L S O) (h3 : SmD L S O) (h4 : (a1 = none → c1 = 0) ∧ (a2 = none → c2 = 0) ∧ (a3 = none → c3 = 0)) (h5 : DkOff (fun g => w.heap.size + 2 < g ∧ g ≠ D ∧ g ≠ P) a1 a2 a3 L S O) : DoSt w D P (((x.setCell ⟨D, 0, none⟩ (.slice a1 L.length c1)).setCell ⟨D, 1, none⟩ (.slice a2 S.length c2)).setCell ⟨D, 2, none⟩ (.slice a3 O.length c3)) := by
  have l := h.lt
  obtain ⟨o, ho, hP⟩ := h.os
  have eb : ∀ g, g ≠ D → (((x.setCell ⟨D, 0, none⟩ (.slice a1 L.length c1)).setCell ⟨D, 1, none⟩ (.slice a2 S.length c2)).setCell ⟨D, 2, none⟩ (.slice a3 O.length c3)).heap[g]? = x.heap[g]? := fun g hg => by rw [set_block _ _ hg, set_block _ _ hg, set_block _ _ hg]
  exact ⟨((h.bel.setCell (p := ⟨D, 0, none⟩) (by show w.heap.size ≤ D; omega) _).setCell (p := ⟨D, 1, none⟩) (by show w.heap.size ≤ D; omega) _).setCell (p := ⟨D, 2, none⟩) (by show w.heap.size ≤ D; omega) _, ((h.rd.set_hi (by omega) _).set_hi (by omega) _).set_hi (by omega) _, ((h.r1.other _ _ (by omega)).other _ _ (by omega)).other _ _ (by omega), ((h.r2.other _ _ (by omega)).other _ _ (by omega)).other _ _ (by omega), ⟨a1, a2, a3, c1, c2, c3, L, S, O, ((hD.set 0 _ (by simp)).set 1 _ (by simp)).set 2 _ (by simp), h2.off h5 (by simp) (fun g hg _ => eb g hg.2.1), h3, h4, h5⟩, ⟨o, ho, ((hP.other _ _ (by omega)).other _ _ (by omega)).other _ _ (by omega)⟩, l⟩
/-- what was drawn -/
def DrawnDo (w : World) (e : Ending) (w' : World) : Prop := Below w.heap.size w w' ∧ ∃ (a1 a2 a3 : Option Addr) (c1 c2 c3 : Nat) (L S : List Fl) (O : List Dp) (o : Dp), e = .returned (.tuple #[.agg #[.slice a1 L.length c1, .slice a2 S.length c2, .slice a3 O.length c3], .agg #[.int .i64 o.kind, .string o.nm, .string o.tn, .string o.da]]) ∧ DkAt w' a1 a2 a3 L S O ∧ SmD L S O ∧ ((a1 = none → c1 = 0) ∧ (a2 = none → c2 = 0) ∧ (a3 = none → c3 = 0)) ∧ SmO o
theorem drawnDo_end {w x y : World} {D P : Nat} {a1 a2 a3 : Option Addr} {c1 c2 c3 : Nat} {L S : List Fl} {O : List Dp} {o : Dp} (h : DoSt w D P x) (h2 : DkAt x a1 a2 a3 L S O) (h3 : SmD L S O) (h4 : (a1 = none → c1 = 0) ∧ (a2 = none → c2 = 0) ∧ (a3 = none → c3 = 0)) (h5 : DkOff (fun g => w.heap.size + 2 < g ∧ g ≠ D ∧ g ≠ P) a1 a2 a3 L S O) (ho : SmO o) (hb : Below w.heap.size x y) (hy : ∀ g, w.heap.size + 2 < g → y.heap[g]? = x.heap[g]?) : DrawnDo w (.returned (.tuple #[.agg #[.slice a1 L.length c1, .slice a2 S.length c2, .slice a3 O.length c3], .agg #[.int .i64 o.kind, .string o.nm, .string o.tn, .string o.da]])) y :=
  ⟨h.bel.trans hb, a1, a2, a3, c1, c2, c3, L, S, O, o, rfl, h2.off h5 hb.size (fun g hg _ => hy g hg.1), h3, h4, ho⟩
theorem drew_heap (y : World) : y.drew.heap = y.heap := rfl
theorem drawnDo_fin {w x : World} {e : Ending} {s1 s2 s3 t0 t1 t2 t3 : Value} (h : ∀ y : World, Below w.heap.size x y → (∀ g, w.heap.size + 2 < g → y.heap[g]? = x.heap[g]?) → DrawnDo w e y) : DrawnDo w e (((((((x.setCell ⟨w.heap.size, 0, none⟩ (s1)).setCell ⟨w.heap.size, 1, none⟩ (s2)).setCell ⟨w.heap.size, 2, none⟩ (s3)).setCell ⟨(w.heap.size + 1), 0, none⟩ (t0)).setCell ⟨(w.heap.size + 1), 1, none⟩ (t1)).setCell ⟨(w.heap.size + 1), 2, none⟩ (t2)).setCell ⟨(w.heap.size + 1), 3, none⟩ (t3)).drew := by
  have b1 := (Below.refl w.heap.size x).setCell (p := ⟨w.heap.size, 0, none⟩) (Nat.le_refl _) s1
  have b2 := b1.setCell (p := ⟨w.heap.size, 1, none⟩) (Nat.le_refl _) s2
  have b3 := b2.setCell (p := ⟨w.heap.size, 2, none⟩) (Nat.le_refl _) s3
  have b4 := b3.setCell (p := ⟨w.heap.size + 1, 0, none⟩) (Nat.le_succ _) t0
  have b5 := b4.setCell (p := ⟨w.heap.size + 1, 1, none⟩) (Nat.le_succ _) t1
  have b6 := b5.setCell (p := ⟨w.heap.size + 1, 2, none⟩) (Nat.le_succ _) t2
  have hb := b6.setCell (p := ⟨w.heap.size + 1, 3, none⟩) (Nat.le_succ _) t3
  refine h _ hb.drew (fun g hg => ?_)
  rw [drew_heap, set_block _ _ (by omega), set_block _ _ (by omega), set_block _ _ (by omega), set_block _ _ (by omega), set_block _ _ (by omega), set_block _ _ (by omega), set_block _ _ (by omega)]
theorem x_sm : (⟨#[120]⟩ : ByteArray).size ≤ 1048600 := by show (1 : Nat) ≤ _; omega
theorem bop_sm : SmO ⟨1, ⟨#[98]⟩, ⟨#[]⟩, ⟨#[]⟩⟩ := ⟨by show (1 : Nat) ≤ _; omega, em_sm, em_sm⟩
theorem smD_do3 {live safe : List Fl} {ops : List Dp} {o : Dp} (h : SmD live safe ops) (ho : SmO o) : SmD (doLv live safe ops o) (doSv live safe ops o) (doOv live safe ops o) := by
  cases hB : diskB ⟨live, safe, ops⟩
  · obtain ⟨_, e2, e3, e4⟩ := do_no (o := o) hB
    rw [e2, e3, e4]
    exact ⟨⟨by simp, fun x hx => by simp at hx⟩, ⟨by simp, fun x hx => by simp at hx⟩, by simp, fun x hx => by simp at hx⟩
  · by_cases hc : doCv live safe ops o = 0
    · exact smD_of (do_disk hB hc)
    · obtain ⟨e1, e2, e3, e4⟩ := do_yes (o := o) hB
      rw [e1] at hc
      rw [e2, e3, e4, (act_no rfl hc).1, (act_no rfl hc).2]
      exact h
set_option maxHeartbeats 16000000 in
theorem drawDo_any (a : Option Addr) (len cap : Nat) (w : World) (h : IsCode w a len) : Calls Try.prog 12 #[.slice a len cap] w fun e w' => DrawnDo w e w' := by
  have H : Hid _ := hide h
  clear h
  obtain ⟨w0, hw0⟩ : ∃ w0, w0 = (w.alloc (.cells #[.slice none 0 0, .slice none 0 0, .slice none 0 0] 27)).alloc (.cells #[.int .i64 0, .string ⟨#[]⟩, .string ⟨#[]⟩, .string ⟨#[]⟩] 36) := ⟨_, rfl⟩
  have HW0 : Hid ((w.alloc (.cells #[.slice none 0 0, .slice none 0 0, .slice none 0 0] 27)).alloc (.cells #[.int .i64 0, .string ⟨#[]⟩, .string ⟨#[]⟩, .string ⟨#[]⟩] 36) = w0) := hide hw0.symm
  have B0 : Hid (Below w.heap.size w w0) := hide (by rw [hw0]; exact below_alloc (below_alloc (Below.refl _ _) _) _)
  have K1 : Hid (Blk w.heap.size [.slice none 0 0, .slice none 0 0, .slice none 0 0] w0) := hide (by rw [hw0]; exact Blk.new.alloc _)
  have K2 : Hid (Blk (w.heap.size + 1) [.int .i64 0, .string ⟨#[]⟩, .string ⟨#[]⟩, .string ⟨#[]⟩] w0) := hide (by rw [hw0]; simpa using Blk.new (w := w.alloc (.cells #[.slice none 0 0, .slice none 0 0, .slice none 0 0] 27)) (cur := [.int .i64 0, .string ⟨#[]⟩, .string ⟨#[]⟩, .string ⟨#[]⟩]) (T := 36))
  have S0 : Hid (w0.heap.size = w.heap.size + 2) := hide (by rw [hw0]; simp)
  clear hw0
  go_enter Try.func12, Try.ntmps12
  go_wp2_with fail
  rw [HW0.out]
  refine (l1Open_any a len cap w0).mono ?_
  rintro e w1 ⟨rfl, hw1⟩
  rw [S0.out]
  have R1 : Hid (Rd (w.heap.size + 2) w1) := hide (by rw [hw1, ← S0.out]; exact rd_open (H.out.below B0.out))
  have b1 : Below w0.heap.size w0 w1 := by rw [hw1]; exact below_alloc (Below.refl _ _) _
  have B1 : Hid _ := hide (below_trans B0.out b1)
  have K11 : Hid _ := hide (K1.out.below b1)
  have K21 : Hid _ := hide (K2.out.below b1)
  clear hw1 b1 K1 K2 B0 HW0 H
  go_wp2_with fail
  refine (disk_any (w.heap.size + 2) w1 R1.out).mono ?_
  rintro e w2 ⟨⟨a1, a2, a3, c1, c2, c3, L, S, O, rfl, hat, hsm, n1, n2, n3, hhi⟩, hr2, ha2⟩
  have lw2 := hr2.lt
  obtain ⟨w3, hw3⟩ : ∃ w3, w3 = w2.alloc (.cells #[.slice a1 L.length c1, .slice a2 S.length c2, .slice a3 O.length c3] 27) := ⟨_, rfl⟩
  have b23 : Below w2.heap.size w2 w3 := by rw [hw3]; exact below_alloc (Below.refl _ _) _
  have HW3 : Hid (w2.alloc (.cells #[.slice a1 L.length c1, .slice a2 S.length c2, .slice a3 O.length c3] 27) = w3) := hide hw3.symm
  have KD : Hid (Blk w2.heap.size [.slice a1 L.length c1, .slice a2 S.length c2, .slice a3 O.length c3] w3) := hide (by rw [hw3]; exact Blk.new)
  have R3 : Hid _ := hide (hr2.on b23)
  have B3 : Hid _ := hide (below_trans (below_apart B1.out (by omega) ha2) b23)
  have K13 : Hid _ := hide ((K11.out.apart ha2 (by omega)).below b23)
  have K23 : Hid _ := hide ((K21.out.apart ha2 (by omega)).below b23)
  have AT3 : Hid _ := hide (hat.below b23)
  have OF3 : Hid (DkOff (fun g => w.heap.size + 2 < g ∧ g < w2.heap.size) a1 a2 a3 L S O) := hide (hat.lt.and (DkOff.of (m := w.heap.size + 3) (fun ad q => hhi ad q) (p := fun g => w.heap.size + 2 < g) (fun g hg => by omega)) (fun g h1 h2 => ⟨h2, h1⟩))
  have SM : Hid _ := hide hsm
  have CP : Hid ((a1 = none → c1 = 0) ∧ (a2 = none → c2 = 0) ∧ (a3 = none → c3 = 0)) := hide ⟨n1, n2, n3⟩
  have LD : Hid (w.heap.size + 2 < w2.heap.size) := hide lw2
  clear hw3 b23 hat hsm n1 n2 n3 hhi hr2 ha2 K11 K21 B1 R1 lw2
  go_wp2_with fail
  rw [HW3.out]
  refine (dop_any (w.heap.size + 2) w3 R3.out).mono ?_
  rintro e w4 ⟨⟨o, ho, rfl⟩, hr4, ha4⟩
  unfold dpV
  obtain ⟨w5, hw5⟩ : ∃ w5, w5 = w4.alloc (.cells #[.int .i64 o.kind, .string o.nm, .string o.tn, .string o.da] 36) := ⟨_, rfl⟩
  have b45 : Below w4.heap.size w4 w5 := by rw [hw5]; exact below_alloc (Below.refl _ _) _
  have HW5 : Hid (w4.alloc (.cells #[.int .i64 o.kind, .string o.nm, .string o.tn, .string o.da] 36) = w5) := hide hw5.symm
  have ST : Hid (DoSt w w2.heap.size w4.heap.size w5) := hide (by
    have l1 := LD.out
    have l2 := KD.out.lt
    have l3 := ha4.size
    refine ⟨below_trans (below_apart B3.out (by omega) ha4) b45, hr4.on b45, (K13.out.apart ha4 (by omega)).below b45, (K23.out.apart ha4 (by omega)).below b45, ⟨a1, a2, a3, c1, c2, c3, L, S, O, (KD.out.apart ha4 (by omega)).below b45, ?_, SM.out, CP.out, OF3.out.and OF3.out (fun g h1 _ => ⟨h1.1, by omega, by omega⟩)⟩, ⟨o, ho, by rw [hw5]; exact Blk.new⟩, by omega, by omega⟩
    exact (AT3.out.off OF3.out ha4.size (fun g hg hx => ha4.block g hx (by omega))).below b45)
  clear hw5 b45 hr4 ha4 KD R3 B3 K13 K23 AT3 OF3 SM CP LD HW3 ho
  go_upto_region 4 with fail
  rw [HW5.out]
  clear HW5
  generalize w2.heap.size = D at *
  generalize w4.heap.size = P at *
  go_wp2_with fail
  refine (below_any (w.heap.size + 2) 20 w5 ST.out.rd (by omega)).mono ?_
  rintro e w6 ⟨⟨r, r0, r2, r1, rfl⟩, hr6, ha6⟩
  have ST6 : Hid _ := hide (ST.out.apart ha6 hr6)
  clear hr6 ha6 ST r2
  by_cases c0 : r = 0
  · subst c0
    go_wp2_with fail
    refine (off_any (w.heap.size + 2) 1 3 w6 ST6.out.rd (by omega) (by omega) (by omega)).mono ?_
    rintro e w7 ⟨⟨z, z0, z1, rfl⟩, hr7, ha7⟩
    have ST7 : Hid _ := hide (ST6.out.apart ha7 hr7)
    clear hr7 ha7 ST6
    obtain ⟨o9, ho9, hP9⟩ := ST7.out.os
    have p0 := hP9.c 0 _ rfl
    have f0 := hP9.f 0
    have HST : Hid (DoSt w D P (w7.setCell ⟨P, 0, none⟩ (.int .i64 z))) := hide (ST7.out.setop hP9 (o' := ⟨z, o9.nm, o9.tn, o9.da⟩) ⟨ho9.1, ho9.2.1, ho9.2.2⟩ (by decide) rfl)
    clear ho9 hP9
    go_upto_region 18 with fail
    obtain ⟨w9, hw9⟩ : ∃ w9, w9 = w7.setCell ⟨P, 0, none⟩ (.int .i64 z) := ⟨_, rfl⟩
    rw [← hw9] at HST ⊢
    clear hw9 p0 f0
    obtain ⟨a1, a2, a3, c1, c2, c3, L, S, O, hD9, hat9, hsm9, hcp9, hof9⟩ := HST.out.ds
    obtain ⟨o, ho9, hP9⟩ := HST.out.os
    have HF : Hid (∀ y : World, Below w.heap.size w9 y → (∀ g, w.heap.size + 2 < g → y.heap[g]? = w9.heap[g]?) → DrawnDo w (.returned (.tuple #[.agg #[.slice a1 L.length c1, .slice a2 S.length c2, .slice a3 O.length c3], .agg #[.int .i64 o.kind, .string o.nm, .string o.tn, .string o.da]])) y) := hide (fun y hb hy => drawnDo_end HST.out hat9 hsm9 hcp9 hof9 ho9 hb hy)
    have HK1 : Hid _ := hide HST.out.r1
    have HK2 : Hid _ := hide HST.out.r2
    have y0 := hD9.c 0 _ rfl
    have y1 := hD9.c 1 _ rfl
    have y2 := hD9.c 2 _ rfl
    have p0 := hP9.c 0 _ rfl
    have p1 := hP9.c 1 _ rfl
    have p2 := hP9.c 2 _ rfl
    have p3 := hP9.c 3 _ rfl
    have r0 := HK1.out.c 0 _ rfl
    have r1 := HK1.out.c 1 _ rfl
    have r2 := HK1.out.c 2 _ rfl
    have f0 := HK1.out.f 0
    have f1 := HK1.out.f 1
    have f2 := HK1.out.f 2
    have q0 := HK2.out.c 0 _ rfl
    have q1 := HK2.out.c 1 _ rfl
    have q2 := HK2.out.c 2 _ rfl
    have q3 := HK2.out.c 3 _ rfl
    have g0 := HK2.out.f 0
    have g1 := HK2.out.f 1
    have g2 := HK2.out.f 2
    have g3 := HK2.out.f 3
    have HLT : Hid _ := hide HST.out.lt
    clear hD9 hP9 hat9 hsm9 hcp9 hof9 ho9
    have hl1 := HLT.out.1
    have hl2 := HLT.out.2
    have HE : Hid (DrawnDo w (.returned (.tuple #[.agg #[.slice a1 L.length c1, .slice a2 S.length c2, .slice a3 O.length c3], .agg #[.int .i64 o.kind, .string o.nm, .string o.tn, .string o.da]])) (((((((w9.setCell ⟨w.heap.size, 0, none⟩ (.slice a1 L.length c1)).setCell ⟨w.heap.size, 1, none⟩ (.slice a2 S.length c2)).setCell ⟨w.heap.size, 2, none⟩ (.slice a3 O.length c3)).setCell ⟨(w.heap.size + 1), 0, none⟩ (.int .i64 o.kind)).setCell ⟨(w.heap.size + 1), 1, none⟩ (.string o.nm)).setCell ⟨(w.heap.size + 1), 2, none⟩ (.string o.tn)).setCell ⟨(w.heap.size + 1), 3, none⟩ (.string o.da)).drew) := hide (drawnDo_fin HF.out)
    have HS : Hid (∃ Y, (((((((w9.setCell ⟨w.heap.size, 0, none⟩ (.slice a1 L.length c1)).setCell ⟨w.heap.size, 1, none⟩ (.slice a2 S.length c2)).setCell ⟨w.heap.size, 2, none⟩ (.slice a3 O.length c3)).setCell ⟨(w.heap.size + 1), 0, none⟩ (.int .i64 o.kind)).setCell ⟨(w.heap.size + 1), 1, none⟩ (.string o.nm)).setCell ⟨(w.heap.size + 1), 2, none⟩ (.string o.tn)).setCell ⟨(w.heap.size + 1), 3, none⟩ (.string o.da)) = Y ∧ Blk w.heap.size [.slice a1 L.length c1, .slice a2 S.length c2, .slice a3 O.length c3] Y ∧ Blk (w.heap.size + 1) [.int .i64 o.kind, .string o.nm, .string o.tn, .string o.da] Y) := hide ⟨_, rfl, ((((((HK1.out.set 0 _ (by simp)).set 1 _ (by simp)).set 2 _ (by simp)).other 0 _ (by omega)).other 1 _ (by omega)).other 2 _ (by omega)).other 3 _ (by omega), ((((((HK2.out.other 0 _ (by omega)).other 1 _ (by omega)).other 2 _ (by omega)).set 0 _ (by simp)).set 1 _ (by simp)).set 2 _ (by simp)).set 3 _ (by simp)⟩
    go_wp2_with fail
    go_region
    all_goals
      go_wp2
      obtain ⟨Y, hY, kY, kZ⟩ := HS.out
      rw [hY] at HE ⊢
      have z0 := kY.c 0 _ rfl
      have z1 := kY.c 1 _ rfl
      have z2 := kY.c 2 _ rfl
      have t0 := kZ.c 0 _ rfl
      have t1 := kZ.c 1 _ rfl
      have t2 := kZ.c 2 _ rfl
      have t3 := kZ.c 3 _ rfl
      exact bodyPost_ret (v := .tuple #[.agg #[.slice a1 L.length c1, .slice a2 S.length c2, .slice a3 O.length c3], .agg #[.int .i64 o.kind, .string o.nm, .string o.tn, .string o.da]]) (by simp [results, Try.results12, go_sem, z0, z1, z2, t0, t1, t2, t3]) rfl HE.out
  · have c0' : (r == 0) = false := by simpa using c0
    clear c0
    by_cases c1 : r = 1
    · subst c1
      obtain ⟨o9, ho9, hP9⟩ := ST6.out.os
      have p0 := hP9.c 1 _ rfl
      have f0 := hP9.f 1
      have HST : Hid (DoSt w D P (w6.setCell ⟨P, 1, none⟩ (.string ⟨#[]⟩))) := hide (ST6.out.setop hP9 (o' := ⟨o9.kind, ⟨#[]⟩, o9.tn, o9.da⟩) ⟨em_sm, ho9.2.1, ho9.2.2⟩ (by decide) rfl)
      clear ho9 hP9
      go_upto_region 18 with fail
      obtain ⟨w9, hw9⟩ : ∃ w9, w9 = w6.setCell ⟨P, 1, none⟩ (.string ⟨#[]⟩) := ⟨_, rfl⟩
      rw [← hw9] at HST ⊢
      clear hw9 p0 f0
      obtain ⟨a1, a2, a3, c1, c2, c3, L, S, O, hD9, hat9, hsm9, hcp9, hof9⟩ := HST.out.ds
      obtain ⟨o, ho9, hP9⟩ := HST.out.os
      have HF : Hid (∀ y : World, Below w.heap.size w9 y → (∀ g, w.heap.size + 2 < g → y.heap[g]? = w9.heap[g]?) → DrawnDo w (.returned (.tuple #[.agg #[.slice a1 L.length c1, .slice a2 S.length c2, .slice a3 O.length c3], .agg #[.int .i64 o.kind, .string o.nm, .string o.tn, .string o.da]])) y) := hide (fun y hb hy => drawnDo_end HST.out hat9 hsm9 hcp9 hof9 ho9 hb hy)
      have HK1 : Hid _ := hide HST.out.r1
      have HK2 : Hid _ := hide HST.out.r2
      have y0 := hD9.c 0 _ rfl
      have y1 := hD9.c 1 _ rfl
      have y2 := hD9.c 2 _ rfl
      have p0 := hP9.c 0 _ rfl
      have p1 := hP9.c 1 _ rfl
      have p2 := hP9.c 2 _ rfl
      have p3 := hP9.c 3 _ rfl
      have r0 := HK1.out.c 0 _ rfl
      have r1 := HK1.out.c 1 _ rfl
      have r2 := HK1.out.c 2 _ rfl
      have f0 := HK1.out.f 0
      have f1 := HK1.out.f 1
      have f2 := HK1.out.f 2
      have q0 := HK2.out.c 0 _ rfl
      have q1 := HK2.out.c 1 _ rfl
      have q2 := HK2.out.c 2 _ rfl
      have q3 := HK2.out.c 3 _ rfl
      have g0 := HK2.out.f 0
      have g1 := HK2.out.f 1
      have g2 := HK2.out.f 2
      have g3 := HK2.out.f 3
      have HLT : Hid _ := hide HST.out.lt
      clear hD9 hP9 hat9 hsm9 hcp9 hof9 ho9
      have hl1 := HLT.out.1
      have hl2 := HLT.out.2
      have HE : Hid (DrawnDo w (.returned (.tuple #[.agg #[.slice a1 L.length c1, .slice a2 S.length c2, .slice a3 O.length c3], .agg #[.int .i64 o.kind, .string o.nm, .string o.tn, .string o.da]])) (((((((w9.setCell ⟨w.heap.size, 0, none⟩ (.slice a1 L.length c1)).setCell ⟨w.heap.size, 1, none⟩ (.slice a2 S.length c2)).setCell ⟨w.heap.size, 2, none⟩ (.slice a3 O.length c3)).setCell ⟨(w.heap.size + 1), 0, none⟩ (.int .i64 o.kind)).setCell ⟨(w.heap.size + 1), 1, none⟩ (.string o.nm)).setCell ⟨(w.heap.size + 1), 2, none⟩ (.string o.tn)).setCell ⟨(w.heap.size + 1), 3, none⟩ (.string o.da)).drew) := hide (drawnDo_fin HF.out)
      have HS : Hid (∃ Y, (((((((w9.setCell ⟨w.heap.size, 0, none⟩ (.slice a1 L.length c1)).setCell ⟨w.heap.size, 1, none⟩ (.slice a2 S.length c2)).setCell ⟨w.heap.size, 2, none⟩ (.slice a3 O.length c3)).setCell ⟨(w.heap.size + 1), 0, none⟩ (.int .i64 o.kind)).setCell ⟨(w.heap.size + 1), 1, none⟩ (.string o.nm)).setCell ⟨(w.heap.size + 1), 2, none⟩ (.string o.tn)).setCell ⟨(w.heap.size + 1), 3, none⟩ (.string o.da)) = Y ∧ Blk w.heap.size [.slice a1 L.length c1, .slice a2 S.length c2, .slice a3 O.length c3] Y ∧ Blk (w.heap.size + 1) [.int .i64 o.kind, .string o.nm, .string o.tn, .string o.da] Y) := hide ⟨_, rfl, ((((((HK1.out.set 0 _ (by simp)).set 1 _ (by simp)).set 2 _ (by simp)).other 0 _ (by omega)).other 1 _ (by omega)).other 2 _ (by omega)).other 3 _ (by omega), ((((((HK2.out.other 0 _ (by omega)).other 1 _ (by omega)).other 2 _ (by omega)).set 0 _ (by simp)).set 1 _ (by simp)).set 2 _ (by simp)).set 3 _ (by simp)⟩
      go_wp2_with fail
      go_region
      all_goals
        go_wp2
        obtain ⟨Y, hY, kY, kZ⟩ := HS.out
        rw [hY] at HE ⊢
        have z0 := kY.c 0 _ rfl
        have z1 := kY.c 1 _ rfl
        have z2 := kY.c 2 _ rfl
        have t0 := kZ.c 0 _ rfl
        have t1 := kZ.c 1 _ rfl
        have t2 := kZ.c 2 _ rfl
        have t3 := kZ.c 3 _ rfl
        exact bodyPost_ret (v := .tuple #[.agg #[.slice a1 L.length c1, .slice a2 S.length c2, .slice a3 O.length c3], .agg #[.int .i64 o.kind, .string o.nm, .string o.tn, .string o.da]]) (by simp [results, Try.results12, go_sem, z0, z1, z2, t0, t1, t2, t3]) rfl HE.out
    · have c1' : (r == 1) = false := by simpa using c1
      clear c1
      by_cases c2 : r = 2
      · subst c2
        obtain ⟨o9, ho9, hP9⟩ := ST6.out.os
        have p0 := hP9.c 2 _ rfl
        have f0 := hP9.f 2
        have HST : Hid (DoSt w D P (w6.setCell ⟨P, 2, none⟩ (.string ⟨#[120]⟩))) := hide (ST6.out.setop hP9 (o' := ⟨o9.kind, o9.nm, ⟨#[120]⟩, o9.da⟩) ⟨ho9.1, x_sm, ho9.2.2⟩ (by decide) rfl)
        clear ho9 hP9
        go_upto_region 18 with fail
        obtain ⟨w9, hw9⟩ : ∃ w9, w9 = w6.setCell ⟨P, 2, none⟩ (.string ⟨#[120]⟩) := ⟨_, rfl⟩
        rw [← hw9] at HST ⊢
        clear hw9 p0 f0
        obtain ⟨a1, a2, a3, c1, c2, c3, L, S, O, hD9, hat9, hsm9, hcp9, hof9⟩ := HST.out.ds
        obtain ⟨o, ho9, hP9⟩ := HST.out.os
        have HF : Hid (∀ y : World, Below w.heap.size w9 y → (∀ g, w.heap.size + 2 < g → y.heap[g]? = w9.heap[g]?) → DrawnDo w (.returned (.tuple #[.agg #[.slice a1 L.length c1, .slice a2 S.length c2, .slice a3 O.length c3], .agg #[.int .i64 o.kind, .string o.nm, .string o.tn, .string o.da]])) y) := hide (fun y hb hy => drawnDo_end HST.out hat9 hsm9 hcp9 hof9 ho9 hb hy)
        have HK1 : Hid _ := hide HST.out.r1
        have HK2 : Hid _ := hide HST.out.r2
        have y0 := hD9.c 0 _ rfl
        have y1 := hD9.c 1 _ rfl
        have y2 := hD9.c 2 _ rfl
        have p0 := hP9.c 0 _ rfl
        have p1 := hP9.c 1 _ rfl
        have p2 := hP9.c 2 _ rfl
        have p3 := hP9.c 3 _ rfl
        have r0 := HK1.out.c 0 _ rfl
        have r1 := HK1.out.c 1 _ rfl
        have r2 := HK1.out.c 2 _ rfl
        have f0 := HK1.out.f 0
        have f1 := HK1.out.f 1
        have f2 := HK1.out.f 2
        have q0 := HK2.out.c 0 _ rfl
        have q1 := HK2.out.c 1 _ rfl
        have q2 := HK2.out.c 2 _ rfl
        have q3 := HK2.out.c 3 _ rfl
        have g0 := HK2.out.f 0
        have g1 := HK2.out.f 1
        have g2 := HK2.out.f 2
        have g3 := HK2.out.f 3
        have HLT : Hid _ := hide HST.out.lt
        clear hD9 hP9 hat9 hsm9 hcp9 hof9 ho9
        have hl1 := HLT.out.1
        have hl2 := HLT.out.2
        have HE : Hid (DrawnDo w (.returned (.tuple #[.agg #[.slice a1 L.length c1, .slice a2 S.length c2, .slice a3 O.length c3], .agg #[.int .i64 o.kind, .string o.nm, .string o.tn, .string o.da]])) (((((((w9.setCell ⟨w.heap.size, 0, none⟩ (.slice a1 L.length c1)).setCell ⟨w.heap.size, 1, none⟩ (.slice a2 S.length c2)).setCell ⟨w.heap.size, 2, none⟩ (.slice a3 O.length c3)).setCell ⟨(w.heap.size + 1), 0, none⟩ (.int .i64 o.kind)).setCell ⟨(w.heap.size + 1), 1, none⟩ (.string o.nm)).setCell ⟨(w.heap.size + 1), 2, none⟩ (.string o.tn)).setCell ⟨(w.heap.size + 1), 3, none⟩ (.string o.da)).drew) := hide (drawnDo_fin HF.out)
        have HS : Hid (∃ Y, (((((((w9.setCell ⟨w.heap.size, 0, none⟩ (.slice a1 L.length c1)).setCell ⟨w.heap.size, 1, none⟩ (.slice a2 S.length c2)).setCell ⟨w.heap.size, 2, none⟩ (.slice a3 O.length c3)).setCell ⟨(w.heap.size + 1), 0, none⟩ (.int .i64 o.kind)).setCell ⟨(w.heap.size + 1), 1, none⟩ (.string o.nm)).setCell ⟨(w.heap.size + 1), 2, none⟩ (.string o.tn)).setCell ⟨(w.heap.size + 1), 3, none⟩ (.string o.da)) = Y ∧ Blk w.heap.size [.slice a1 L.length c1, .slice a2 S.length c2, .slice a3 O.length c3] Y ∧ Blk (w.heap.size + 1) [.int .i64 o.kind, .string o.nm, .string o.tn, .string o.da] Y) := hide ⟨_, rfl, ((((((HK1.out.set 0 _ (by simp)).set 1 _ (by simp)).set 2 _ (by simp)).other 0 _ (by omega)).other 1 _ (by omega)).other 2 _ (by omega)).other 3 _ (by omega), ((((((HK2.out.other 0 _ (by omega)).other 1 _ (by omega)).other 2 _ (by omega)).set 0 _ (by simp)).set 1 _ (by simp)).set 2 _ (by simp)).set 3 _ (by simp)⟩
        go_wp2_with fail
        go_region
        all_goals
          go_wp2
          obtain ⟨Y, hY, kY, kZ⟩ := HS.out
          rw [hY] at HE ⊢
          have z0 := kY.c 0 _ rfl
          have z1 := kY.c 1 _ rfl
          have z2 := kY.c 2 _ rfl
          have t0 := kZ.c 0 _ rfl
          have t1 := kZ.c 1 _ rfl
          have t2 := kZ.c 2 _ rfl
          have t3 := kZ.c 3 _ rfl
          exact bodyPost_ret (v := .tuple #[.agg #[.slice a1 L.length c1, .slice a2 S.length c2, .slice a3 O.length c3], .agg #[.int .i64 o.kind, .string o.nm, .string o.tn, .string o.da]]) (by simp [results, Try.results12, go_sem, z0, z1, z2, t0, t1, t2, t3]) rfl HE.out
      · have c2' : (r == 2) = false := by simpa using c2
        clear c2
        by_cases c3 : r = 3
        · subst c3
          go_wp2
          go_loopw [7] (fun i wr => ∃ k : Nat, k ≤ 200 ∧ i = .int .i64 (k : Int) ∧ Hid (DoSt w D P wr)) (fun i wr => 200 - (intOf i).toNat)
          case atStart => exact ⟨0, by omega, rfl, ST6⟩
          case round =>
            clear ST6
            obtain ⟨k, hk, rfl, STr⟩ := hrel
            by_cases hlt : k < 200
            · have hlt' : (k : Int) < 200 := by omega
              obtain ⟨a1, a2, a3, c1, c2, c3, L, S, O, hD, hat, hsm, hcp, hof⟩ := STr.out.ds
              have XD : Hid (wr.drew.cell? ⟨D, 2, none⟩ = some (.slice a3 O.length c3) ∧ Hid (DoSt w D P wr.drew)) := hide ⟨hD.c 2 _ rfl, hide (STr.out.below (Below.refl _ _).drew)⟩
              have lD := STr.out.lt
              have XL : Hid (D < wr.heap.size) := hide hD.lt
              clear hD hat hsm hcp hof
              go_wp2_with fail
              go_region_held3 (fun x => x.cell? ⟨D, 2, none⟩ = some (.slice a3 O.length c3) ∧ Hid (DoSt w D P x))
                (first | with_reducible exact XD.out | with_reducible assumption)
                (first | (go_at_call 32; refine (below_any (w.heap.size + 2) 2 _ XD.out.2.out.rd (by omega)).mono ?_; rintro e w7 ⟨⟨q, q0, q2, q1, rfl⟩, hr7, ha7⟩; have XS : w7.cell? ⟨D, 2, none⟩ = some (.slice a3 O.length c3) ∧ Hid (DoSt w D P w7) := ⟨by rw [ha7.cell (by show D < wr.heap.size; exact XL.out) (by omega)]; exact XD.out.1, hide (XD.out.2.out.apart ha7 hr7)⟩))
              have ST7 : Hid _ := XS.2
              clear XS XD hr7 ha7 STr
              rename _ ∧ Hid (DoSt w D P w7) => hHd
              clear hHd
              have hq2 : q < 2 := by omega
              clear q2
              by_cases hful : (O.length : Int) < IntKind.i64.wrap (199 + q)
              · obtain ⟨a1, a2, a3, c1, c2, c3, L, S, O, hD, hat, hsm, hcp, hof⟩ := ST7.out.ds
                have HDD : Hid _ := hide (And.intro hD (And.intro hat (And.intro hsm (And.intro hcp hof))))
                have y0 := hD.c 0 _ rfl
                have y1 := hD.c 1 _ rfl
                have y2 := hD.c 2 _ rfl
                clear hD hat hsm hcp hof
                have hall : ∃ (L8 S8 : List Fl) (O8 : List Dp) (cv : Int), SmD L8 S8 O8 ∧ Calls Try.prog 14 #[.agg #[.slice a1 L.length c1, .slice a2 S.length c2, .slice a3 O.length c3], .agg #[.int .i64 1, .string ⟨#[98]⟩, .string ⟨#[]⟩, .string ⟨#[]⟩]] w7 fun e w' => DiskC cv L8 S8 O8 w7 e w' := ⟨_, _, _, _, smD_do3 (o := ⟨1, ⟨#[98]⟩, ⟨#[]⟩, ⟨#[]⟩⟩) HDD.out.2.2.1 bop_sm, specDo_any a1 a2 a3 c1 c2 c3 L S O ⟨1, ⟨#[98]⟩, ⟨#[]⟩, ⟨#[]⟩⟩ w7 HDD.out.2.2.1 bop_sm HDD.out.2.2.2.1.1 HDD.out.2.2.2.1.2.1 HDD.out.2.2.2.1.2.2 HDD.out.2.1⟩
                obtain ⟨L8, S8, O8, cv, hsm8, hdo⟩ := hall
                have SM8 : Hid _ := hide hsm8
                have HDO : Hid _ := hide hdo
                clear hsm8 hdo
                go_wp2_with fail
                refine HDO.out.mono ?_
                rintro e x8 ⟨hb8, v1, v2, v3, rfl, hr8⟩
                obtain ⟨b1, b2, b3, e1, e2, e3, rfl, rfl, rfl, hat8, n1, n2, n3, hhi8⟩ := rowsD_at hr8
                obtain ⟨y8, hy8⟩ : ∃ y8, y8 = x8.alloc (.cells #[.slice b1 L8.length e1, .slice b2 S8.length e2, .slice b3 O8.length e3] 27) := ⟨_, rfl⟩
                have HY8 : Hid (x8.alloc (.cells #[.slice b1 L8.length e1, .slice b2 S8.length e2, .slice b3 O8.length e3] 27) = y8) := hide hy8.symm
                have bxy : Below x8.heap.size x8 y8 := by rw [hy8]; exact below_alloc (Below.refl _ _) _
                have KN : Hid (Blk x8.heap.size [.slice b1 L8.length e1, .slice b2 S8.length e2, .slice b3 O8.length e3] y8) := hide (by rw [hy8]; exact Blk.new)
                have b78 := below_trans hb8 bxy
                have ST8 : Hid _ := hide (ST7.out.below b78)
                have KD8 : Hid _ := hide (HDD.out.1.below b78)
                have lP : P < w7.heap.size := by obtain ⟨_, _, hP9⟩ := ST7.out.os; exact hP9.lt
                have lt7 := ST7.out.lt
                have HPD : Hid (DoSt w D P (((y8.setCell ⟨D, 0, none⟩ (.slice b1 L8.length e1)).setCell ⟨D, 1, none⟩ (.slice b2 S8.length e2)).setCell ⟨D, 2, none⟩ (.slice b3 O8.length e3))) := hide (ST8.out.putd KD8.out (hat8.below bxy) SM8.out ⟨n1, n2, n3⟩ (DkOff.of hhi8 (fun g hg => ⟨by omega, by omega, by omega⟩)))
                clear hy8 bxy b78 hb8 hr8 hat8 n1 n2 n3 hhi8 ST7 y0 y1 y2 HDD lP lt7
                go_upto_region 16 with fail
                rw [HY8.out]
                by_cases hc0 : cv = 0
                · subst hc0
                  have x0 := KN.out.c 0 _ rfl
                  have x1 := KN.out.c 1 _ rfl
                  have x2 := KN.out.c 2 _ rfl
                  have y0 := KD8.out.c 0 _ rfl
                  have y1 := KD8.out.c 1 _ rfl
                  have y2 := KD8.out.c 2 _ rfl
                  have f0 := KD8.out.f 0
                  have f1 := KD8.out.f 1
                  have f2 := KD8.out.f 2
                  go_wp2
                  exact ⟨⟨k + 1, by omega, by go_num, HPD⟩, by simp [intOf]; omega⟩
                · have hc0' : (cv == 0) = false := by simpa using hc0
                  clear hc0
                  go_wp2
                  exact ⟨⟨k + 1, by omega, by go_num, ST8⟩, by simp [intOf]; omega⟩
              · clear lD
                go_upto_region 18 with fail
                obtain ⟨a1, a2, a3, c1, c2, c3, L, S, O, hD9, hat9, hsm9, hcp9, hof9⟩ := ST7.out.ds
                obtain ⟨o, ho9, hP9⟩ := ST7.out.os
                have HF : Hid (∀ y : World, Below w.heap.size w7 y → (∀ g, w.heap.size + 2 < g → y.heap[g]? = w7.heap[g]?) → DrawnDo w (.returned (.tuple #[.agg #[.slice a1 L.length c1, .slice a2 S.length c2, .slice a3 O.length c3], .agg #[.int .i64 o.kind, .string o.nm, .string o.tn, .string o.da]])) y) := hide (fun y hb hy => drawnDo_end ST7.out hat9 hsm9 hcp9 hof9 ho9 hb hy)
                have HK1 : Hid _ := hide ST7.out.r1
                have HK2 : Hid _ := hide ST7.out.r2
                have y0 := hD9.c 0 _ rfl
                have y1 := hD9.c 1 _ rfl
                have y2 := hD9.c 2 _ rfl
                have p0 := hP9.c 0 _ rfl
                have p1 := hP9.c 1 _ rfl
                have p2 := hP9.c 2 _ rfl
                have p3 := hP9.c 3 _ rfl
                have r0 := HK1.out.c 0 _ rfl
                have r1 := HK1.out.c 1 _ rfl
                have r2 := HK1.out.c 2 _ rfl
                have f0 := HK1.out.f 0
                have f1 := HK1.out.f 1
                have f2 := HK1.out.f 2
                have q0 := HK2.out.c 0 _ rfl
                have q1 := HK2.out.c 1 _ rfl
                have q2 := HK2.out.c 2 _ rfl
                have q3 := HK2.out.c 3 _ rfl
                have g0 := HK2.out.f 0
                have g1 := HK2.out.f 1
                have g2 := HK2.out.f 2
                have g3 := HK2.out.f 3
                have HLT : Hid _ := hide ST7.out.lt
                clear hD9 hP9 hat9 hsm9 hcp9 hof9 ho9
                have hl1 := HLT.out.1
                have hl2 := HLT.out.2
                have HE : Hid (DrawnDo w (.returned (.tuple #[.agg #[.slice a1 L.length c1, .slice a2 S.length c2, .slice a3 O.length c3], .agg #[.int .i64 o.kind, .string o.nm, .string o.tn, .string o.da]])) (((((((w7.setCell ⟨w.heap.size, 0, none⟩ (.slice a1 L.length c1)).setCell ⟨w.heap.size, 1, none⟩ (.slice a2 S.length c2)).setCell ⟨w.heap.size, 2, none⟩ (.slice a3 O.length c3)).setCell ⟨(w.heap.size + 1), 0, none⟩ (.int .i64 o.kind)).setCell ⟨(w.heap.size + 1), 1, none⟩ (.string o.nm)).setCell ⟨(w.heap.size + 1), 2, none⟩ (.string o.tn)).setCell ⟨(w.heap.size + 1), 3, none⟩ (.string o.da)).drew) := hide (drawnDo_fin HF.out)
                have HS : Hid (∃ Y, (((((((w7.setCell ⟨w.heap.size, 0, none⟩ (.slice a1 L.length c1)).setCell ⟨w.heap.size, 1, none⟩ (.slice a2 S.length c2)).setCell ⟨w.heap.size, 2, none⟩ (.slice a3 O.length c3)).setCell ⟨(w.heap.size + 1), 0, none⟩ (.int .i64 o.kind)).setCell ⟨(w.heap.size + 1), 1, none⟩ (.string o.nm)).setCell ⟨(w.heap.size + 1), 2, none⟩ (.string o.tn)).setCell ⟨(w.heap.size + 1), 3, none⟩ (.string o.da)) = Y ∧ Blk w.heap.size [.slice a1 L.length c1, .slice a2 S.length c2, .slice a3 O.length c3] Y ∧ Blk (w.heap.size + 1) [.int .i64 o.kind, .string o.nm, .string o.tn, .string o.da] Y) := hide ⟨_, rfl, ((((((HK1.out.set 0 _ (by simp)).set 1 _ (by simp)).set 2 _ (by simp)).other 0 _ (by omega)).other 1 _ (by omega)).other 2 _ (by omega)).other 3 _ (by omega), ((((((HK2.out.other 0 _ (by omega)).other 1 _ (by omega)).other 2 _ (by omega)).set 0 _ (by simp)).set 1 _ (by simp)).set 2 _ (by simp)).set 3 _ (by simp)⟩
                go_wp2_with fail
                go_region
                all_goals
                  go_wp2
                  obtain ⟨Y, hY, kY, kZ⟩ := HS.out
                  rw [hY] at HE ⊢
                  have z0 := kY.c 0 _ rfl
                  have z1 := kY.c 1 _ rfl
                  have z2 := kY.c 2 _ rfl
                  have t0 := kZ.c 0 _ rfl
                  have t1 := kZ.c 1 _ rfl
                  have t2 := kZ.c 2 _ rfl
                  have t3 := kZ.c 3 _ rfl
                  exact bodyPost_ret (v := .tuple #[.agg #[.slice a1 L.length c1, .slice a2 S.length c2, .slice a3 O.length c3], .agg #[.int .i64 o.kind, .string o.nm, .string o.tn, .string o.da]]) (by simp [results, Try.results12, go_sem, z0, z1, z2, t0, t1, t2, t3]) rfl HE.out
            · have hlt' : ¬ (k : Int) < 200 := by omega
              have hltd : decide (k < 200) = false := by simpa using hlt
              have hltd2 : decide ((k : Int) < 200) = false := by simpa using hlt'
              obtain ⟨a1, a2, a3, c1, c2, c3, L, S, O, hD, hat, hsm, hcp, hof⟩ := STr.out.ds
              have y2 := hD.c 2 _ rfl
              clear hD hat hsm hcp hof hlt
              go_wp2_with fail
              go_quiet (fail)
              obtain ⟨w9, hw9⟩ : ∃ w9, w9 = wr.drewN nq := ⟨_, rfl⟩
              have ST9 : Hid (DoSt w D P w9) := hide (by rw [hw9]; exact STr.out.below (drewN_below wr nq))
              rw [← hw9]
              clear hw9 y2 STr
              go_upto_region 18 with fail
              obtain ⟨a1, a2, a3, c1, c2, c3, L, S, O, hD9, hat9, hsm9, hcp9, hof9⟩ := ST9.out.ds
              obtain ⟨o, ho9, hP9⟩ := ST9.out.os
              have HF : Hid (∀ y : World, Below w.heap.size w9 y → (∀ g, w.heap.size + 2 < g → y.heap[g]? = w9.heap[g]?) → DrawnDo w (.returned (.tuple #[.agg #[.slice a1 L.length c1, .slice a2 S.length c2, .slice a3 O.length c3], .agg #[.int .i64 o.kind, .string o.nm, .string o.tn, .string o.da]])) y) := hide (fun y hb hy => drawnDo_end ST9.out hat9 hsm9 hcp9 hof9 ho9 hb hy)
              have HK1 : Hid _ := hide ST9.out.r1
              have HK2 : Hid _ := hide ST9.out.r2
              have y0 := hD9.c 0 _ rfl
              have y1 := hD9.c 1 _ rfl
              have y2 := hD9.c 2 _ rfl
              have p0 := hP9.c 0 _ rfl
              have p1 := hP9.c 1 _ rfl
              have p2 := hP9.c 2 _ rfl
              have p3 := hP9.c 3 _ rfl
              have r0 := HK1.out.c 0 _ rfl
              have r1 := HK1.out.c 1 _ rfl
              have r2 := HK1.out.c 2 _ rfl
              have f0 := HK1.out.f 0
              have f1 := HK1.out.f 1
              have f2 := HK1.out.f 2
              have q0 := HK2.out.c 0 _ rfl
              have q1 := HK2.out.c 1 _ rfl
              have q2 := HK2.out.c 2 _ rfl
              have q3 := HK2.out.c 3 _ rfl
              have g0 := HK2.out.f 0
              have g1 := HK2.out.f 1
              have g2 := HK2.out.f 2
              have g3 := HK2.out.f 3
              have HLT : Hid _ := hide ST9.out.lt
              clear hD9 hP9 hat9 hsm9 hcp9 hof9 ho9
              have hl1 := HLT.out.1
              have hl2 := HLT.out.2
              have HE : Hid (DrawnDo w (.returned (.tuple #[.agg #[.slice a1 L.length c1, .slice a2 S.length c2, .slice a3 O.length c3], .agg #[.int .i64 o.kind, .string o.nm, .string o.tn, .string o.da]])) (((((((w9.setCell ⟨w.heap.size, 0, none⟩ (.slice a1 L.length c1)).setCell ⟨w.heap.size, 1, none⟩ (.slice a2 S.length c2)).setCell ⟨w.heap.size, 2, none⟩ (.slice a3 O.length c3)).setCell ⟨(w.heap.size + 1), 0, none⟩ (.int .i64 o.kind)).setCell ⟨(w.heap.size + 1), 1, none⟩ (.string o.nm)).setCell ⟨(w.heap.size + 1), 2, none⟩ (.string o.tn)).setCell ⟨(w.heap.size + 1), 3, none⟩ (.string o.da)).drew) := hide (drawnDo_fin HF.out)
              have HS : Hid (∃ Y, (((((((w9.setCell ⟨w.heap.size, 0, none⟩ (.slice a1 L.length c1)).setCell ⟨w.heap.size, 1, none⟩ (.slice a2 S.length c2)).setCell ⟨w.heap.size, 2, none⟩ (.slice a3 O.length c3)).setCell ⟨(w.heap.size + 1), 0, none⟩ (.int .i64 o.kind)).setCell ⟨(w.heap.size + 1), 1, none⟩ (.string o.nm)).setCell ⟨(w.heap.size + 1), 2, none⟩ (.string o.tn)).setCell ⟨(w.heap.size + 1), 3, none⟩ (.string o.da)) = Y ∧ Blk w.heap.size [.slice a1 L.length c1, .slice a2 S.length c2, .slice a3 O.length c3] Y ∧ Blk (w.heap.size + 1) [.int .i64 o.kind, .string o.nm, .string o.tn, .string o.da] Y) := hide ⟨_, rfl, ((((((HK1.out.set 0 _ (by simp)).set 1 _ (by simp)).set 2 _ (by simp)).other 0 _ (by omega)).other 1 _ (by omega)).other 2 _ (by omega)).other 3 _ (by omega), ((((((HK2.out.other 0 _ (by omega)).other 1 _ (by omega)).other 2 _ (by omega)).set 0 _ (by simp)).set 1 _ (by simp)).set 2 _ (by simp)).set 3 _ (by simp)⟩
              go_wp2_with fail
              go_region
              all_goals
                go_wp2
                obtain ⟨Y, hY, kY, kZ⟩ := HS.out
                rw [hY] at HE ⊢
                have z0 := kY.c 0 _ rfl
                have z1 := kY.c 1 _ rfl
                have z2 := kY.c 2 _ rfl
                have t0 := kZ.c 0 _ rfl
                have t1 := kZ.c 1 _ rfl
                have t2 := kZ.c 2 _ rfl
                have t3 := kZ.c 3 _ rfl
                exact bodyPost_ret (v := .tuple #[.agg #[.slice a1 L.length c1, .slice a2 S.length c2, .slice a3 O.length c3], .agg #[.int .i64 o.kind, .string o.nm, .string o.tn, .string o.da]]) (by simp [results, Try.results12, go_sem, z0, z1, z2, t0, t1, t2, t3]) rfl HE.out
        · have c3' : (r == 3) = false := by simpa using c3
          clear c3
          obtain ⟨a1, a2, a3, c1, c2, c3, L, S, O, hD9, hat9, hsm9, hcp9, hof9⟩ := ST6.out.ds
          obtain ⟨o, ho9, hP9⟩ := ST6.out.os
          have HF : Hid (∀ y : World, Below w.heap.size w6 y → (∀ g, w.heap.size + 2 < g → y.heap[g]? = w6.heap[g]?) → DrawnDo w (.returned (.tuple #[.agg #[.slice a1 L.length c1, .slice a2 S.length c2, .slice a3 O.length c3], .agg #[.int .i64 o.kind, .string o.nm, .string o.tn, .string o.da]])) y) := hide (fun y hb hy => drawnDo_end ST6.out hat9 hsm9 hcp9 hof9 ho9 hb hy)
          have HK1 : Hid _ := hide ST6.out.r1
          have HK2 : Hid _ := hide ST6.out.r2
          have y0 := hD9.c 0 _ rfl
          have y1 := hD9.c 1 _ rfl
          have y2 := hD9.c 2 _ rfl
          have p0 := hP9.c 0 _ rfl
          have p1 := hP9.c 1 _ rfl
          have p2 := hP9.c 2 _ rfl
          have p3 := hP9.c 3 _ rfl
          have r0 := HK1.out.c 0 _ rfl
          have r1 := HK1.out.c 1 _ rfl
          have r2 := HK1.out.c 2 _ rfl
          have f0 := HK1.out.f 0
          have f1 := HK1.out.f 1
          have f2 := HK1.out.f 2
          have q0 := HK2.out.c 0 _ rfl
          have q1 := HK2.out.c 1 _ rfl
          have q2 := HK2.out.c 2 _ rfl
          have q3 := HK2.out.c 3 _ rfl
          have g0 := HK2.out.f 0
          have g1 := HK2.out.f 1
          have g2 := HK2.out.f 2
          have g3 := HK2.out.f 3
          have HLT : Hid _ := hide ST6.out.lt
          clear hD9 hP9 hat9 hsm9 hcp9 hof9 ho9
          have hl1 := HLT.out.1
          have hl2 := HLT.out.2
          have HE : Hid (DrawnDo w (.returned (.tuple #[.agg #[.slice a1 L.length c1, .slice a2 S.length c2, .slice a3 O.length c3], .agg #[.int .i64 o.kind, .string o.nm, .string o.tn, .string o.da]])) (((((((w6.setCell ⟨w.heap.size, 0, none⟩ (.slice a1 L.length c1)).setCell ⟨w.heap.size, 1, none⟩ (.slice a2 S.length c2)).setCell ⟨w.heap.size, 2, none⟩ (.slice a3 O.length c3)).setCell ⟨(w.heap.size + 1), 0, none⟩ (.int .i64 o.kind)).setCell ⟨(w.heap.size + 1), 1, none⟩ (.string o.nm)).setCell ⟨(w.heap.size + 1), 2, none⟩ (.string o.tn)).setCell ⟨(w.heap.size + 1), 3, none⟩ (.string o.da)).drew) := hide (drawnDo_fin HF.out)
          have HS : Hid (∃ Y, (((((((w6.setCell ⟨w.heap.size, 0, none⟩ (.slice a1 L.length c1)).setCell ⟨w.heap.size, 1, none⟩ (.slice a2 S.length c2)).setCell ⟨w.heap.size, 2, none⟩ (.slice a3 O.length c3)).setCell ⟨(w.heap.size + 1), 0, none⟩ (.int .i64 o.kind)).setCell ⟨(w.heap.size + 1), 1, none⟩ (.string o.nm)).setCell ⟨(w.heap.size + 1), 2, none⟩ (.string o.tn)).setCell ⟨(w.heap.size + 1), 3, none⟩ (.string o.da)) = Y ∧ Blk w.heap.size [.slice a1 L.length c1, .slice a2 S.length c2, .slice a3 O.length c3] Y ∧ Blk (w.heap.size + 1) [.int .i64 o.kind, .string o.nm, .string o.tn, .string o.da] Y) := hide ⟨_, rfl, ((((((HK1.out.set 0 _ (by simp)).set 1 _ (by simp)).set 2 _ (by simp)).other 0 _ (by omega)).other 1 _ (by omega)).other 2 _ (by omega)).other 3 _ (by omega), ((((((HK2.out.other 0 _ (by omega)).other 1 _ (by omega)).other 2 _ (by omega)).set 0 _ (by simp)).set 1 _ (by simp)).set 2 _ (by simp)).set 3 _ (by simp)⟩
          go_wp2_with fail
          go_region
          all_goals
            go_wp2
            obtain ⟨Y, hY, kY, kZ⟩ := HS.out
            rw [hY] at HE ⊢
            have z0 := kY.c 0 _ rfl
            have z1 := kY.c 1 _ rfl
            have z2 := kY.c 2 _ rfl
            have t0 := kZ.c 0 _ rfl
            have t1 := kZ.c 1 _ rfl
            have t2 := kZ.c 2 _ rfl
            have t3 := kZ.c 3 _ rfl
            exact bodyPost_ret (v := .tuple #[.agg #[.slice a1 L.length c1, .slice a2 S.length c2, .slice a3 O.length c3], .agg #[.int .i64 o.kind, .string o.nm, .string o.tn, .string o.da]]) (by simp [results, Try.results12, go_sem, z0, z1, z2, t0, t1, t2, t3]) rfl HE.out
end Go.Proofs.Ytiilkkdbifhojaa
