/- The contract of the program's Received. -/
import Derived.Test.YtkcpoibhlnjldaaBa
namespace Go.Proofs.Ytkcpoibhlnjldaa
open Go.Value renaming int → J, slice → V
open Go.IntKind renaming i64 → Z
open Go.ChangeShapes Go.WideShapes Go.ChangeAt Go.RowKit
set_option linter.unusedVariables false
/-- of what the ring has, in order: what the end had -/
theorem outL_same {l : List Prc} {sent got : Int} {room : List Prc} (q : endB ⟨l, sent, got⟩ = true) (h : ∀ j (hj : j < l.length), room[plc l[j].seq]? = some l[j]) : outL (sent - (l.length : Int)) sent room = l := by
 have hn : (sent - (sent - (l.length : Int))).toNat = l.length := by omega
 apply List.ext_getElem
 ·rw [outL_len, hn]
 ·intro i h1 h2
  have e := ((endB_parts q).2.2.2 i h2).1
  simp only at e
  have hh := h i h2
  rw [e] at hh
  simp only [outL, List.getElem_map, List.getElem_range]
  rw [hh]; rfl
def rcvOk (E : En) (p : Prc) : Bool := endB E && pOkB p
def rcvE (E : En) (p : Prc) : En := if rcvOk E p then (if p.seq = E.got + 1 then ⟨E.out, E.sent, p.seq⟩ else E) else ⟨[], 0, 0⟩
def rcvX (E : En) (p : Prc) : Int := if rcvOk E p then (if p.seq = E.got + 1 then p.amt else 0) else 0
def rcvY (E : En) (p : Prc) : Int := if rcvOk E p then (if p.seq = E.got + 1 then p.seq else E.got) else -1
/-- an end, and two numbers -/
def EndTwo (E : En) (x y : Int) (w : World) (e : Ending) (w' : World) : Prop := Below w.heap.size w w' ∧ ∃ v, e = .returned (.tuple #[.agg #[v, J Z E.sent, J Z E.got], J Z x, J Z y]) ∧ NewRow 2 prcCells E.out w v w'
/-- the blocks that Received lays first: e, p, the answer -/
structure RcvAt (w : World) (v0 : Value) (sent got ps pa : Int) (x : World) : Prop where
 old : Below w.heap.size w x
 lt : w.heap.size + 3 ≤ x.heap.size
 e0 : x.cell? ⟨w.heap.size, 0, none⟩ = some v0
 e1 : x.cell? ⟨w.heap.size, 1, none⟩ = some (J Z sent)
 e2 : x.cell? ⟨w.heap.size, 2, none⟩ = some (J Z got)
 p0 : x.cell? ⟨w.heap.size + 1, 0, none⟩ = some (J Z ps)
 p1 : x.cell? ⟨w.heap.size + 1, 1, none⟩ = some (J Z pa)
 res : ResMid (w.heap.size + 2) x
theorem rcv_start (w : World) (v0 : Value) (sent got ps pa : Int) : RcvAt w v0 sent got ps pa (((w.alloc (.cells #[v0, J Z sent, J Z got] 39)).alloc (.cells #[J Z ps, J Z pa] 61)).alloc (.cells #[V none 0 0, J Z 0, J Z 0] 39)) := by
 obtain ⟨wa, hwa⟩ : ∃ wa, wa = w.alloc (.cells #[v0, J Z sent, J Z got] 39) := ⟨_, rfl⟩
 obtain ⟨wb, hwb⟩ : ∃ wb, wb = wa.alloc (.cells #[J Z ps, J Z pa] 61) := ⟨_, rfl⟩
 have sa : wa.heap.size = w.heap.size + 1 := by rw [hwa]; simp
 have sb : wb.heap.size = w.heap.size + 2 := by rw [hwb]; simp [sa]
 have b1 : Below (w.heap.size + 1) (w.alloc (.cells #[v0, J Z sent, J Z got] 39)) (wb.alloc (.cells #[V none 0 0, J Z 0, J Z 0] 39)) := by
  rw [hwb, ← hwa]; exact ((Below.refl _ _).alloc (by omega) _).alloc (by simp [sa]) _
 have b2 : Below wb.heap.size wb (wb.alloc (.cells #[V none 0 0, J Z 0, J Z 0] 39)) := (Below.refl _ _).alloc (Nat.le_refl _) _
 rw [← hwa, ← hwb]
 obtain ⟨⟨x0, x1, x2⟩, _⟩ := new_block b1
 obtain ⟨⟨y0, y1, y2⟩, fy⟩ := new_block (w := wb) (v0 := V none 0 0) (v1 := J Z 0) (v2 := J Z 0) (T := 39) (Below.refl _ _)
 rw [sb] at y0 y1 y2 fy
 have q0 : wb.cell? ⟨wa.heap.size, 0, none⟩ = some (J Z ps) := by rw [hwb]; exact World.cell?_alloc_at _ _ _ _ rfl
 have q1 : wb.cell? ⟨wa.heap.size, 1, none⟩ = some (J Z pa) := by rw [hwb]; exact World.cell?_alloc_at _ _ _ _ rfl
 have p0 := below_keeps b2 _ _ q0
 have p1 := below_keeps b2 _ _ q1
 rw [sa] at p0 p1
 refine ⟨box_old b1, by simp [sb], x0, x1, x2, p0, p1, ⟨by simp [sb], fun j hj => ?_, fy⟩⟩
 match j, hj with
 | 0, _ => exact ⟨_, y0⟩
 | 1, _ => exact ⟨_, y1⟩
 | 2, _ => exact ⟨_, y2⟩
theorem RcvAt.on {w x y : World} {v0 : Value} {sent got ps pa : Int} (h : RcvAt w v0 sent got ps pa x) {B : Nat} (hB : w.heap.size + 3 ≤ B) (b : Below B x y) : RcvAt w v0 sent got ps pa y :=
 ⟨h.old.trans (b.mono (by omega)), Nat.le_trans h.lt b.size, (b.cell (by show w.heap.size < B; omega)).trans h.e0, (b.cell (by show w.heap.size < B; omega)).trans h.e1, (b.cell (by show w.heap.size < B; omega)).trans h.e2,
  (b.cell (by show w.heap.size + 1 < B; omega)).trans h.p0, (b.cell (by show w.heap.size + 1 < B; omega)).trans h.p1, h.res.keep (b.block _ (by omega)) b.size⟩
theorem RcvAt.next {w x y : World} {v0 : Value} {sent got ps pa : Int} (h : RcvAt w v0 sent got ps pa x) (b : Below x.heap.size x y) : RcvAt w v0 sent got ps pa y := h.on h.lt b
/-- cells that a region of Received reads -/
def SR (w : World) (v0 : Value) (sent got ps pa : Int) (x : World) : Prop := x.cell? ⟨w.heap.size, 2, none⟩ = some (J Z got) ∧ x.cell? ⟨w.heap.size + 1, 0, none⟩ = some (J Z ps) ∧ x.cell? ⟨w.heap.size + 1, 1, none⟩ = some (J Z pa)
theorem RcvAt.sr {w x : World} {v0 : Value} {sent got ps pa : Int} (h : RcvAt w v0 sent got ps pa x) : SR w v0 sent got ps pa x := ⟨h.e2, h.p0, h.p1⟩
theorem SR.set {w x : World} {v0 : Value} {sent got ps pa : Int} (h : SR w v0 sent got ps pa x) {a b c : Value} : SR w v0 sent got ps pa (((x.setCell ⟨w.heap.size + 2, 0, none⟩ a).setCell ⟨w.heap.size + 2, 1, none⟩ b).setCell ⟨w.heap.size + 2, 2, none⟩ c) := by
 refine ⟨?_, ?_, ?_⟩ <;> rw [cell_set_other (.inl (by omega)), cell_set_other (.inl (by omega)), cell_set_other (.inl (by omega))]
 ·exact h.1
 ·exact h.2.1
 ·exact h.2.2
/-- the answer's block is written -/
theorem res_set {w x : World} {E : En} {v : Value} {xx yy : Int} (hold : Below w.heap.size w x) (b : Nat) (hb : w.heap.size ≤ b) (g : Nat) (a : Option Addr) (cap : Nat) (hg : b < g) (hv : v = V a E.out.length cap) (ho : OwnRow 2 prcCells x g a cap E.out) :
  EndTwo E xx yy w (.returned (.tuple #[.agg #[v, J Z E.sent, J Z E.got], J Z xx, J Z yy])) (((x.setCell ⟨b, 0, none⟩ v).setCell ⟨b, 1, none⟩ (J Z E.sent)).setCell ⟨b, 2, none⟩ (J Z E.got)) :=
 ⟨((hold.setCell (p := ⟨b, 0, none⟩) hb _).setCell (p := ⟨b, 1, none⟩) hb _).setCell (p := ⟨b, 2, none⟩) hb _, v, rfl, g, a, cap, by omega, hv, ho.turned ((((Turned.refl b x).setCell _).setCell _).setCell _) (fun _ => by omega)⟩
theorem res_zero {w x : World} {xx yy : Int} (hold : Below w.heap.size w x) (b : Nat) (hb : w.heap.size ≤ b) :
  EndTwo ⟨[], 0, 0⟩ xx yy w (.returned (.tuple #[.agg #[V none 0 0, J Z 0, J Z 0], J Z xx, J Z yy])) (((x.setCell ⟨b, 0, none⟩ (V none 0 0)).setCell ⟨b, 1, none⟩ (J Z 0)).setCell ⟨b, 2, none⟩ (J Z 0)) :=
 res_set (E := ⟨[], 0, 0⟩) hold b hb (b + 1) none 0 (by omega) rfl (OwnRow.nil (fun _ => rfl))
set_option maxRecDepth 100000 in
set_option maxHeartbeats 8000000 in
theorem implReceived_any (a : Option Addr) (l : List Prc) (cap : Nat) (sent got ps pa : Int) (w : World) (hl : l.length ≤ 1048576) (h : RowAt 2 prcCells w a l) :
  Calls Try.prog 65 #[.agg #[V a l.length cap, J Z sent, J Z got], .agg #[J Z ps, J Z pa]] w fun e w' => EndTwo (rcvE ⟨l, sent, got⟩ ⟨ps, pa⟩) (rcvX ⟨l, sent, got⟩ ⟨ps, pa⟩) (rcvY ⟨l, sent, got⟩ ⟨ps, pa⟩) w e w' := by
 have HC : Hid _ := hide h
 clear h
 have HW : Hid _ := hide (rcv_start w (V a l.length cap) sent got ps pa)
 go_enter Try.func65, Try.ntmps65
 go_wp2_with fail
 refine (implEndOk_any a l cap sent got _ hl (HC.out.below HW.out.old)).mono ?_
 rintro e w1 ⟨rfl, hb1⟩
 have HA1 : Hid _ := hide (HW.out.next hb1)
 clear hb1 HW
 cases q : endB ⟨l, sent, got⟩
 ·have HO : Hid (rcvOk ⟨l, sent, got⟩ ⟨ps, pa⟩ = false) := hide (by simp [rcvOk, q])
  obtain ⟨⟨t0, r0⟩, ⟨t1, r1⟩, ⟨t2, r2⟩⟩ := And.intro (HA1.out.res.c 0 (by omega)) (And.intro (HA1.out.res.c 1 (by omega)) (HA1.out.res.c 2 (by omega)))
  have f0 := HA1.out.res.f 0
  have f1 := HA1.out.res.f 1
  have f2 := HA1.out.res.f 2
  have HE : Hid _ := hide (res_zero (xx := 0) (yy := -1) HA1.out.old (w.heap.size + 2) (by omega))
  go_wp2
  refine bodyPost_ret (v := .tuple #[.agg #[V none 0 0, J Z 0, J Z 0], J Z 0, J Z (-1)]) (by simp [results, Try.results65, go_sem, r0, r1, r2]) rfl ?_
  simp only [rcvE, rcvX, rcvY, HO.out]
  exact HE.out
 ·have x0 := HA1.out.p0
  have x1 := HA1.out.p1
  go_wp2_with fail
  refine (parcelOk_any ps pa w1).mono ?_
  rintro e w2 ⟨rfl, hb2⟩
  have HA2 : Hid _ := hide (HA1.out.next hb2)
  clear hb2 HA1 x0 x1
  obtain ⟨⟨t0, r0⟩, ⟨t1, r1⟩, ⟨t2, r2⟩⟩ := And.intro (HA2.out.res.c 0 (by omega)) (And.intro (HA2.out.res.c 1 (by omega)) (HA2.out.res.c 2 (by omega)))
  have f0 := HA2.out.res.f 0
  have f1 := HA2.out.res.f 1
  have f2 := HA2.out.res.f 2
  cases q2 : pOkB ⟨ps, pa⟩
  ·have HO : Hid (rcvOk ⟨l, sent, got⟩ ⟨ps, pa⟩ = false) := hide (by simp [rcvOk, q2])
   have HE : Hid _ := hide (res_zero (xx := 0) (yy := -1) HA2.out.old (w.heap.size + 2) (by omega))
   go_wp2
   refine bodyPost_ret (v := .tuple #[.agg #[V none 0 0, J Z 0, J Z 0], J Z 0, J Z (-1)]) (by simp [results, Try.results65, go_sem, r0, r1, r2]) rfl ?_
   simp only [rcvE, rcvX, rcvY, HO.out]
   exact HE.out
  ·have HO : Hid (rcvOk ⟨l, sent, got⟩ ⟨ps, pa⟩ = true) := hide (by simp [rcvOk, q, q2])
   have HQ : Hid _ := hide q
   have hg0 : 0 ≤ got := (endB_parts q).2.2.1.1
   have hg1 : got ≤ 1000000000 := (endB_parts q).2.2.1.2
   have hs0 : 0 ≤ sent := (endB_parts q).2.1.1
   have hs1 : sent ≤ 1000000000 := (endB_parts q).2.1.2
   have h8 : l.length ≤ 8 := (endB_parts q).1
   have hsn : (l.length : Int) ≤ sent := by
    by_cases h0 : 0 < l.length
    ·have := (endB_parts q).2.2.2 0 h0
     simp only at this
     omega
    ·omega
   have y0 := HA2.out.e0
   have y1 := HA2.out.e1
   have y2 := HA2.out.e2
   clear q q2 r0 r1 r2 f0 f1 f2
   go_wp2_with fail
   refine (ringOf_any a l cap sent got w2 HQ.out (HC.out.below HA2.out.old)).mono ?_
   rintro e w3 ⟨hb3, R, room, hR, rfl, hring, hroom⟩
   have HA3 : Hid _ := hide (HA2.out.next hb3)
   have HRING : Hid _ := hide hring
   have HOUT : Hid _ := hide (outL_same HQ.out hroom)
   clear hb3 hR hring hroom y0 y1 y2
   have z2 := HA3.out.e2
   have z3 := HA3.out.p0
   by_cases hs : ps = got + 1
   ·have hsb : (ps == got + 1) = true := by simpa using hs
    have HSS : Hid _ := hide hs
    clear hs
    go_wp2_with fail
    go_region_held (fun x => x.cell? ⟨w.heap.size, 2, none⟩ = some (J Z got) ∧ x.cell? ⟨w.heap.size + 1, 0, none⟩ = some (J Z ps) ∧ x.cell? ⟨w.heap.size + 1, 1, none⟩ = some (J Z pa))
     (first | assumption | exact HA3.out.sr | exact HA4.out.sr | exact SR.set (v0 := .bool true) (sent := 0) (by assumption))
     (first | (go_at_call 77; refine (end_any R _ _ _ _ _ (HRING.out.below ((Below.refl _ _).drew)) (by omega) (And.intro (by omega) (by omega)) (by omega)).mono ?_; rw [HOUT.out]; rintro e w4 ⟨hb4, v4, rfl, g4, a4, c4, hg4, rfl, ho4⟩; have HA4 : Hid _ := hide ((HA3.out.next ((Below.refl w3.heap.size w3).drew)).next hb4); have HO4 : Hid _ := hide ho4; have HG4 : Hid (w3.heap.size ≤ g4) := hide hg4; obtain ⟨⟨t0, r0⟩, ⟨t1, r1⟩, ⟨t2, r2⟩⟩ := And.intro (HA4.out.res.c 0 (by omega)) (And.intro (HA4.out.res.c 1 (by omega)) (HA4.out.res.c 2 (by omega))); have f0 := HA4.out.res.f 0; have f1 := HA4.out.res.f 1; have f2 := HA4.out.res.f 2; clear hb4 ho4 hg4))
    have HE : Hid _ := hide (res_set (E := ⟨l, sent, ps⟩) (xx := pa) (yy := ps) HA4.out.old (w.heap.size + 2) (by omega) g4 a4 c4 (by have := HA3.out.lt; have := HG4.out; omega) rfl HO4.out)
    go_wp2
    refine bodyPost_ret (v := .tuple #[.agg #[V a4 l.length c4, J Z sent, J Z ps], J Z pa, J Z ps]) (by simp [results, Try.results65, go_sem, r0, r1, r2]) rfl ?_
    have hs := HSS.out
    have e1 : rcvE ⟨l, sent, got⟩ ⟨ps, pa⟩ = ⟨l, sent, ps⟩ := (if_pos HO.out).trans (if_pos hs)
    have e2 : rcvX ⟨l, sent, got⟩ ⟨ps, pa⟩ = pa := (if_pos HO.out).trans (if_pos hs)
    have e3 : rcvY ⟨l, sent, got⟩ ⟨ps, pa⟩ = ps := (if_pos HO.out).trans (if_pos hs)
    rw [e1, e2, e3]
    exact HE.out
   ·have hsb : (ps == got + 1) = false := by simpa using hs
    have HSS : Hid _ := hide hs
    clear hs
    go_wp2_with fail
    go_region_held (fun x => x.cell? ⟨w.heap.size, 2, none⟩ = some (J Z got) ∧ x.cell? ⟨w.heap.size + 1, 0, none⟩ = some (J Z ps) ∧ x.cell? ⟨w.heap.size + 1, 1, none⟩ = some (J Z pa))
     (first | assumption | exact HA3.out.sr | exact HA4.out.sr | exact SR.set (v0 := .bool true) (sent := 0) (by assumption))
     (first | (go_at_call 77; refine (end_any R _ _ _ _ _ (HRING.out.below ((Below.refl _ _).drew)) (by omega) (And.intro (by omega) (by omega)) (by omega)).mono ?_; rw [HOUT.out]; rintro e w4 ⟨hb4, v4, rfl, g4, a4, c4, hg4, rfl, ho4⟩; have HA4 : Hid _ := hide ((HA3.out.next ((Below.refl w3.heap.size w3).drew)).next hb4); have HO4 : Hid _ := hide ho4; have HG4 : Hid (w3.heap.size ≤ g4) := hide hg4; obtain ⟨⟨t0, r0⟩, ⟨t1, r1⟩, ⟨t2, r2⟩⟩ := And.intro (HA4.out.res.c 0 (by omega)) (And.intro (HA4.out.res.c 1 (by omega)) (HA4.out.res.c 2 (by omega))); have f0 := HA4.out.res.f 0; have f1 := HA4.out.res.f 1; have f2 := HA4.out.res.f 2; clear hb4 ho4 hg4))
    have HE : Hid _ := hide (res_set (E := ⟨l, sent, got⟩) (xx := 0) (yy := got) HA4.out.old (w.heap.size + 2) (by omega) g4 a4 c4 (by have := HA3.out.lt; have := HG4.out; omega) rfl HO4.out)
    go_wp2
    refine bodyPost_ret (v := .tuple #[.agg #[V a4 l.length c4, J Z sent, J Z got], J Z 0, J Z got]) (by simp [results, Try.results65, go_sem, r0, r1, r2]) rfl ?_
    have hs := HSS.out
    have e1 : rcvE ⟨l, sent, got⟩ ⟨ps, pa⟩ = ⟨l, sent, got⟩ := (if_pos HO.out).trans (if_neg hs)
    have e2 : rcvX ⟨l, sent, got⟩ ⟨ps, pa⟩ = 0 := (if_pos HO.out).trans (if_neg hs)
    have e3 : rcvY ⟨l, sent, got⟩ ⟨ps, pa⟩ = got := (if_pos HO.out).trans (if_neg hs)
    rw [e1, e2, e3]
    exact HE.out
end Go.Proofs.Ytkcpoibhlnjldaa
