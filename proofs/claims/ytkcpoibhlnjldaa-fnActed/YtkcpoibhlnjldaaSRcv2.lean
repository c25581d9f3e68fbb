/- The contract of the model's Received. -/
import Derived.Test.YtkcpoibhlnjldaaSCp
namespace Go.Proofs.Ytkcpoibhlnjldaa
open Go.Value renaming int → J, slice → V
open Go.IntKind renaming i64 → Z
open Go.ChangeShapes Go.WideShapes Go.ChangeAt Go.RowKit
set_option linter.unusedVariables false
theorem EndTwo.next {E : En} {x y : Int} {w u z : World} {e : Ending} (h : EndTwo E x y w e u) (b : Below u.heap.size u z) : EndTwo E x y w e z := by
 obtain ⟨h1, v, h2, h3⟩ := h
 exact ⟨below_trans h1 b, v, h2, h3.below b⟩
set_option maxRecDepth 100000 in
set_option maxHeartbeats 8000000 in
theorem specReceived_any (a0 : Option Addr) (l : List Prc) (cap : Nat) (sent got ps pa : Int) (w : World) (hl : l.length ≤ 1048576) (hn0 : a0 = none → cap = 0) (h : RowAt 2 prcCells w a0 l) :
  Calls Try.prog 54 #[.agg #[V a0 l.length cap, J Z sent, J Z got], .agg #[J Z ps, J Z pa]] w fun e w' => EndTwo (rcvE ⟨l, sent, got⟩ ⟨ps, pa⟩) (rcvX ⟨l, sent, got⟩ ⟨ps, pa⟩) (rcvY ⟨l, sent, got⟩ ⟨ps, pa⟩) w e w' := by
 have HC : Hid _ := hide h
 clear h
 have HW : Hid _ := hide (rcv_start w (V a0 l.length cap) sent got ps pa)
 go_enter Try.func54, Try.ntmps54
 go_wp2_with fail
 refine (specEndOk_any _ l cap sent got _ hl (HC.out.below HW.out.old)).mono ?_
 rintro e w1 ⟨rfl, hb1⟩
 have HA1 : Hid _ := hide (HW.out.next hb1)
 clear hb1 HW
 obtain ⟨⟨t0, r0⟩, ⟨t1, r1⟩, ⟨t2, r2⟩⟩ := And.intro (HA1.out.res.c 0 (by omega)) (And.intro (HA1.out.res.c 1 (by omega)) (HA1.out.res.c 2 (by omega)))
 have f0 := HA1.out.res.f 0
 have f1 := HA1.out.res.f 1
 have f2 := HA1.out.res.f 2
 have x0 := HA1.out.p0
 have x1 := HA1.out.p1
 cases q : endB ⟨l, sent, got⟩
 ·have HO : Hid (rcvOk ⟨l, sent, got⟩ ⟨ps, pa⟩ = false) := hide (by simp [rcvOk, q])
  have HE : Hid _ := hide (res_zero (xx := 0) (yy := -1) HA1.out.old (w.heap.size + 2) (by omega))
  go_wp2_with (first | (go_at_call 47; refine (l1In_any _ _ _ _).mono ?_; rintro e w' ⟨rfl, hw'⟩; have hw'' := hw'.symm; subst hw''))
  refine bodyPost_ret (v := .tuple #[.agg #[V none 0 0, J Z 0, J Z 0], J Z 0, J Z (-1)]) (by simp [results, Try.results54, go_sem, r0, r1, r2]) rfl ?_
  simp only [rcvE, rcvX, rcvY, HO.out]
  exact HE.out
 ·cases q2 : inB 1 1000000000 ps
  ·have HO : Hid (rcvOk ⟨l, sent, got⟩ ⟨ps, pa⟩ = false) := hide (by simp [rcvOk, pOkB, q2])
   have HE : Hid _ := hide (res_zero (xx := 0) (yy := -1) HA1.out.old (w.heap.size + 2) (by omega))
   go_wp2_with (first | (go_at_call 47; refine (l1In_any _ _ _ _).mono ?_; rintro e w' ⟨rfl, hw'⟩; have hw'' := hw'.symm; subst hw''))
   refine bodyPost_ret (v := .tuple #[.agg #[V none 0 0, J Z 0, J Z 0], J Z 0, J Z (-1)]) (by simp [results, Try.results54, go_sem, r0, r1, r2]) rfl ?_
   simp only [rcvE, rcvX, rcvY, HO.out]
   exact HE.out
  ·cases q3 : inB 1 1000000000000 pa
   ·have HO : Hid (rcvOk ⟨l, sent, got⟩ ⟨ps, pa⟩ = false) := hide (by simp [rcvOk, pOkB, q3])
    have HE : Hid _ := hide (res_zero (xx := 0) (yy := -1) HA1.out.old (w.heap.size + 2) (by omega))
    go_wp2_with (first | (go_at_call 47; refine (l1In_any _ _ _ _).mono ?_; rintro e w' ⟨rfl, hw'⟩; have hw'' := hw'.symm; subst hw''))
    refine bodyPost_ret (v := .tuple #[.agg #[V none 0 0, J Z 0, J Z 0], J Z 0, J Z (-1)]) (by simp [results, Try.results54, go_sem, r0, r1, r2]) rfl ?_
    simp only [rcvE, rcvX, rcvY, HO.out]
    exact HE.out
   ·have HO : Hid (rcvOk ⟨l, sent, got⟩ ⟨ps, pa⟩ = true) := hide (by simp [rcvOk, pOkB, q, q2, q3])
    have HQ : Hid _ := hide q
    have hg0 : 0 ≤ got := (endB_parts q).2.2.1.1
    have hg1 : got ≤ 1000000000 := (endB_parts q).2.2.1.2
    have y0 := HA1.out.e0
    have y1 := HA1.out.e1
    have y2 := HA1.out.e2
    clear r0 r1 r2 f0 f1 f2
    go_wp2_with (first | (go_at_call 47; refine (l1In_any _ _ _ _).mono ?_; rintro e w' ⟨rfl, hw'⟩; have hw'' := hw'.symm; subst hw'') | fail)
    refine (l5Copy_any a0 l cap sent got w1 hl hn0 (HC.out.below HA1.out.old)).mono ?_
    rintro e w4 ⟨hb4, v4, rfl, g4, a4, c4, hg4, rfl, ho4⟩
    have HA4 : Hid _ := hide (HA1.out.next hb4)
    have HO4 : Hid _ := hide ho4
    have HG4 : Hid (w1.heap.size ≤ g4) := hide hg4
    clear x0 x1 y0 y1 y2 hb4 ho4 hg4
    obtain ⟨⟨t0, r0⟩, ⟨t1, r1⟩, ⟨t2, r2⟩⟩ := And.intro (HA4.out.res.c 0 (by omega)) (And.intro (HA4.out.res.c 1 (by omega)) (HA4.out.res.c 2 (by omega)))
    have f0 := HA4.out.res.f 0
    have f1 := HA4.out.res.f 1
    have f2 := HA4.out.res.f 2
    have x0 := HA4.out.p0
    have x1 := HA4.out.p1
    have y2 := HA4.out.e2
    have lt0 : w.heap.size < w4.heap.size := by have := HA4.out.lt; omega
    have lt1 : w.heap.size + 1 < w4.heap.size := by have := HA4.out.lt; omega
    have lt2 : w.heap.size + 2 < w4.heap.size := by have := HA4.out.lt; omega
    by_cases hs : ps = got + 1
    ·have hsb : (ps != got + 1) = false := by simpa using hs
     have HSS : Hid _ := hide hs
     clear hs
     have HE : Hid _ := hide (res_set (E := ⟨l, sent, ps⟩) (xx := pa) (yy := ps) HA4.out.old (w.heap.size + 2) (by omega) g4 a4 c4 (by have := HA1.out.lt; have := HG4.out; omega) rfl HO4.out)
     go_wp2_with fail
     go_region
     go_wp2
     refine bodyPost_ret (v := .tuple #[.agg #[V a4 l.length c4, J Z sent, J Z ps], J Z pa, J Z ps]) (by simp [results, Try.results54, go_sem, r0, r1, r2, lt2]) rfl ?_
     have e1 : rcvE ⟨l, sent, got⟩ ⟨ps, pa⟩ = ⟨l, sent, ps⟩ := (if_pos HO.out).trans (if_pos HSS.out)
     have e2 : rcvX ⟨l, sent, got⟩ ⟨ps, pa⟩ = pa := (if_pos HO.out).trans (if_pos HSS.out)
     have e3 : rcvY ⟨l, sent, got⟩ ⟨ps, pa⟩ = ps := (if_pos HO.out).trans (if_pos HSS.out)
     rw [e1, e2, e3]
     exact HE.out.next ((below_alloc (Below.refl _ _) _).drew)
    ·have hsb : (ps != got + 1) = true := by simpa using hs
     have HSS : Hid _ := hide hs
     clear hs
     have HE : Hid _ := hide (res_set (E := ⟨l, sent, got⟩) (xx := 0) (yy := got) HA4.out.old (w.heap.size + 2) (by omega) g4 a4 c4 (by have := HA1.out.lt; have := HG4.out; omega) rfl HO4.out)
     go_wp2_with fail
     go_region
     go_wp2
     refine bodyPost_ret (v := .tuple #[.agg #[V a4 l.length c4, J Z sent, J Z got], J Z 0, J Z got]) (by simp [results, Try.results54, go_sem, r0, r1, r2, lt2]) rfl ?_
     have e1 : rcvE ⟨l, sent, got⟩ ⟨ps, pa⟩ = ⟨l, sent, got⟩ := (if_pos HO.out).trans (if_neg HSS.out)
     have e2 : rcvX ⟨l, sent, got⟩ ⟨ps, pa⟩ = 0 := (if_pos HO.out).trans (if_neg HSS.out)
     have e3 : rcvY ⟨l, sent, got⟩ ⟨ps, pa⟩ = got := (if_pos HO.out).trans (if_neg HSS.out)
     rw [e1, e2, e3]
     exact HE.out.next ((below_alloc (Below.refl _ _) _).drew)
end Go.Proofs.Ytkcpoibhlnjldaa
