/- The contract of the program's openParcels. -/
import Derived.Test.YtkcpoibhlnjldaaAcS7
import Derived.Test.YtkcpoibhlnjldaaBb
namespace Go.Proofs.Ytkcpoibhlnjldaa
open Go.Value renaming int → J, slice → V
open Go.IntKind renaming i64 → Z
open Go renaming undef → U
open Go.ChangeShapes Go.WideShapes Go.ChangeAt Go.RowKit
set_option linter.unusedVariables false
set_option maxRecDepth 100000
def TickEnd (n : Nd) (w : World) (e : Ending) (w' : World) : Prop := ∃ (a : Option Addr) (c : Nat), e = .returned (V a (tickM n.d).length c) ∧ Pool [] w [[orow 5 mgCells a c (tickM n.d)]] w'
structure OpF (n : Nd) (w : World) (B Q Q2 j q : Nat) (hlt : j < n.peers.length) (hlq : q < n.peers[j].E.out.length) (v : Value) (l0 l1 l2 l3 l4 l5 l6 l7 l8 l9 l10 l11 : Bool) (u3 u25 u26 u27 u28 u29 u30 u31 u32 u33 u34 u35 : Value) (x : World) : Prop where
 pool : Pool [] w [cond l10 [row 29 5 u35 ((tkQ n j n.peers[j] q).length + 1) ((tkQ n j n.peers[j] q).flatMap mgCells ++ mgCells (⟨n.id, n.peers[j].id, 1, n.peers[j].E.out[q].seq, n.peers[j].E.out[q].amt⟩ : Mg))] [row 29 5 v (tkQ n j n.peers[j] q).length ((tkQ n j n.peers[j] q).flatMap mgCells)], [blk Q (prCells n.peers[j])], [blk Q2 (prcCells n.peers[j].E.out[q])], cond l9 [blk (gOf (slA u34)) (mgCells (⟨n.id, n.peers[j].id, 1, n.peers[j].E.out[q].seq, n.peers[j].E.out[q].amt⟩ : Mg))] []] x
 b3 : l11 = false → u3 = v
 e3 : l11 = true → u3 = u35
 p25 : l0 = true → u25 = v
 q33 : l8 = true → u33 = .agg #[J Z n.id, J Z n.peers[j].id, J Z 1, J Z n.peers[j].E.out[q].seq, J Z n.peers[j].E.out[q].amt]
 q34 : l9 = true → u34 = V (some ⟨gOf (slA u34), 0, none⟩) 1 1
 d11_0 : l11 = true → l0 = true
 d10_9 : l10 = true → l9 = true
 d9_8 : l9 = true → l8 = true
 d11_10 : l11 = true → l10 = true
 p26 : l1 = true → u26 = .pointer (some ⟨B, 0, none⟩)
 p27 : l2 = true → u27 = .pointer (some ⟨B, 0, none⟩)
 p28 : l3 = true → u28 = .pointer (some ⟨B, 0, none⟩)
 p29 : l4 = true → u29 = J Z n.id
 p30 : l5 = true → u30 = .pointer (some ⟨Q, 0, none⟩)
 p31 : l6 = true → u31 = J Z n.peers[j].id
 p32 : l7 = true → u32 = .agg #[J Z n.peers[j].E.out[q].seq, J Z n.peers[j].E.out[q].amt]
set_option maxHeartbeats 4000000 in
theorem openParcels_any (B : Nat) (n : Nd) (w : World) (hno : nodeB n.d = true) (hB : Blk B [J Z n.id, J Z n.has, J Z n.spent, J Z n.earned, V n.sa n.seen.length n.sc, V n.pa n.peers.length n.pc] w) (h : PeersAt w n.pa n.peers) :
  Calls Try.prog 46 #[.pointer (some ⟨B, 0, none⟩)] w fun e w' => TickEnd n w e w' := by
 obtain ⟨i0, hi0, hz0, hz1, hz2⟩ := info_parts infoMg
 have hu : Try.prog.underlying 34 = some (.slice 29) := by kernel_rfl
 have HT : Hid (∀ j, (tkL n j).length ≤ 64) := hide (tkL_len n (nodeB_in hno).2.2.2 (ends_8 hno))
 have H8 : Hid _ := hide (ends_8 hno)
 have np := (nodeB_in hno).2.2.2
 have HL : Hid _ := hide h
 have HB : Hid _ := hide hB
 have hBl := hB.lt
 have c5 : w.cell? ⟨B, 5, none⟩ = some (V n.pa n.peers.length n.pc) := hB.c 5 _ rfl
 have HP : Hid (Pool [] w [[row 29 5 (V none 0 0) (tkL n 0).length ((tkL n 0).flatMap mgCells)], [], [], []] w) := hide (by
  rw [tkL_zero]
  exact (Pool.start w [[], [], [], []] rfl).newNil (i := 0) rfl 29 5)
 clear h hB hno
 go_enter Try.func46, Try.ntmps46
 go_wp2
 go_loopw [3, 13] (fun v i wr => ∃ (j : Nat), j ≤ n.peers.length ∧ i = J Z (j : Int) ∧ Hid (Pool [] w [[row 29 5 v (tkL n j).length ((tkL n j).flatMap mgCells)], [], [], []] wr)) (fun v i wr => n.peers.length - (intOf i).toNat)
 case atStart => exact ⟨0, Nat.zero_le _, rfl, HP⟩
 case round =>
  clear HP
  rename World => wo
  obtain ⟨j, hj, rfl, HM1⟩ := hrel
  by_cases hlt : j < n.peers.length
  ·have hlt' : (j : Int) < (n.peers.length : Int) := by omega
   obtain ⟨b, off, hpa, _⟩ := pr_row HL.out.row j hlt
   obtain ⟨d0, d1, d2, d3⟩ := pr_at HL.out.row HM1.out.below hpa j hlt
   have HPA : Hid (n.pa = some ⟨b, off, none⟩) := hide hpa
   have ne : n.peers[j].E.out.length ≤ 8 := H8.out _ (List.getElem_mem hlt)
   have hpl := HM1.out.newBlk (i := 1) rfl (prCells n.peers[j]) 41
   obtain ⟨Q, hQ⟩ : ∃ Q, Q = wo.heap.size := ⟨_, rfl⟩
   obtain ⟨w6, hw6⟩ : ∃ w6, w6 = wo.alloc (.cells (prCells n.peers[j]).toArray 41) := ⟨_, rfl⟩
   have HM2 : Hid (Pool [] w [[row 29 5 u3 (tkQ n j n.peers[j] 0).length ((tkQ n j n.peers[j] 0).flatMap mgCells)], [blk Q (prCells n.peers[j])], [], []] w6) := hide (by rw [tkQ_zero, hQ, hw6]; exact hpl)
   have HQ : Hid _ := hide hQ
   have HW6 : Hid (wo.alloc (.cells #[J Z n.peers[j].id, V n.peers[j].a n.peers[j].E.out.length n.peers[j].cap, J Z n.peers[j].E.sent, J Z n.peers[j].E.got] 41) = w6) := hide hw6.symm
   clear hw6 hQ hpl HM1
   rw [hpa]
   clear hpa
   go_wp2
   rw [← HQ.out, HW6.out]
   go_loopw [3, 21] (fun v i wr2 => ∃ (q : Nat), q ≤ n.peers[j].E.out.length ∧ i = J Z (q : Int) ∧ Hid (Pool [] w [[row 29 5 v (tkQ n j n.peers[j] q).length ((tkQ n j n.peers[j] q).flatMap mgCells)], [blk Q (prCells n.peers[j])], [], []] wr2)) (fun v i wr2 => n.peers[j].E.out.length - (intOf i).toNat)
   case atStart => exact ⟨0, Nat.zero_le _, rfl, HM2⟩
   case round =>
    clear HM2 d0 d1 d2 d3
    obtain ⟨q, hq, rfl, HM3⟩ := hrel
    by_cases hlq : q < n.peers[j].E.out.length
    ·have hlq' : (q : Int) < (n.peers[j].E.out.length : Int) := by omega
     obtain ⟨b2, off2, hpb, _⟩ := prc_row (HL.out.ends _ (List.getElem_mem hlt)) q hlq
     obtain ⟨f0, f1⟩ := prc_at (HL.out.ends _ (List.getElem_mem hlt)) HM3.out.below hpb q hlq
     have hpl := HM3.out.newBlk (i := 2) rfl (prcCells n.peers[j].E.out[q]) 61
     obtain ⟨Q2, hQ2⟩ : ∃ Q2, Q2 = wr.heap.size := ⟨_, rfl⟩
     obtain ⟨w7, hw7⟩ : ∃ w7, w7 = wr.alloc (.cells (prcCells n.peers[j].E.out[q]).toArray 61) := ⟨_, rfl⟩
     have HM4 : Hid (Pool [] w [[row 29 5 u3 (tkQ n j n.peers[j] q).length ((tkQ n j n.peers[j] q).flatMap mgCells)], [blk Q (prCells n.peers[j])], [blk Q2 (prcCells n.peers[j].E.out[q])], []] w7) := hide (by rw [hQ2, hw7]; exact hpl)
     have HQ2 : Hid _ := hide hQ2
     have HW7 : Hid (wr.alloc (.cells #[J Z n.peers[j].E.out[q].seq, J Z n.peers[j].E.out[q].amt] 61) = w7) := hide hw7.symm
     clear hw7 hQ2 hpl HM3
     rw [hpb]
     clear hpb
     go_wp2_with fail
     rw [← HQ2.out, HW7.out]
     rename_i K5 hK5
     have hlen : (tkQ n j n.peers[j] q).length ≤ 72 := by
      have h1 := HT.out j
      unfold tkQ
      simp only [List.length_append, List.length_take, mkMs, List.length_map]
      omega
     clear f0 f1
     obtain ⟨u3_, hu3⟩ : ∃ v, v = u3 := ⟨_, rfl⟩
     rw [← hu3] at HM4
     refine wp_region_inv (by kernel_rfl) (fun L act x => ∃ l0 l1 l2 l3 l4 l5 l6 l7 l8 l9 l10 l11 : Bool, ∃ u3 u25 u26 u27 u28 u29 u30 u31 u32 u33 u34 u35 : Value, L = #[l0, l1, l2, l3, l4, l5, l6, l7, l8, l9, l10, l11] ∧ act = { tmps := #[Value.pointer (some { block := B, off := 0 }), U, V none 0 0, u3, U, Value.pointer (some { block := Q, off := 0 }), U, Value.pointer (some { block := Q2, off := 0 }), Value.pointer (some { block := B, off := 0 }), Value.pointer (some { block := B, off := 0 }), Value.pointer (some { block := B, off := 5 }), V (some { block := b, off := off }) n.peers.length n.pc, J Z ↑n.peers.length, J Z ↑j, Value.bool true, Value.pointer (some { block := b, off := off + j * 4 }), Value.agg #[J Z n.peers[j].id, V (some { block := b2, off := off2 }) n.peers[j].E.out.length n.peers[j].cap, J Z n.peers[j].E.sent, J Z n.peers[j].E.got], Value.pointer (some { block := Q, off := 1 }), Value.pointer (some { block := Q, off := 1 }), V (some { block := b2, off := off2 }) n.peers[j].E.out.length n.peers[j].cap, J Z ↑n.peers[j].E.out.length, J Z ↑q, Value.bool true, Value.pointer (some { block := b2, off := off2 + q * 2 }), Value.agg #[J Z n.peers[j].E.out[q].seq, J Z n.peers[j].E.out[q].amt], u25, u26, u27, u28, u29, u30, u31, u32, u33, u34, u35, u36, u37, U], defers := [] } ∧ OpF n w B Q Q2 j q hlt hlq u3_ l0 l1 l2 l3 l4 l5 l6 l7 l8 l9 l10 l11 u3 u25 u26 u27 u28 u29 u30 u31 u32 u33 u34 u35 x) ?_ ?_ ?_
     rotate_left 2
     ·exact ⟨false, false, false, false, false, false, false, false, false, false, false, false, (u3), (u25), (u26), (u27), (u28), (u29), (u30), (u31), (u32), (u33), (u34), (u35), rfl, rfl, ⟨HM4.out.drew, fun _ => hu3.symm, nofun, nofun, nofun, nofun, nofun, nofun, nofun, nofun, nofun, nofun, nofun, nofun, nofun, nofun, nofun⟩⟩
     ·rintro L act x i ⟨l0, l1, l2, l3, l4, l5, l6, l7, l8, l9, l10, l11, u3, u25, u26, u27, u28, u29, u30, u31, u32, u33, u34, u35, rfl, rfl, h⟩ hi K hK
      have hi15 : i < 12 := by
       obtain ⟨_, o, ho, _⟩ := mem_ready.1 hi
       exact (Array.getElem?_eq_some_iff.1 ho).1
      have hl := (mem_ready.1 hi).1
      obtain rfl | rfl | rfl | rfl | rfl | rfl | rfl | rfl | rfl | rfl | rfl | rfl := (by omega : i = 0 ∨ i = 1 ∨ i = 2 ∨ i = 3 ∨ i = 4 ∨ i = 5 ∨ i = 6 ∨ i = 7 ∨ i = 8 ∨ i = 9 ∨ i = 10 ∨ i = 11)
      ·have e : l0 = false := hl
       subst e
       have z11 : l11 = false := by
        cases hz : l11
        ·rfl
        ·exact absurd (h.d11_0 hz) (by simp)
       subst z11
       refine wpOp_run (v := u3_) (w' := x) (by rfl) (by rfl) ?_ (hK _ _ ⟨true, l1, l2, l3, l4, l5, l6, l7, l8, l9, l10, false, u3, (u3_), u26, u27, u28, u29, u30, u31, u32, u33, u34, u35, rfl, rfl, { h with p25 := (fun _ => rfl), b3 := (h.b3), d11_0 := fun _ => rfl }⟩)
       rw [h.b3 rfl]
       go_simp
      ·have e : l1 = false := hl
       subst e
       refine wpOp_run (v := .pointer (some ⟨B, 0, none⟩)) (w' := x) (by rfl) (by rfl) ?_ (hK _ _ ⟨l0, true, l2, l3, l4, l5, l6, l7, l8, l9, l10, l11, u3, u25, (.pointer (some ⟨B, 0, none⟩)), u27, u28, u29, u30, u31, u32, u33, u34, u35, rfl, rfl, { h with p26 := fun _ => rfl }⟩)
       go_simp
      ·have e : l2 = false := hl
       subst e
       have d1 : l1 = true := ready_on hi 1 (by kernel_rfl)
       subst d1
       refine wpOp_run (v := .pointer (some ⟨B, 0, none⟩)) (w' := x) (by rfl) (by rfl) ?_ (hK _ _ ⟨l0, true, true, l3, l4, l5, l6, l7, l8, l9, l10, l11, u3, u25, u26, (.pointer (some ⟨B, 0, none⟩)), u28, u29, u30, u31, u32, u33, u34, u35, rfl, rfl, { h with p27 := fun _ => rfl }⟩)
       rw [h.p26 rfl]
       go_simp
      ·have e : l3 = false := hl
       subst e
       have d2 : l2 = true := ready_on hi 2 (by kernel_rfl)
       subst d2
       refine wpOp_run (v := .pointer (some ⟨B, 0, none⟩)) (w' := x) (by rfl) (by rfl) ?_ (hK _ _ ⟨l0, l1, true, true, l4, l5, l6, l7, l8, l9, l10, l11, u3, u25, u26, u27, (.pointer (some ⟨B, 0, none⟩)), u29, u30, u31, u32, u33, u34, u35, rfl, rfl, { h with p28 := fun _ => rfl }⟩)
       rw [h.p27 rfl]
       go_simp
      ·have e : l4 = false := hl
       subst e
       have d3 : l3 = true := ready_on hi 3 (by kernel_rfl)
       subst d3
       have c0_ : x.cell? ⟨B, 0, none⟩ = some (J Z n.id) := (h.pool.below.cell (p := ⟨B, 0, none⟩) hBl).trans (HB.out.c 0 _ rfl)
       refine wpOp_run (v := J Z n.id) (w' := x) (by rfl) (by rfl) ?_ (hK _ _ ⟨l0, l1, l2, true, true, l5, l6, l7, l8, l9, l10, l11, u3, u25, u26, u27, u28, (J Z n.id), u30, u31, u32, u33, u34, u35, rfl, rfl, { h with p29 := fun _ => rfl }⟩)
       rw [h.p28 rfl]
       go_simp
      ·have e : l5 = false := hl
       subst e
       refine wpOp_run (v := .pointer (some ⟨Q, 0, none⟩)) (w' := x) (by rfl) (by rfl) ?_ (hK _ _ ⟨l0, l1, l2, l3, l4, true, l6, l7, l8, l9, l10, l11, u3, u25, u26, u27, u28, u29, (.pointer (some ⟨Q, 0, none⟩)), u31, u32, u33, u34, u35, rfl, rfl, { h with p30 := fun _ => rfl }⟩)
       go_simp
      ·have e : l6 = false := hl
       subst e
       have d5 : l5 = true := ready_on hi 5 (by kernel_rfl)
       subst d5
       have c0_ : x.cell? ⟨Q, 0, none⟩ = some (J Z n.peers[j].id) := (h.pool.blkAt (i := 1) rfl).c 0 _ rfl
       refine wpOp_run (v := J Z n.peers[j].id) (w' := x) (by rfl) (by rfl) ?_ (hK _ _ ⟨l0, l1, l2, l3, l4, true, true, l7, l8, l9, l10, l11, u3, u25, u26, u27, u28, u29, u30, (J Z n.peers[j].id), u32, u33, u34, u35, rfl, rfl, { h with p31 := fun _ => rfl }⟩)
       rw [h.p30 rfl]
       go_simp
      ·have e : l7 = false := hl
       subst e
       have c0_ : x.cell? ⟨Q2, 0, none⟩ = some (J Z n.peers[j].E.out[q].seq) := (h.pool.blkAt (i := 2) rfl).c 0 _ rfl
       have c1_ : x.cell? ⟨Q2, 1, none⟩ = some (J Z n.peers[j].E.out[q].amt) := (h.pool.blkAt (i := 2) rfl).c 1 _ rfl
       refine wpOp_run (v := .agg #[J Z n.peers[j].E.out[q].seq, J Z n.peers[j].E.out[q].amt]) (w' := x) (by rfl) (by rfl) ?_ (hK _ _ ⟨l0, l1, l2, l3, l4, l5, l6, true, l8, l9, l10, l11, u3, u25, u26, u27, u28, u29, u30, u31, (.agg #[J Z n.peers[j].E.out[q].seq, J Z n.peers[j].E.out[q].amt]), u33, u34, u35, rfl, rfl, { h with p32 := fun _ => rfl }⟩)
       go_simp
      ·have e : l8 = false := hl
       subst e
       have d4 : l4 = true := ready_on hi 4 (by kernel_rfl)
       subst d4
       have d6 : l6 = true := ready_on hi 6 (by kernel_rfl)
       subst d6
       have d7 : l7 = true := ready_on hi 7 (by kernel_rfl)
       subst d7
       have z9 : l9 = false := by
        cases hz : l9
        ·rfl
        ·exact absurd (h.d9_8 hz) (by simp)
       subst z9
       refine wpOp_call (by rfl) (by rfl) ?_ (parcelMsg_any n.id n.peers[j].id n.peers[j].E.out[q].seq n.peers[j].E.out[q].amt x) ?_
       ·rw [h.p29 rfl, h.p31 rfl, h.p32 rfl]; go_simp
       ·rintro e w' ⟨rfl, hb⟩
        exact ⟨_, rfl, hK _ _ ⟨l0, l1, l2, l3, true, l5, true, true, true, false, l10, l11, u3, u25, u26, u27, u28, u29, u30, u31, u32, (.agg #[J Z n.id, J Z n.peers[j].id, J Z 1, J Z n.peers[j].E.out[q].seq, J Z n.peers[j].E.out[q].amt]), u34, u35, rfl, rfl, { h with q33 := (fun _ => rfl), pool := (h.pool.keep hb), d9_8 := fun _ => rfl }⟩⟩
      ·have e : l9 = false := hl
       subst e
       have d8 : l8 = true := ready_on hi 8 (by kernel_rfl)
       subst d8
       have z10 : l10 = false := by
        cases hz : l10
        ·rfl
        ·exact absurd (h.d10_9 hz) (by simp)
       subst z10
       refine wpOp_run (v := V (some ⟨x.heap.size, 0, none⟩) 1 1) (w' := x.alloc (.cells (mgCells (⟨n.id, n.peers[j].id, 1, n.peers[j].E.out[q].seq, n.peers[j].E.out[q].amt⟩ : Mg)).toArray 29)) (by rfl) (by rfl) ?_ (hK _ _ ⟨l0, l1, l2, l3, l4, l5, l6, l7, true, true, false, l11, u3, u25, u26, u27, u28, u29, u30, u31, u32, u33, (V (some ⟨x.heap.size, 0, none⟩) 1 1), u35, rfl, rfl, { h with q34 := (fun _ => rfl), pool := (h.pool.newBlk (i := 3) rfl (mgCells (⟨n.id, n.peers[j].id, 1, n.peers[j].E.out[q].seq, n.peers[j].E.out[q].amt⟩ : Mg)) 29), d10_9 := fun _ => rfl, d9_8 := fun _ => rfl }⟩)
       rw [h.q33 rfl]
       go_simp
       rfl
      ·have e : l10 = false := hl
       subst e
       have d0 : l0 = true := ready_on hi 0 (by kernel_rfl)
       subst d0
       have d8 : l8 = true := ready_on hi 8 (by kernel_rfl)
       subst d8
       have d9 : l9 = true := ready_on hi 9 (by kernel_rfl)
       subst d9
       have z11 : l11 = false := by
        cases hz : l11
        ·rfl
        ·exact absurd (h.d11_10 hz) (by simp)
       subst z11
       obtain ⟨v', y, hr, hp⟩ := h.pool.append (P := Try.prog) (i0 := 0) rfl 34 34 i0 _ 40 hu hi0 hz0 hz1 hz2 rfl (by decide) (some ⟨gOf (slA u34), 0, none⟩) 1 1 (mgCells (⟨n.id, n.peers[j].id, 1, n.peers[j].E.out[q].seq, n.peers[j].E.out[q].amt⟩ : Mg)) rfl (fun e => by cases e) (blk_news (h.pool.blkAt (i := 3) rfl)) (mg_one _) (by unfold maxLen; omega) (by omega)
       refine wpOp_run (v := v') (w' := y) (by rfl) (by rfl) ?_ (hK _ _ ⟨true, l1, l2, l3, l4, l5, l6, l7, true, true, true, false, u3, u25, u26, u27, u28, u29, u30, u31, u32, u33, u34, (v'), rfl, rfl, { h with e3 := (fun q => by cases q), pool := (hp), d10_9 := fun _ => rfl, d11_10 := fun _ => rfl }⟩)
       exact exec_append rfl (h.p25 rfl) (h.q34 rfl) hr
      ·have e : l11 = false := hl
       subst e
       have d0 : l0 = true := ready_on hi 0 (by kernel_rfl)
       subst d0
       have d1 : l1 = true := ready_on hi 1 (by kernel_rfl)
       subst d1
       have d2 : l2 = true := ready_on hi 2 (by kernel_rfl)
       subst d2
       have d3 : l3 = true := ready_on hi 3 (by kernel_rfl)
       subst d3
       have d4 : l4 = true := ready_on hi 4 (by kernel_rfl)
       subst d4
       have d5 : l5 = true := ready_on hi 5 (by kernel_rfl)
       subst d5
       have d6 : l6 = true := ready_on hi 6 (by kernel_rfl)
       subst d6
       have d7 : l7 = true := ready_on hi 7 (by kernel_rfl)
       subst d7
       have d8 : l8 = true := ready_on hi 8 (by kernel_rfl)
       subst d8
       have d9 : l9 = true := ready_on hi 9 (by kernel_rfl)
       subst d9
       have d10 : l10 = true := ready_on hi 10 (by kernel_rfl)
       subst d10
       refine wpOp_run (v := u35) (w' := x) (by rfl) (by rfl) ?_ (hK _ _ ⟨true, true, true, true, true, true, true, true, true, true, true, true, (u35), u25, u26, u27, u28, u29, u30, u31, u32, u33, u34, u35, rfl, rfl, { h with b3 := (fun q => by cases q), e3 := (fun _ => rfl), d11_0 := fun _ => rfl, d11_10 := fun _ => rfl }⟩)
       go_simp
     ·rintro L act x ⟨l0, l1, l2, l3, l4, l5, l6, l7, l8, l9, l10, l11, u3, u25, u26, u27, u28, u29, u30, u31, u32, u33, u34, u35, rfl, rfl, h⟩ hr
      have hall := ready_all hr rfl (by decide)
      have t0 : l0 = true := hall 0 (by decide)
      have t1 : l1 = true := hall 1 (by decide)
      have t2 : l2 = true := hall 2 (by decide)
      have t3 : l3 = true := hall 3 (by decide)
      have t4 : l4 = true := hall 4 (by decide)
      have t5 : l5 = true := hall 5 (by decide)
      have t6 : l6 = true := hall 6 (by decide)
      have t7 : l7 = true := hall 7 (by decide)
      have t8 : l8 = true := hall 8 (by decide)
      have t9 : l9 = true := hall 9 (by decide)
      have t10 : l10 = true := hall 10 (by decide)
      have t11 : l11 = true := hall 11 (by decide)
      subst t0 t1 t2 t3 t4 t5 t6 t7 t8 t9 t10 t11
      clear hall hr
      have e10 := h.e3 rfl
      have HM5 : Hid (Pool [] w [[row 29 5 u35 (tkQ n j n.peers[j] (q + 1)).length ((tkQ n j n.peers[j] (q + 1)).flatMap mgCells)], [blk Q (prCells n.peers[j])], [], []] x) := hide (by
       rw [tkQ_step n j n.peers[j] q hlq, List.length_append, List.flatMap_append]
       simpa using (h.pool.drop (i := 3) rfl).drop (i := 2) rfl)
      clear h
      subst e10
      refine hK5 _ _ ?_
      clear hK5 HM4
      go_wp2
      exact ⟨⟨q + 1, by omega, by go_num, HM5⟩, by simp [intOf]; omega⟩
    ·have hlq' : ¬ (q : Int) < (n.peers[j].E.out.length : Int) := by omega
     have HM5 : Hid (Pool [] w [[row 29 5 u3 (tkL n (j + 1)).length ((tkL n (j + 1)).flatMap mgCells)], [], [], []] wr) := hide (by
      have e : q = n.peers[j].E.out.length := by omega
      rw [← tkQ_all n j hlt, ← e]
      exact HM3.out.drop (i := 1) rfl)
     clear HM3
     go_wp2
     exact ⟨⟨j + 1, by omega, by go_num, HM5⟩, by simp [intOf]; omega⟩
  ·have hlt' : ¬ (j : Int) < (n.peers.length : Int) := by omega
   have HM6 : Hid (Pool [] w [[row 29 5 u3 (tickM n.d).length ((tickM n.d).flatMap mgCells)], [], [], []] wo) := hide (by
    have e : tickM n.d = tkL n j := by rw [← tkL_all n, show j = n.peers.length by omega]
    rw [e]
    exact HM1.out)
   obtain ⟨ma, mc, em, HM7⟩ := HM6.out.asOrow mgLen (i := 0) (l := tickM n.d) rfl
   subst em
   have HM8 : Hid _ := hide HM7
   clear HM1 HM6 HM7
   go_wp2
   go_ret
   exact ⟨ma, mc, rfl, HM8.out.cast (by simp)⟩
end Go.Proofs.Ytkcpoibhlnjldaa
