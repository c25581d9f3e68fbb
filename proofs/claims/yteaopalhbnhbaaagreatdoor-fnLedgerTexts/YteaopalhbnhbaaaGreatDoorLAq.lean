/- The contract of the model's Applied. -/
import Derived.Test.YteaopalhbnhbaaaGreatDoorLAp
namespace Go.Proofs.YteaopalhbnhbaaaGreatDoor
open Go.ChangeShapes Go.WideShapes Go.ChangeAt Go.RowKit
set_option linter.unusedVariables false
set_option maxRecDepth 100000
set_option maxHeartbeats 16000000 in
theorem specApplied_any (p : LP) (D : Led) (c : Cm) (w : World) (n1 : D.acc.length ≤ 1048576) (n2 : D.hold.length ≤ 1048576) (n3 : D.seen.length ≤ 1048576) (hcf : c.fr.size ≤ maxLen) (hct : c.to.size ≤ maxLen) (hpk : PlOk p D) (h : LedAt w p.aa p.ha p.sa D) :
    Calls Tryz.prog 50 #[ledV p D, c.v] w fun e w' => ApplEnd (applM D c) w e w' := by
  have HL : Hid _ := hide h
  have HK : Hid _ := hide hpk
  obtain ⟨W3, hW3⟩ : ∃ W3, W3 = ((w.alloc (.cells #[.slice p.aa D.acc.length p.ca, .slice p.ha D.hold.length p.ch, .slice p.sa D.seen.length p.cs] 28)).alloc (.cells #[.int .i64 c.id, .int .i64 c.kind, .string c.fr, .string c.to, .int .i64 c.am, .int .i64 c.ref] 83)).alloc (.cells #[.slice none 0 0, .slice none 0 0, .slice none 0 0] 28) := ⟨_, rfl⟩
  have HP0 : Hid (Pool [] w [[blk w.heap.size (ledC p D)], [blk (w.heap.size + 1) c.cells], [blk (w.heap.size + 1 + 1) [.slice none 0 0, .slice none 0 0, .slice none 0 0]], []] W3) := hide (by
    have p1 := (Pool.start w [[], [], [], []] rfl).newBlk (i := 0) rfl (ledC p D) 28
    have s1 : (w.alloc (.cells (ledC p D).toArray 28)).heap.size = w.heap.size + 1 := by simp
    have p2 := p1.newBlk (i := 1) rfl c.cells 83
    have s2 : ((w.alloc (.cells (ledC p D).toArray 28)).alloc (.cells c.cells.toArray 83)).heap.size = w.heap.size + 1 + 1 := by simp
    have p3 := p2.newBlk (i := 2) rfl [.slice none 0 0, .slice none 0 0, .slice none 0 0] 28
    rw [s2, s1] at p3
    rw [hW3]
    exact p3)
  have HW3 : Hid (_ = W3) := hide hW3.symm
  clear hW3 h hpk
  unfold ledV Cm.v
  go_enter Tryz.func50, Tryz.ntmps50
  go_upto_region 1 with fail
  rw [HW3.out]
  have d0 := (HP0.out.blkAt (i := 0) rfl).c 0 _ rfl
  have d1 := (HP0.out.blkAt (i := 0) rfl).c 1 _ rfl
  have d2 := (HP0.out.blkAt (i := 0) rfl).c 2 _ rfl
  have c0 := (HP0.out.blkAt (i := 1) rfl).c 0 _ rfl
  have c1 := (HP0.out.blkAt (i := 1) rfl).c 1 _ rfl
  have c2 := (HP0.out.blkAt (i := 1) rfl).c 2 _ rfl
  have c3 := (HP0.out.blkAt (i := 1) rfl).c 3 _ rfl
  have c4 := (HP0.out.blkAt (i := 1) rfl).c 4 _ rfl
  have c5 := (HP0.out.blkAt (i := 1) rfl).c 5 _ rfl
  go_wp2_with fail
  refine (specLedgerOk_any p.aa p.ha p.sa D p.ca p.ch p.cs W3 (HL.out.below HP0.out.below) n1 n2 n3).mono ?_
  rintro e w4 ⟨rfl, hb4⟩
  have HP4 : Hid (Pool [] w [[blk w.heap.size (ledC p D)], [blk (w.heap.size + 1) c.cells], [blk (w.heap.size + 1 + 1) [.slice none 0 0, .slice none 0 0, .slice none 0 0]], []] w4) := hide (HP0.out.keep hb4)
  clear hb4 HP0 d0 d1 d2 c0 c1 c2 c3 c4 c5
  cases hls : ledS D
  · have HM : Hid (applM D c = (⟨[], [], []⟩, 1)) := hide (by unfold applM; rw [hls]; rfl)
    have r0 := (HP4.out.blkAt (i := 2) rfl).c 0 _ rfl
    have fr0 := (HP4.out.blkAt (i := 2) rfl).f 0
    have r1 := (HP4.out.blkAt (i := 2) rfl).c 1 _ rfl
    have fr1 := (HP4.out.blkAt (i := 2) rfl).f 1
    have r2 := (HP4.out.blkAt (i := 2) rfl).c 2 _ rfl
    have fr2 := (HP4.out.blkAt (i := 2) rfl).f 2
    have HQ : Hid _ := hide (((HP4.out.setBlk (i := 2) rfl 0 (.slice none 0 0) (by simp)).setBlk (i := 2) rfl 1 (.slice none 0 0) (by simp)).setBlk (i := 2) rfl 2 (.slice none 0 0) (by simp))
    go_wp2
    refine name_post9 (fun W9 hW9 => ?_)
    have hq := HQ.out
    rw [← hW9] at hq
    have z_ := hq.blkAt (i := 2) rfl
    have g0_ := z_.c 0 _ rfl
    have g1_ := z_.c 1 _ rfl
    have g2_ := z_.c 2 _ rfl
    exact bodyPost_ret (v := .tuple #[.agg #[.slice none 0 0, .slice none 0 0, .slice none 0 0], .int .i64 (1)]) (by simp [results, Tryz.results50, go_sem, g0_, g1_, g2_]) rfl ⟨⟨none, 0, none, 0, none, 0⟩, by rw [HM.out]; rfl, by
      rw [HM.out]
      have k : SlOk none 0 0 := ⟨fun x h => (by cases h), fun _ => rfl, Nat.le_refl _⟩
      exact ⟨k, k, k⟩, by
      rw [HM.out]
      have p1 := ((hq.drop (i := 2) rfl).drop (i := 1) rfl).drop (i := 0) rfl
      have st : Star (ledL ⟨none, 0, none, 0, none, 0⟩ ⟨[], [], []⟩) W9 := by
        have e0 : ∀ {A : Type} (sz : Nat) (f : A → List Value), Star [orow sz f none 0 ([] : List A)] W9 := fun sz f => Star.ofNone
        have z : ∀ {A : Type} (sz : Nat) (f : A → List Value), fps [orow sz f none 0 ([] : List A)] = [] := fun sz f => by rw [fps_one]; rfl
        exact (e0 4 accCells).app ((e0 4 hldCells).app (e0 2 snCells) (fun c hc => by rw [z] at hc; cases hc)) (fun c hc => by rw [z] at hc; cases hc)
      have p2 := p1.new (i := 3) rfl (Below.refl _ _) st (fun c hc => by
        have : fps (ledL ⟨none, 0, none, 0, none, 0⟩ ⟨[], [], []⟩) = [] := rfl
        rw [this] at hc; cases hc)
      exact p2.cast (by simp)⟩
  · have HLS : Hid _ := hide hls
    clear hls
    have d0 := (HP4.out.blkAt (i := 0) rfl).c 0 _ rfl
    have d1 := (HP4.out.blkAt (i := 0) rfl).c 1 _ rfl
    have d2 := (HP4.out.blkAt (i := 0) rfl).c 2 _ rfl
    have c0 := (HP4.out.blkAt (i := 1) rfl).c 0 _ rfl
    have c1 := (HP4.out.blkAt (i := 1) rfl).c 1 _ rfl
    have c2 := (HP4.out.blkAt (i := 1) rfl).c 2 _ rfl
    have c3 := (HP4.out.blkAt (i := 1) rfl).c 3 _ rfl
    have c4 := (HP4.out.blkAt (i := 1) rfl).c 4 _ rfl
    have c5 := (HP4.out.blkAt (i := 1) rfl).c 5 _ rfl
    go_wp2_with fail
    obtain ⟨R, hR⟩ : ∃ R, R = applM D c := ⟨_, rfl⟩
    have hco := l2Applied_any p D c w4 HLS.out hcf hct HK.out (HL.out.below HP4.out.below)
    rw [← hR] at hco
    have HR : Hid _ := hide hR
    unfold ledV Cm.v at hco
    clear hR
    refine hco.mono ?_
    rintro e w5 ⟨q, rfl, hqk, hp5⟩
    have HQK : Hid _ := hide hqk
    have HP5 : Hid (Pool [] w [[blk w.heap.size (ledC p D)], [blk (w.heap.size + 1) c.cells], [blk (w.heap.size + 1 + 1) [.slice none 0 0, .slice none 0 0, .slice none 0 0]], ledL q R.1] w5) := hide (HP4.out.call (i := 3) rfl (rs' := ledL q R.1) (hp5.cast (by simp)))
    clear hco hqk hp5 HP4 d0 d1 d2 c0 c1 c2 c3 c4 c5
    unfold ledV
    have r0 := (HP5.out.blkAt (i := 2) rfl).c 0 _ rfl
    have fr0 := (HP5.out.blkAt (i := 2) rfl).f 0
    have r1 := (HP5.out.blkAt (i := 2) rfl).c 1 _ rfl
    have fr1 := (HP5.out.blkAt (i := 2) rfl).f 1
    have r2 := (HP5.out.blkAt (i := 2) rfl).c 2 _ rfl
    have fr2 := (HP5.out.blkAt (i := 2) rfl).f 2
    have HQ : Hid _ := hide (((HP5.out.setBlk (i := 2) rfl 0 (.slice q.aa R.1.acc.length q.ca) (by simp)).setBlk (i := 2) rfl 1 (.slice q.ha R.1.hold.length q.ch) (by simp)).setBlk (i := 2) rfl 2 (.slice q.sa R.1.seen.length q.cs) (by simp))
    go_wp2
    refine name_post9 (fun W9 hW9 => ?_)
    have hq := HQ.out
    rw [← hW9] at hq
    have z_ := hq.blkAt (i := 2) rfl
    have g0_ := z_.c 0 _ rfl
    have g1_ := z_.c 1 _ rfl
    have g2_ := z_.c 2 _ rfl
    exact bodyPost_ret (v := .tuple #[.agg #[.slice q.aa R.1.acc.length q.ca, .slice q.ha R.1.hold.length q.ch, .slice q.sa R.1.seen.length q.cs], .int .i64 (R.2)]) (by simp [results, Tryz.results50, go_sem, g0_, g1_, g2_]) rfl ⟨q, by rw [← HR.out]; rfl, by rw [← HR.out]; exact HQK.out, by
      rw [← HR.out]
      exact (((hq.drop (i := 2) rfl).drop (i := 1) rfl).drop (i := 0) rfl).cast (by simp)⟩
end Go.Proofs.YteaopalhbnhbaaaGreatDoor
