/- The model's l2Move: a post or a hold. -/
import Derived.Test.YteaopalhbnhbaaaGreatDoorLPa
namespace Go.Proofs.YteaopalhbnhbaaaGreatDoor
open Go.ChangeShapes Go.WideShapes Go.ChangeAt Go.RowKit
set_option linter.unusedVariables false
set_option maxRecDepth 100000
theorem hld_one1 (x : Hld) : ∀ u ∈ hldCells x, u.oneCell' = true := fun u hu => by
  simp only [hldCells, List.mem_cons, List.not_mem_nil, or_false] at hu
  rcases hu with rfl | rfl | rfl | rfl <;> rfl
theorem insH_at {l : List Hld} {x : Hld} {k : Nat} (hk : k ≤ l.length) (h1 : ∀ j (hj : j < l.length), j < k → l[j].id < x.id) (h2 : ∀ hj : k < l.length, ¬ l[k].id < x.id) : insH l x = l.take k ++ ([x] ++ l.drop k) := by
  unfold insH
  induction l generalizing k with
  | nil => simp at hk; subst hk; simp
  | cons y l ih =>
    cases k with
    | zero =>
      have := h2 (by simp)
      simp only [List.getElem_cons_zero] at this
      simp [this]
    | succ k =>
      have h0 := h1 0 (by simp) (by omega)
      simp only [List.getElem_cons_zero] at h0
      have := ih (k := k) (by simpa using hk) (fun j hj hjk => by have := h1 (j + 1) (by simpa using hj) (by omega); simpa using this) (fun hj => by have := h2 (by simpa using hj); simpa using this)
      simp [h0, this]
theorem insH_len (l : List Hld) (x : Hld) : (insH l x).length = l.length + 1 := by
  unfold insH
  have := congrArg List.length (List.takeWhile_append_dropWhile (p := fun y : Hld => decide (y.id < x.id)) (l := l))
  simp only [List.length_append, List.length_cons] at this ⊢
  omega
theorem insH_mem {l : List Hld} {x y : Hld} : y ∈ insH l x → y = x ∨ y ∈ l := by
  unfold insH
  intro h
  rw [List.mem_append, List.mem_cons] at h
  rcases h with h | h | h
  · exact .inr ((List.takeWhile_prefix _).subset h)
  · exact .inl h
  · exact .inr ((List.dropWhile_suffix _).subset h)
/-- what a command has that moves an amount -/
structure MvOk (D : Led) (c : Cm) : Prop where
  nf : c.fr.size ≤ maxLen
  nt : c.to.size ≤ maxLen
  am : 0 ≤ c.am ∧ c.am ≤ 1000000000000
  id : I64 c.id
  room : c.kind ≠ 2 → D.hold.length < 10
set_option maxHeartbeats 16000000 in
theorem l2Move_any (p : LP) (D : Led) (c : Cm) (w : World) (n1 : SmallA D.acc) (n2 : SmallH D.hold) (n3 : D.seen.length ≤ 1048576) (hlim : ∀ x ∈ D.acc, -1 ≤ x.limit ∧ x.limit ≤ 1000000000000) (hc : MvOk D c) (hpk : PlOk p D) (h : LedAt w p.aa p.ha p.sa D) :
    Calls Tryz.prog 104 #[ledV p D, c.v] w fun e w' => MoveEnd p D (moveM D c) w e w' := by
  have HL : Hid _ := hide h
  have HK : Hid _ := hide hpk
  have HN1 : Hid _ := hide n1
  have HN2 : Hid _ := hide n2
  have HLI : Hid _ := hide hlim
  have HC : Hid _ := hide hc
  have hn1 : D.acc.length ≤ 12 := n1.1
  have hn2 : D.hold.length ≤ 10 := n2.1
  obtain ⟨W3, hW3⟩ : ∃ W3, W3 = ((w.alloc (.cells #[.slice p.aa D.acc.length p.ca, .slice p.ha D.hold.length p.ch, .slice p.sa D.seen.length p.cs] 28)).alloc (.cells #[.int .i64 c.id, .int .i64 c.kind, .string c.fr, .string c.to, .int .i64 c.am, .int .i64 c.ref] 83)).alloc (.cells #[.slice none 0 0, .slice none 0 0, .slice none 0 0] 28) := ⟨_, rfl⟩
  have HP0 : Hid (Pool [] w [[blk w.heap.size (ledC p D)], [blk (w.heap.size + 1) c.cells], [blk (w.heap.size + 1 + 1) [.slice none 0 0, .slice none 0 0, .slice none 0 0]], [], [], [], [], [], []] W3) := hide (by
    have p1 := (Pool.start w [[], [], [], [], [], [], [], [], []] rfl).newBlk (i := 0) rfl (ledC p D) 28
    have s1 : (w.alloc (.cells (ledC p D).toArray 28)).heap.size = w.heap.size + 1 := by simp
    have p2 := p1.newBlk (i := 1) rfl c.cells 83
    have s2 : ((w.alloc (.cells (ledC p D).toArray 28)).alloc (.cells c.cells.toArray 83)).heap.size = w.heap.size + 1 + 1 := by simp
    have p3 := p2.newBlk (i := 2) rfl [.slice none 0 0, .slice none 0 0, .slice none 0 0] 28
    rw [s2, s1] at p3
    rw [hW3]
    exact p3)
  have HW3 : Hid (_ = W3) := hide hW3.symm
  clear hW3 h hpk n1 n2 hlim hc
  unfold ledV Cm.v
  go_enter Tryz.func104, Tryz.ntmps104
  go_upto_region 1 with fail
  rw [HW3.out]
  have d0 := (HP0.out.blkAt (i := 0) rfl).c 0 _ rfl
  have d1 := (HP0.out.blkAt (i := 0) rfl).c 1 _ rfl
  have d2 := (HP0.out.blkAt (i := 0) rfl).c 2 _ rfl
  have c0 := (HP0.out.blkAt (i := 1) rfl).c 0 _ rfl
  have c1 := (HP0.out.blkAt (i := 1) rfl).c 1 _ rfl
  have c2 := (HP0.out.blkAt (i := 1) rfl).c 2 _ rfl
  have c3 := (HP0.out.blkAt (i := 1) rfl).c 3 _ rfl
  have c4 := (HP0.out.blkAt (i := 1) rfl).c 4 _ rfl
  have c5 := (HP0.out.blkAt (i := 1) rfl).c 5 _ rfl
  go_wp2_with fail
  refine (l2Find_any p.aa D.acc p.ca _ _ c.fr W3 (by omega) (HL.out.acc.below HP0.out.below)).mono ?_
  intro e w4 hf
  obtain ⟨hb4, r1, rfl, hf1⟩ := findIs_of hf
  have HP4 : Hid _ := hide (HP0.out.keep hb4)
  have HF1 : Hid _ := hide hf1
  clear hb4 hf hf1 HP0 d0 d1 d2 c0 c1 c2 c3 c4 c5
  have d0 := (HP4.out.blkAt (i := 0) rfl).c 0 _ rfl
  have d1 := (HP4.out.blkAt (i := 0) rfl).c 1 _ rfl
  have d2 := (HP4.out.blkAt (i := 0) rfl).c 2 _ rfl
  have c0 := (HP4.out.blkAt (i := 1) rfl).c 0 _ rfl
  have c1 := (HP4.out.blkAt (i := 1) rfl).c 1 _ rfl
  have c2 := (HP4.out.blkAt (i := 1) rfl).c 2 _ rfl
  have c3 := (HP4.out.blkAt (i := 1) rfl).c 3 _ rfl
  have c4 := (HP4.out.blkAt (i := 1) rfl).c 4 _ rfl
  have c5 := (HP4.out.blkAt (i := 1) rfl).c 5 _ rfl
  go_wp2_with fail
  refine (l2Find_any p.aa D.acc p.ca _ _ c.to w4 (by omega) (HL.out.acc.below HP4.out.below)).mono ?_
  intro e w5 hf
  obtain ⟨hb5, r2, rfl, hf2⟩ := findIs_of hf
  have HP5 : Hid _ := hide (HP4.out.keep hb5)
  have HF2 : Hid _ := hide hf2
  clear hb5 hf hf2 HP4 d0 d1 d2 c0 c1 c2 c3 c4 c5
  have d0 := (HP5.out.blkAt (i := 0) rfl).c 0 _ rfl
  have d1 := (HP5.out.blkAt (i := 0) rfl).c 1 _ rfl
  have d2 := (HP5.out.blkAt (i := 0) rfl).c 2 _ rfl
  have c0 := (HP5.out.blkAt (i := 1) rfl).c 0 _ rfl
  have c1 := (HP5.out.blkAt (i := 1) rfl).c 1 _ rfl
  have c2 := (HP5.out.blkAt (i := 1) rfl).c 2 _ rfl
  have c3 := (HP5.out.blkAt (i := 1) rfl).c 3 _ rfl
  have c4 := (HP5.out.blkAt (i := 1) rfl).c 4 _ rfl
  have c5 := (HP5.out.blkAt (i := 1) rfl).c 5 _ rfl
  have r0 := (HP5.out.blkAt (i := 2) rfl).c 0 _ rfl
  have fr0 := (HP5.out.blkAt (i := 2) rfl).f 0
  have r1 := (HP5.out.blkAt (i := 2) rfl).c 1 _ rfl
  have fr1 := (HP5.out.blkAt (i := 2) rfl).f 1
  have r2 := (HP5.out.blkAt (i := 2) rfl).c 2 _ rfl
  have fr2 := (HP5.out.blkAt (i := 2) rfl).f 2
  rcases HF1.out with ⟨i, hi, ei, rfl⟩ | ⟨ei, rfl⟩
  · rcases HF2.out with ⟨j, hj, ej, rfl⟩ | ⟨ej, rfl⟩
    · have hi0 : ¬ (i : Int) < 0 := by omega
      have hj0 : ¬ (j : Int) < 0 := by omega
      have hi' : (i : Int) < (D.acc.length : Int) := by omega
      have hj' : (j : Int) < (D.acc.length : Int) := by omega
      have HEI : Hid _ := hide ei
      have HEJ : Hid _ := hide ej
      obtain ⟨b, off, ea, hb, x0, x1, x2, x3⟩ := acc_row (HL.out.acc.row.below HP5.out.below) i hi
      obtain ⟨b', off', ea', hb', y0, y1, y2, y3⟩ := acc_row (HL.out.acc.row.below HP5.out.below) j hj
      rw [ea] at ea'
      simp only [Option.some.injEq, Addr.mk.injEq, and_true] at ea'
      obtain ⟨rfl, rfl⟩ := ea'
      have hse : sameC D.acc i j = ((D.acc[i]).cur.toList == (D.acc[j]).cur.toList) := by simp [sameC, List.getElem?_eq_getElem hi, List.getElem?_eq_getElem hj, sameB]
      have HSE : Hid _ := hide hse
      clear ei ej hse
      rw [ea] at d0
      have HEA : Hid _ := hide ea
      clear ea
      cases q1 : ((D.acc[i]).cur.toList == (D.acc[j]).cur.toList)
      · have HM : Hid (moveM D c = (D, 6)) := hide (by unfold moveM; rw [HEI.out, HEJ.out]; simp only; rw [HSE.out, q1]; rfl)
        have q1' : ((D.acc[i]).cur.toList != (D.acc[j]).cur.toList) = true := by simp [bne, q1]
        go_wp2_with fail
        go_quiet (fail)
        have HP6 : Hid _ := hide (HP5.out.keep (drewN_below w5 nq))
        have HQ : Hid _ := hide (((HP6.out.setBlk (i := 2) rfl 0 (.slice (some ⟨b, off, none⟩) D.acc.length p.ca) (by simp)).setBlk (i := 2) rfl 1 (.slice p.ha D.hold.length p.ch) (by simp)).setBlk (i := 2) rfl 2 (.slice p.sa D.seen.length p.cs) (by simp))
        go_wp2
        refine name_post9 (fun W9 hW9 => ?_)
        have hq := HQ.out
        rw [← hW9] at hq
        have z_ := hq.blkAt (i := 2) rfl
        have g0_ := z_.c 0 _ rfl
        have g1_ := z_.c 1 _ rfl
        have g2_ := z_.c 2 _ rfl
        exact bodyPost_ret (v := .tuple #[.agg #[.slice (some ⟨b, off, none⟩) D.acc.length p.ca, .slice p.ha D.hold.length p.ch, .slice p.sa D.seen.length p.cs], .int .i64 (6)]) (by simp [results, Tryz.results104, go_sem, g0_, g1_, g2_]) rfl ⟨p, by rw [HM.out]; simp only [ledV, HEA.out], hq.below, fun _ => rfl, fun q => by rw [HM.out] at q; cases q⟩
      · have q1' : ((D.acc[i]).cur.toList != (D.acc[j]).cur.toList) = false := by simp [bne, q1]
        by_cases hkd : c.kind = 2
        · have hkd' : (c.kind == 2) = true := by simp [hkd]
          have HM : Hid (moveM D c = payM D i j c.am) := hide (by unfold moveM; rw [HEI.out, HEJ.out]; simp only; rw [HSE.out, q1, if_pos rfl, if_pos hkd])
          clear hkd
          go_wp2_with fail
          go_quiet (fail)
          go_wp2_with fail
          obtain ⟨w6, hw6⟩ : ∃ w6, w6 = w5.drewN nq := ⟨_, rfl⟩
          have HP6 : Hid (Pool [] w [[blk w.heap.size (ledC p D)], [blk (w.heap.size + 1) c.cells], [blk (w.heap.size + 1 + 1) [.slice none 0 0, .slice none 0 0, .slice none 0 0]], [], [], [], [], [], []] w6) := hide (by rw [hw6]; exact HP5.out.keep (drewN_below w5 nq))
          rw [← hw6]
          obtain ⟨R, hR⟩ : ∃ R, R = payM D i j c.am := ⟨_, rfl⟩
          have HR : Hid _ := hide hR
          have hco := l2Pay_any p D i j c.am w6 HN1.out HN2.out n3 HLI.out hi hj HC.out.am HK.out (HL.out.below HP6.out.below)
          rw [← hR] at hco
          unfold ledV at hco
          rw [HEA.out] at hco
          clear hR hw6 HP5 d0 d1 d2 c0 c1 c2 c3 c4 c5 r0 r1 r2 fr0 fr1 fr2 x0 x1 x2 x3 y0 y1 y2 y3
          refine hco.mono ?_
          rintro e w7 ⟨q, rfl, hb7, hne, heq⟩
          clear hco
          have HNE : Hid _ := hide hne
          have HEQ : Hid _ := hide heq
          clear hne heq
          unfold ledV
          by_cases hz : R.2 = 0
          · have HP7 : Hid (Pool [] w [[blk w.heap.size (ledC p D)], [blk (w.heap.size + 1) c.cells], [blk (w.heap.size + 1 + 1) [.slice none 0 0, .slice none 0 0, .slice none 0 0]], ledL q R.1, [], [], [], [], []] w7) := hide (HP6.out.call (i := 3) rfl (rs' := ledL q R.1) ((HEQ.out hz).2.cast (by simp)))
            have HZ : Hid _ := hide hz
            clear hb7 hz HP6
            have r0 := (HP7.out.blkAt (i := 2) rfl).c 0 _ rfl
            have fr0 := (HP7.out.blkAt (i := 2) rfl).f 0
            have r1 := (HP7.out.blkAt (i := 2) rfl).c 1 _ rfl
            have fr1 := (HP7.out.blkAt (i := 2) rfl).f 1
            have r2 := (HP7.out.blkAt (i := 2) rfl).c 2 _ rfl
            have fr2 := (HP7.out.blkAt (i := 2) rfl).f 2
            have HQ : Hid _ := hide (((HP7.out.setBlk (i := 2) rfl 0 (.slice q.aa R.1.acc.length q.ca) (by simp)).setBlk (i := 2) rfl 1 (.slice q.ha R.1.hold.length q.ch) (by simp)).setBlk (i := 2) rfl 2 (.slice q.sa R.1.seen.length q.cs) (by simp))
            go_wp2
            refine name_post9 (fun W9 hW9 => ?_)
            have hq := HQ.out
            rw [← hW9] at hq
            have z_ := hq.blkAt (i := 2) rfl
            have g0_ := z_.c 0 _ rfl
            have g1_ := z_.c 1 _ rfl
            have g2_ := z_.c 2 _ rfl
            exact bodyPost_ret (v := .tuple #[.agg #[.slice q.aa R.1.acc.length q.ca, .slice q.ha R.1.hold.length q.ch, .slice q.sa R.1.seen.length q.cs], .int .i64 (R.2)]) (by simp [results, Tryz.results104, go_sem, g0_, g1_, g2_]) rfl ⟨q, by rw [HM.out, ← HR.out]; rfl, hq.below, fun z => by rw [HM.out, ← HR.out] at z; exact absurd HZ.out z, fun _ => by
              rw [HM.out, ← HR.out]
              exact ⟨(HEQ.out HZ.out).1, (((hq.drop (i := 2) rfl).drop (i := 1) rfl).drop (i := 0) rfl).cast (by simp)⟩⟩
          · have HP7 : Hid _ := hide (HP6.out.keep hb7)
            have HZ : Hid _ := hide hz
            clear hb7 hz HP6
            have r0 := (HP7.out.blkAt (i := 2) rfl).c 0 _ rfl
            have fr0 := (HP7.out.blkAt (i := 2) rfl).f 0
            have r1 := (HP7.out.blkAt (i := 2) rfl).c 1 _ rfl
            have fr1 := (HP7.out.blkAt (i := 2) rfl).f 1
            have r2 := (HP7.out.blkAt (i := 2) rfl).c 2 _ rfl
            have fr2 := (HP7.out.blkAt (i := 2) rfl).f 2
            have HQ : Hid _ := hide (((HP7.out.setBlk (i := 2) rfl 0 (.slice q.aa R.1.acc.length q.ca) (by simp)).setBlk (i := 2) rfl 1 (.slice q.ha R.1.hold.length q.ch) (by simp)).setBlk (i := 2) rfl 2 (.slice q.sa R.1.seen.length q.cs) (by simp))
            go_wp2
            refine name_post9 (fun W9 hW9 => ?_)
            have hq := HQ.out
            rw [← hW9] at hq
            have z_ := hq.blkAt (i := 2) rfl
            have g0_ := z_.c 0 _ rfl
            have g1_ := z_.c 1 _ rfl
            have g2_ := z_.c 2 _ rfl
            exact bodyPost_ret (v := .tuple #[.agg #[.slice q.aa R.1.acc.length q.ca, .slice q.ha R.1.hold.length q.ch, .slice q.sa R.1.seen.length q.cs], .int .i64 (R.2)]) (by simp [results, Tryz.results104, go_sem, g0_, g1_, g2_]) rfl ⟨q, by rw [HM.out, ← HR.out]; rfl, hq.below, fun _ => HNE.out HZ.out, fun z => by rw [HM.out, ← HR.out] at z; exact absurd z HZ.out⟩
        · have hkd' : (c.kind == 2) = false := by simp [hkd]
          have HM : Hid (moveM D c = holdM D i c) := hide (by unfold moveM; rw [HEI.out, HEJ.out]; simp only; rw [HSE.out, q1, if_pos rfl, if_neg hkd])
          have HRM : Hid (D.hold.length < 10) := hide (HC.out.room hkd)
          clear hkd
          go_wp2_with fail
          go_quiet (fail)
          go_wp2_with fail
          obtain ⟨w6, hw6⟩ : ∃ w6, w6 = w5.drewN nq := ⟨_, rfl⟩
          have HP6 : Hid (Pool [] w [[blk w.heap.size (ledC p D)], [blk (w.heap.size + 1) c.cells], [blk (w.heap.size + 1 + 1) [.slice none 0 0, .slice none 0 0, .slice none 0 0]], [], [], [], [], [], []] w6) := hide (by rw [hw6]; exact HP5.out.keep (drewN_below w5 nq))
          rw [← hw6]
          have hco := l2Copy_any p D w6 (by omega) (by omega) n3 HK.out (HL.out.below HP6.out.below)
          unfold ledV at hco
          rw [HEA.out] at hco
          clear hw6 HP5 d0 d1 d2 c0 c1 c2 c3 c4 c5 r0 r1 r2 fr0 fr1 fr2 x0 x1 x2 x3 y0 y1 y2 y3
          refine hco.mono ?_
          rintro e w7 ⟨⟨aa, ca, ha, ch, sa, cs⟩, rfl, hqk, hp7⟩
          have HQK : Hid _ := hide hqk
          have HP7 : Hid (Pool [] w [[blk w.heap.size (ledC p D)], [blk (w.heap.size + 1) c.cells], [blk (w.heap.size + 1 + 1) [.slice none 0 0, .slice none 0 0, .slice none 0 0]], [orow 4 accCells aa ca D.acc], [orow 4 hldCells ha ch D.hold], [orow 2 snCells sa cs D.seen], [], [], []] w7) := hide (by
            have q := HP6.out.call (i := 3) rfl (rs' := ledL ⟨aa, ca, ha, ch, sa, cs⟩ D) (hp7.cast (by simp))
            exact q.cast (by simp [ledL]))
          clear hco hqk hp7 HP6
          unfold ledV
          go_upto_region 10 with fail
          refine name_world9 (fun W8 hW8 => ?_)
          have HP8 : Hid (Pool [] w [[blk w.heap.size (ledC p D)], [blk (w.heap.size + 1) c.cells], [blk (w.heap.size + 1 + 1) [.slice none 0 0, .slice none 0 0, .slice none 0 0]], [orow 4 accCells aa ca D.acc], [orow 4 hldCells ha ch D.hold], [orow 2 snCells sa cs D.seen], [blk w7.heap.size [.slice aa D.acc.length ca, .slice ha D.hold.length ch, .slice sa D.seen.length cs]], [], []] W8) := hide (by rw [hW8]; exact HP7.out.newBlk (i := 6) rfl [.slice aa D.acc.length ca, .slice ha D.hold.length ch, .slice sa D.seen.length cs] 28)
          clear hW8 HP7
          go_upto_block 0 with fail
          go_cut [9] from 53 to 70 (fun iv wx => ∃ k : Nat, k ≤ D.hold.length ∧ iv = .int .i64 (k : Int) ∧ Hid ((∀ j (hj : j < D.hold.length), j < k → D.hold[j].id < c.id) ∧ ∀ hj : k < D.hold.length, ¬ D.hold[k].id < c.id) ∧ Hid (Pool [] w [[blk w.heap.size (ledC p D)], [blk (w.heap.size + 1) c.cells], [blk (w.heap.size + 1 + 1) [.slice none 0 0, .slice none 0 0, .slice none 0 0]], [orow 4 accCells aa ca D.acc], [orow 4 hldCells ha ch D.hold], [orow 2 snCells sa cs D.seen], [blk w7.heap.size [.slice aa D.acc.length ca, .slice ha D.hold.length ch, .slice sa D.seen.length cs]], [], []] wx))
          case first =>
            go_wp2_with fail
            go_loopw [9] (fun iv wr => ∃ k : Nat, k ≤ D.hold.length ∧ iv = .int .i64 (k : Int) ∧ Hid (∀ j (hj : j < D.hold.length), j < k → D.hold[j].id < c.id) ∧ Hid (Pool [] w [[blk w.heap.size (ledC p D)], [blk (w.heap.size + 1) c.cells], [blk (w.heap.size + 1 + 1) [.slice none 0 0, .slice none 0 0, .slice none 0 0]], [orow 4 accCells aa ca D.acc], [orow 4 hldCells ha ch D.hold], [orow 2 snCells sa cs D.seen], [blk w7.heap.size [.slice aa D.acc.length ca, .slice ha D.hold.length ch, .slice sa D.seen.length cs]], [], []] wr)) (fun iv wr => D.hold.length - (intOf iv).toNat)
            case atStart => exact ⟨0, Nat.zero_le _, rfl, hide (fun j _ hj => by omega), HP8⟩
            case round =>
              obtain ⟨k, hk, rfl, HN, HPr⟩ := hrel
              have d1 := (HPr.out.blkAt (i := 0) rfl).c 1 _ rfl
              have c0 := (HPr.out.blkAt (i := 1) rfl).c 0 _ rfl
              by_cases hlt : k < D.hold.length
              · have hlt' : (k : Int) < (D.hold.length : Int) := by omega
                obtain ⟨b2, off2, eh, hb2, z0, z1, z2, z3⟩ := hld_row (HL.out.hold.row.below HPr.out.below) k hlt
                rw [eh] at d1
                clear eh
                by_cases hq : (D.hold[k]).id < c.id
                · have HS : Hid (∀ j (hj : j < D.hold.length), j < k + 1 → D.hold[j].id < c.id) := hide (fun j hj hjk => by
                    rcases Nat.lt_or_ge j k with h | h
                    · exact HN.out j hj h
                    · obtain rfl : j = k := by omega
                      exact hq)
                  go_wp2_with fail
                  go_quiet (fail)
                  go_wp2
                  exact ⟨⟨k + 1, by omega, by go_num, HS, hide (HPr.out.keep (drewN_below wr nq))⟩, by simp [intOf]; omega⟩
                · go_wp2_with fail
                  go_quiet (fail)
                  go_wp2_with fail
                  go_meet
                  exact ⟨k, hk, rfl, hide ⟨HN.out, fun _ => hq⟩, hide (HPr.out.keep (drewN_below wr nq))⟩
              · have hlt' : ¬ (k : Int) < (D.hold.length : Int) := by omega
                go_wp2_with fail
                go_quiet (fail)
                go_wp2_with fail
                go_meet
                exact ⟨k, hk, rfl, hide ⟨HN.out, fun q => absurd q hlt⟩, hide (HPr.out.keep (drewN_below wr nq))⟩
          case rest =>
            obtain ⟨k, hk, rfl, HN, HP9⟩ := hcut
            clear HP8
            have HINS : Hid (insH D.hold ⟨c.id, c.fr, c.to, c.am⟩ = D.hold.take k ++ ([⟨c.id, c.fr, c.to, c.am⟩] ++ D.hold.drop k)) := hide (insH_at hk HN.out.1 HN.out.2)
            obtain ⟨i0, hi0, hz0, hz1, hz2⟩ := info_parts infoHld
            have hk' : (k : Int) ≤ (D.hold.length : Int) := by omega
            have hkc : (k : Int) ≤ (p.ch : Int) := by have := HK.out.h.room; omega
            have HFT : Hid (((D.hold.take k).flatMap hldCells).length = k * 4) := hide (by rw [flat_len hldCells 4 hldLen]; simp; omega)
            have HFD : Hid (((D.hold.drop k).flatMap hldCells).length = (D.hold.length - k) * 4) := hide (by rw [flat_len hldCells 4 hldLen]; simp)
            go_upto_region 13 with fail
            go_cut [10] from 71 to 76 (fun v wx => Hid (Pool [] w [[blk w.heap.size (ledC p D)], [blk (w.heap.size + 1) c.cells], [blk (w.heap.size + 1 + 1) [.slice none 0 0, .slice none 0 0, .slice none 0 0]], [orow 4 accCells aa ca D.acc], [orow 4 hldCells ha ch D.hold], [orow 2 snCells sa cs D.seen], [blk w7.heap.size [.slice aa D.acc.length ca, .slice ha D.hold.length ch, .slice sa D.seen.length cs]], [row 53 4 v k ((D.hold.take k).flatMap hldCells)], []] wx))
            case first =>
              have d1 := ((HP9.out.newRow (i := 7) rfl 53 4).blkAt (i := 0) rfl).c 1 _ rfl
              rcases Option.eq_none_or_eq_some p.ha with hha | ⟨ad, hha⟩
              · skip
                have e0 : D.hold.length = 0 := row_none HL.out.hold.row hha
                have ec : p.ch = 0 := HK.out.h.nocap hha
                obtain rfl : k = 0 := by omega
                rw [hha, e0, ec] at d1
                have HE0 : Hid _ := hide e0
                clear hha e0 ec hk' hkc hk
                go_wp2_with (first | (at_builtin; refine Shut2.mk ?_) | fail)
                refine Shut2.mk' ?_
                refine name_list (fun Y hY => ?_)
                have HY : Hid (Pool [] w [[blk w.heap.size (ledC p D)], [blk (w.heap.size + 1) c.cells], [blk (w.heap.size + 1 + 1) [.slice none 0 0, .slice none 0 0, .slice none 0 0]], [orow 4 accCells aa ca D.acc], [orow 4 hldCells ha ch D.hold], [orow 2 snCells sa cs D.seen], [blk w7.heap.size [.slice aa D.acc.length ca, .slice ha D.hold.length ch, .slice sa D.seen.length cs]], [row 53 4 (.slice (some ⟨wc.heap.size, 0, none⟩) 0 0) 0 []], []] Y) := hide (by rw [hY]; exact HP9.out.newRow (i := 7) rfl 53 4)
                clear hY
                refine wpList_append_pool HY.out (i0 := 7) rfl rfl _ _ 25 rfl i0 _ 48 Tryz.underlying25 hi0 hz0 hz1 hz2 rfl (by decide) rfl none 0 0 [] rfl rfl (fun _ => ⟨rfl, rfl⟩) (fun ad q => by cases q) (fun u hu => by cases hu) (by unfold maxLen; omega) (by omega) ?_
                intro v2 y2 hp2
                have HP2 : Hid _ := hide hp2
                clear hp2
                go_wp2_with fail
                go_meet
                exact HP2
              · skip
                obtain ⟨b2, off2, rfl⟩ := HK.out.h.near ad hha
                have HHA : Hid _ := hide hha
                rw [hha] at d1
                clear hha
                go_wp2_with (first | (at_builtin; refine Shut2.mk ?_) | fail)
                refine Shut2.mk' ?_
                refine name_list (fun Y hY => ?_)
                have HY : Hid (Pool [] w [[blk w.heap.size (ledC p D)], [blk (w.heap.size + 1) c.cells], [blk (w.heap.size + 1 + 1) [.slice none 0 0, .slice none 0 0, .slice none 0 0]], [orow 4 accCells aa ca D.acc], [orow 4 hldCells ha ch D.hold], [orow 2 snCells sa cs D.seen], [blk w7.heap.size [.slice aa D.acc.length ca, .slice ha D.hold.length ch, .slice sa D.seen.length cs]], [row 53 4 (.slice (some ⟨wc.heap.size, 0, none⟩) 0 0) 0 []], []] Y) := hide (by rw [hY]; exact HP9.out.newRow (i := 7) rfl 53 4)
                clear hY
                refine wpList_append_pool HY.out (i0 := 7) rfl rfl _ _ 25 rfl i0 _ 48 Tryz.underlying25 hi0 hz0 hz1 hz2 rfl (by decide) rfl (some ⟨b2, off2, none⟩) k p.ch ((D.hold.take k).flatMap hldCells) rfl HFT.out (fun e => by cases e) (RowAt.news_any hldLen (by decide) ((by have q := HL.out.hold.row; rw [HHA.out] at q; exact (q.take k).below HY.out.below))) (hld_one _) (by unfold maxLen; omega) (by omega) ?_
                intro v2 y2 hp2
                have HP2 : Hid (Pool [] w [[blk w.heap.size (ledC p D)], [blk (w.heap.size + 1) c.cells], [blk (w.heap.size + 1 + 1) [.slice none 0 0, .slice none 0 0, .slice none 0 0]], [orow 4 accCells aa ca D.acc], [orow 4 hldCells ha ch D.hold], [orow 2 snCells sa cs D.seen], [blk w7.heap.size [.slice aa D.acc.length ca, .slice ha D.hold.length ch, .slice sa D.seen.length cs]], [row 53 4 v2 k ((D.hold.take k).flatMap hldCells)], []] y2) := hide (by rw [Nat.zero_add, List.nil_append] at hp2; exact hp2)
                clear hp2
                go_wp2_with fail
                go_meet
                exact HP2
            case rest =>
              skip
              have HP3 : Hid _ := hcut
              clear hcut HP9
              have c0 := (HP3.out.blkAt (i := 1) rfl).c 0 _ rfl
              have c2 := (HP3.out.blkAt (i := 1) rfl).c 2 _ rfl
              have c3 := (HP3.out.blkAt (i := 1) rfl).c 3 _ rfl
              have c4 := (HP3.out.blkAt (i := 1) rfl).c 4 _ rfl
              go_wp2_with (first | (at_builtin; refine Shut2.mk ?_) | fail)
              refine Shut2.mk' ?_
              refine name_list (fun Y hY => ?_)
              have HY : Hid (Pool [] w [[blk w.heap.size (ledC p D)], [blk (w.heap.size + 1) c.cells], [blk (w.heap.size + 1 + 1) [.slice none 0 0, .slice none 0 0, .slice none 0 0]], [orow 4 accCells aa ca D.acc], [orow 4 hldCells ha ch D.hold], [orow 2 snCells sa cs D.seen], [blk w7.heap.size [.slice aa D.acc.length ca, .slice ha D.hold.length ch, .slice sa D.seen.length cs]], [row 53 4 u10 k ((D.hold.take k).flatMap hldCells)], [blk wc.heap.size (hldCells ⟨c.id, c.fr, c.to, c.am⟩)]] Y) := hide (by rw [hY]; exact HP3.out.newBlk (i := 8) rfl (hldCells ⟨c.id, c.fr, c.to, c.am⟩) 53)
              clear hY
              refine wpList_append_pool HY.out (i0 := 7) rfl rfl _ _ 25 rfl i0 _ 48 Tryz.underlying25 hi0 hz0 hz1 hz2 rfl (by decide) rfl (some ⟨wc.heap.size, 0, none⟩) 1 1 (hldCells ⟨c.id, c.fr, c.to, c.am⟩) rfl rfl (fun e => by cases e) (blk_news (HY.out.blkAt (i := 8) rfl)) (hld_one1 _) (by unfold maxLen; omega) (by omega) ?_
              intro v4 y4 hp4
              have HP4 : Hid (Pool [] w [[blk w.heap.size (ledC p D)], [blk (w.heap.size + 1) c.cells], [blk (w.heap.size + 1 + 1) [.slice none 0 0, .slice none 0 0, .slice none 0 0]], [orow 4 accCells aa ca D.acc], [orow 4 hldCells ha ch D.hold], [orow 2 snCells sa cs D.seen], [blk w7.heap.size [.slice aa D.acc.length ca, .slice ha D.hold.length ch, .slice sa D.seen.length cs]], [row 53 4 v4 (k + 1) ((D.hold.take k).flatMap hldCells ++ hldCells ⟨c.id, c.fr, c.to, c.am⟩)], []] y4) := hide (hp4.drop (i := 8) rfl)
              clear hp4 HY c0 c2 c3 c4
              go_upto_region 15 with fail
              go_cut [] from 89 to 95 (fun wx => Hid (∃ v5, Pool [] w [[blk w.heap.size (ledC p D)], [blk (w.heap.size + 1) c.cells], [blk (w.heap.size + 1 + 1) [.slice none 0 0, .slice none 0 0, .slice none 0 0]], [orow 4 accCells aa ca D.acc], [orow 4 hldCells ha ch D.hold], [orow 2 snCells sa cs D.seen], [blk w7.heap.size [.slice aa D.acc.length ca, v5, .slice sa D.seen.length cs]], [row 53 4 v5 (D.hold.length + 1) ((insH D.hold ⟨c.id, c.fr, c.to, c.am⟩).flatMap hldCells)], []] wx))
              case first =>
                have d1 := (HP4.out.blkAt (i := 0) rfl).c 1 _ rfl
                rcases Option.eq_none_or_eq_some p.ha with hha | ⟨ad, hha⟩
                · have e0 : D.hold.length = 0 := row_none HL.out.hold.row hha
                  have ec : p.ch = 0 := HK.out.h.nocap hha
                  obtain rfl : k = 0 := by omega
                  rw [hha, e0, ec] at d1
                  have HE0 : Hid _ := hide e0
                  have HHA : Hid _ := hide hha
                  clear hha ec hk' hkc hk
                  clear e0
                  go_wp2_with (first | (at_builtin; refine Shut2.mk ?_) | fail)
                  refine Shut2.mk' ?_
                  refine wpList_append_pool HP4.out (i0 := 7) rfl rfl _ _ 25 rfl i0 _ 48 Tryz.underlying25 hi0 hz0 hz1 hz2 rfl (by decide) rfl none 0 0 [] rfl rfl (fun _ => ⟨rfl, rfl⟩) (fun ad q => by cases q) (fun u hu => by cases hu) (by unfold maxLen; omega) (by omega) ?_
                  intro v5 y5 hp5
                  have HP5' : Hid (Pool [] w [[blk w.heap.size (ledC p D)], [blk (w.heap.size + 1) c.cells], [blk (w.heap.size + 1 + 1) [.slice none 0 0, .slice none 0 0, .slice none 0 0]], [orow 4 accCells aa ca D.acc], [orow 4 hldCells ha ch D.hold], [orow 2 snCells sa cs D.seen], [blk w7.heap.size [.slice aa D.acc.length ca, .slice ha D.hold.length ch, .slice sa D.seen.length cs]], [row 53 4 v5 (D.hold.length + 1) ((insH D.hold ⟨c.id, c.fr, c.to, c.am⟩).flatMap hldCells)], []] y5) := hide (by
                    rw [HINS.out]
                    have e1 : D.hold = [] := List.length_eq_zero_iff.1 HE0.out
                    rw [e1] at hp5 ⊢
                    simpa using hp5)
                  clear hp5
                  obtain ⟨a5, k5, e5⟩ := row_shape (HP5'.out.rowAt (i := 7) rfl)
                  subst e5
                  have m1 := (HP5'.out.blkAt (i := 6) rfl).c 1 _ rfl
                  have fm1 := (HP5'.out.blkAt (i := 6) rfl).f 1
                  go_wp2_with fail
                  go_meet
                  exact hide ⟨_, HP5'.out.setBlk (i := 6) rfl 1 _ (by simp)⟩
                · obtain ⟨b2, off2, rfl⟩ := HK.out.h.near ad hha
                  have HHA : Hid _ := hide hha
                  rw [hha] at d1
                  clear hha
                  by_cases hlt : k < D.hold.length
                  · have hlt' : (k : Int) < (D.hold.length : Int) := by omega
                    have hkc2 : (k : Int) < (p.ch : Int) := by have := HK.out.h.room; omega
                    go_wp2_with (first | (at_builtin; refine Shut2.mk ?_) | fail)
                    refine Shut2.mk' ?_
                    refine wpList_append_pool HP4.out (i0 := 7) rfl rfl _ _ 25 rfl i0 _ 48 Tryz.underlying25 hi0 hz0 hz1 hz2 rfl (by decide) rfl (some ⟨b2, off2 + k * 4, none⟩) (D.hold.length - k) (p.ch - k) ((D.hold.drop k).flatMap hldCells) rfl HFD.out (fun e => by cases e) (RowAt.news_any hldLen (by decide) (by have q := HL.out.hold.row; rw [HHA.out] at q; exact (q.drop k).below HP4.out.below)) (hld_one _) (by unfold maxLen; omega) (by omega) ?_
                    intro v5 y5 hp5
                    have HP5' : Hid (Pool [] w [[blk w.heap.size (ledC p D)], [blk (w.heap.size + 1) c.cells], [blk (w.heap.size + 1 + 1) [.slice none 0 0, .slice none 0 0, .slice none 0 0]], [orow 4 accCells aa ca D.acc], [orow 4 hldCells ha ch D.hold], [orow 2 snCells sa cs D.seen], [blk w7.heap.size [.slice aa D.acc.length ca, .slice ha D.hold.length ch, .slice sa D.seen.length cs]], [row 53 4 v5 (D.hold.length + 1) ((insH D.hold ⟨c.id, c.fr, c.to, c.am⟩).flatMap hldCells)], []] y5) := hide (by
                      rw [HINS.out]
                      have e1 : k + 1 + (D.hold.length - k) = D.hold.length + 1 := by omega
                      rw [e1] at hp5
                      simpa [List.append_assoc] using hp5)
                    clear hp5
                    obtain ⟨a5, k5, e5⟩ := row_shape (HP5'.out.rowAt (i := 7) rfl)
                    subst e5
                    have m1 := (HP5'.out.blkAt (i := 6) rfl).c 1 _ rfl
                    have fm1 := (HP5'.out.blkAt (i := 6) rfl).f 1
                    go_wp2_with fail
                    go_meet
                    exact hide ⟨_, HP5'.out.setBlk (i := 6) rfl 1 _ (by simp)⟩
                  · have hkl : D.hold.length = k := by omega
                    have HKL : Hid _ := hide hkl
                    have hd : D.hold.drop k = [] := List.drop_of_length_le (by omega)
                    have HDR : Hid _ := hide hd
                    clear hd
                    by_cases hck : p.ch = k
                    · have HCK : Hid _ := hide hck
                      rw [hkl, hck] at d1
                      clear hkl hlt hck hk' hkc
                      go_wp2_with (first | (at_builtin; refine Shut2.mk ?_) | fail)
                      refine Shut2.mk' ?_
                      refine wpList_append_pool HP4.out (i0 := 7) rfl rfl _ _ 25 rfl i0 _ 48 Tryz.underlying25 hi0 hz0 hz1 hz2 rfl (by decide) rfl (some ⟨b2, off2, none⟩) 0 0 [] rfl rfl (fun e => by cases e) (fun ad _ j u hj => by cases hj) (fun u hu => by cases hu) (by unfold maxLen; omega) (by omega) ?_
                      intro v5 y5 hp5
                      have HP5' : Hid (Pool [] w [[blk w.heap.size (ledC p D)], [blk (w.heap.size + 1) c.cells], [blk (w.heap.size + 1 + 1) [.slice none 0 0, .slice none 0 0, .slice none 0 0]], [orow 4 accCells aa ca D.acc], [orow 4 hldCells ha ch D.hold], [orow 2 snCells sa cs D.seen], [blk w7.heap.size [.slice aa D.acc.length ca, .slice ha D.hold.length ch, .slice sa D.seen.length cs]], [row 53 4 v5 (D.hold.length + 1) ((insH D.hold ⟨c.id, c.fr, c.to, c.am⟩).flatMap hldCells)], []] y5) := hide (by
                        have e1 : k + 1 + 0 = D.hold.length + 1 := by have := HKL.out; omega
                        rw [HINS.out, HDR.out]
                        rw [e1] at hp5
                        simpa [List.append_assoc] using hp5)
                      clear hp5
                      obtain ⟨a5, k5, e5⟩ := row_shape (HP5'.out.rowAt (i := 7) rfl)
                      subst e5
                      have m1 := (HP5'.out.blkAt (i := 6) rfl).c 1 _ rfl
                      have fm1 := (HP5'.out.blkAt (i := 6) rfl).f 1
                      go_wp2_with fail
                      go_meet
                      exact hide ⟨_, HP5'.out.setBlk (i := 6) rfl 1 _ (by simp)⟩
                    · have hkc2 : (k : Int) < (p.ch : Int) := by omega
                      rw [hkl] at d1
                      clear hkl hlt
                      go_wp2_with (first | (at_builtin; refine Shut2.mk ?_) | fail)
                      refine Shut2.mk' ?_
                      refine wpList_append_pool HP4.out (i0 := 7) rfl rfl _ _ 25 rfl i0 _ 48 Tryz.underlying25 hi0 hz0 hz1 hz2 rfl (by decide) rfl (some ⟨b2, off2 + k * 4, none⟩) 0 (p.ch - k) [] rfl rfl (fun e => by cases e) (fun ad _ j u hj => by cases hj) (fun u hu => by cases hu) (by unfold maxLen; omega) (by omega) ?_
                      intro v5 y5 hp5
                      have HP5' : Hid (Pool [] w [[blk w.heap.size (ledC p D)], [blk (w.heap.size + 1) c.cells], [blk (w.heap.size + 1 + 1) [.slice none 0 0, .slice none 0 0, .slice none 0 0]], [orow 4 accCells aa ca D.acc], [orow 4 hldCells ha ch D.hold], [orow 2 snCells sa cs D.seen], [blk w7.heap.size [.slice aa D.acc.length ca, .slice ha D.hold.length ch, .slice sa D.seen.length cs]], [row 53 4 v5 (D.hold.length + 1) ((insH D.hold ⟨c.id, c.fr, c.to, c.am⟩).flatMap hldCells)], []] y5) := hide (by
                        have e1 : k + 1 + 0 = D.hold.length + 1 := by have := HKL.out; omega
                        rw [HINS.out, HDR.out]
                        rw [e1] at hp5
                        simpa [List.append_assoc] using hp5)
                      clear hp5
                      obtain ⟨a5, k5, e5⟩ := row_shape (HP5'.out.rowAt (i := 7) rfl)
                      subst e5
                      have m1 := (HP5'.out.blkAt (i := 6) rfl).c 1 _ rfl
                      have fm1 := (HP5'.out.blkAt (i := 6) rfl).f 1
                      go_wp2_with fail
                      go_meet
                      exact hide ⟨_, HP5'.out.setBlk (i := 6) rfl 1 _ (by simp)⟩
              case rest =>
                obtain ⟨v5, hp6⟩ := hcut.out
                obtain ⟨N, hN⟩ : ∃ N, N = insH D.hold ⟨c.id, c.fr, c.to, c.am⟩ := ⟨_, rfl⟩
                have hNl : N.length = D.hold.length + 1 := by rw [hN, insH_len]
                rw [← hN, ← hNl] at hp6
                obtain ⟨a9, c9, e9, s9, hp7⟩ := hp6.toOrow hldLen (i := 7) rfl
                subst e9
                have HPA : Hid (Pool [] w [[blk w.heap.size (ledC p D)], [blk (w.heap.size + 1) c.cells], [blk (w.heap.size + 1 + 1) [.slice none 0 0, .slice none 0 0, .slice none 0 0]], [orow 4 accCells aa ca D.acc], [orow 4 hldCells ha ch D.hold], [orow 2 snCells sa cs D.seen], [blk w7.heap.size [.slice aa D.acc.length ca, .slice a9 N.length c9, .slice sa D.seen.length cs]], [orow 4 hldCells a9 c9 N], []] wc) := hide hp7
                have HNN : Hid _ := hide hN
                have HSN : Hid (SmallH N) := hide ⟨by rw [hNl]; have := HRM.out; omega, fun y hy => by
                  rw [hN] at hy
                  rcases insH_mem hy with rfl | hy
                  · exact HC.out.am
                  · exact HN2.out.2 y hy⟩
                have HNW : Hid (∀ y ∈ N, HldW y) := hide (fun y hy => by
                  rw [hN] at hy
                  rcases insH_mem hy with rfl | hy
                  · exact ⟨HC.out.nf, HC.out.nt, HC.out.id, by have := HC.out.am; exact ⟨by show (_ : Int) ≤ c.am; omega, by show c.am ≤ _; omega⟩⟩
                  · exact HL.out.hold.wf y hy)
                have HHM : Hid (holdM D i c = if 1000000000000 < heldL c.fr N then (D, 8) else if keepsB D.acc N i then (⟨D.acc, N, D.seen⟩, 0) else (D, 7)) := hide (by rw [hN]; rfl)
                have HNL : Hid _ := hide hNl
                clear hcut hp6 hp7 hN HP4 hNl
                have m0 := (HPA.out.blkAt (i := 6) rfl).c 0 _ rfl
                have m1 := (HPA.out.blkAt (i := 6) rfl).c 1 _ rfl
                have m2 := (HPA.out.blkAt (i := 6) rfl).c 2 _ rfl
                have c2 := (HPA.out.blkAt (i := 1) rfl).c 2 _ rfl
                go_wp2_with fail
                refine (l2Held_any a9 N c9 _ _ c.fr wc HSN.out ((HPA.out.orowAt (i := 7) rfl).rows.hold HNW.out)).mono ?_
                rintro e w8 ⟨rfl, hb8⟩
                have HPB : Hid _ := hide (HPA.out.keep hb8)
                clear hb8 HPA m0 m1 m2 c2
                by_cases hbig : (1000000000000 : Int) < heldL c.fr N
                · have HM2 : Hid (moveM D c = (D, 8)) := hide (by rw [HM.out, HHM.out, if_pos hbig])
                  have d0 := (HPB.out.blkAt (i := 0) rfl).c 0 _ rfl
                  have d1 := (HPB.out.blkAt (i := 0) rfl).c 1 _ rfl
                  have d2 := (HPB.out.blkAt (i := 0) rfl).c 2 _ rfl
                  have r0 := (HPB.out.blkAt (i := 2) rfl).c 0 _ rfl
                  have fr0 := (HPB.out.blkAt (i := 2) rfl).f 0
                  have r1 := (HPB.out.blkAt (i := 2) rfl).c 1 _ rfl
                  have fr1 := (HPB.out.blkAt (i := 2) rfl).f 1
                  have r2 := (HPB.out.blkAt (i := 2) rfl).c 2 _ rfl
                  have fr2 := (HPB.out.blkAt (i := 2) rfl).f 2
                  have HQ : Hid _ := hide (((HPB.out.setBlk (i := 2) rfl 0 (.slice p.aa D.acc.length p.ca) (by simp)).setBlk (i := 2) rfl 1 (.slice p.ha D.hold.length p.ch) (by simp)).setBlk (i := 2) rfl 2 (.slice p.sa D.seen.length p.cs) (by simp))
                  go_wp2
                  refine name_post9 (fun W9 hW9 => ?_)
                  have hq := HQ.out
                  rw [← hW9] at hq
                  have z_ := hq.blkAt (i := 2) rfl
                  have g0_ := z_.c 0 _ rfl
                  have g1_ := z_.c 1 _ rfl
                  have g2_ := z_.c 2 _ rfl
                  exact bodyPost_ret (v := .tuple #[.agg #[.slice p.aa D.acc.length p.ca, .slice p.ha D.hold.length p.ch, .slice p.sa D.seen.length p.cs], .int .i64 (8)]) (by simp [results, Tryz.results104, go_sem, g0_, g1_, g2_]) rfl ⟨p, by rw [HM2.out]; rfl, hq.below, fun _ => rfl, fun q => by rw [HM2.out] at q; cases q⟩
                · have HBG : Hid _ := hide hbig
                  have m0 := (HPB.out.blkAt (i := 6) rfl).c 0 _ rfl
                  have m1 := (HPB.out.blkAt (i := 6) rfl).c 1 _ rfl
                  have m2 := (HPB.out.blkAt (i := 6) rfl).c 2 _ rfl
                  go_wp2_with fail
                  refine (l2Within_any aa a9 D.acc N ca c9 _ i w8 hi hn1 HSN.out ((HPB.out.orowAt (i := 3) rfl).rows.acc HL.out.acc.wf) ((HPB.out.orowAt (i := 7) rfl).rows.hold HNW.out) (HLI.out _ (List.getElem_mem hi))).mono ?_
                  rintro e w9 ⟨rfl, hb9⟩
                  have HPC : Hid _ := hide (HPB.out.keep hb9)
                  have hkp : keepsB D.acc N i = withinB (D.acc[i]) (heldL (D.acc[i]).name N) := by simp [keepsB, List.getElem?_eq_getElem hi]
                  have HKP : Hid _ := hide hkp
                  clear hb9 HPB m0 m1 m2 hkp
                  cases qk : withinB (D.acc[i]) (heldL (D.acc[i]).name N)
                  · have HM2 : Hid (moveM D c = (D, 7)) := hide (by rw [HM.out, HHM.out, if_neg (Int.not_lt.2 HBG.out), HKP.out, qk]; rfl)
                    have d0 := (HPC.out.blkAt (i := 0) rfl).c 0 _ rfl
                    have d1 := (HPC.out.blkAt (i := 0) rfl).c 1 _ rfl
                    have d2 := (HPC.out.blkAt (i := 0) rfl).c 2 _ rfl
                    have r0 := (HPC.out.blkAt (i := 2) rfl).c 0 _ rfl
                    have fr0 := (HPC.out.blkAt (i := 2) rfl).f 0
                    have r1 := (HPC.out.blkAt (i := 2) rfl).c 1 _ rfl
                    have fr1 := (HPC.out.blkAt (i := 2) rfl).f 1
                    have r2 := (HPC.out.blkAt (i := 2) rfl).c 2 _ rfl
                    have fr2 := (HPC.out.blkAt (i := 2) rfl).f 2
                    have HQ : Hid _ := hide (((HPC.out.setBlk (i := 2) rfl 0 (.slice p.aa D.acc.length p.ca) (by simp)).setBlk (i := 2) rfl 1 (.slice p.ha D.hold.length p.ch) (by simp)).setBlk (i := 2) rfl 2 (.slice p.sa D.seen.length p.cs) (by simp))
                    go_wp2
                    refine name_post9 (fun W9 hW9 => ?_)
                    have hq := HQ.out
                    rw [← hW9] at hq
                    have z_ := hq.blkAt (i := 2) rfl
                    have g0_ := z_.c 0 _ rfl
                    have g1_ := z_.c 1 _ rfl
                    have g2_ := z_.c 2 _ rfl
                    exact bodyPost_ret (v := .tuple #[.agg #[.slice p.aa D.acc.length p.ca, .slice p.ha D.hold.length p.ch, .slice p.sa D.seen.length p.cs], .int .i64 (7)]) (by simp [results, Tryz.results104, go_sem, g0_, g1_, g2_]) rfl ⟨p, by rw [HM2.out]; rfl, hq.below, fun _ => rfl, fun q => by rw [HM2.out] at q; cases q⟩
                  · have HM2 : Hid (moveM D c = (⟨D.acc, N, D.seen⟩, 0)) := hide (by rw [HM.out, HHM.out, if_neg (Int.not_lt.2 HBG.out), HKP.out, qk]; rfl)
                    have m0 := (HPC.out.blkAt (i := 6) rfl).c 0 _ rfl
                    have m1 := (HPC.out.blkAt (i := 6) rfl).c 1 _ rfl
                    have m2 := (HPC.out.blkAt (i := 6) rfl).c 2 _ rfl
                    have r0 := (HPC.out.blkAt (i := 2) rfl).c 0 _ rfl
                    have fr0 := (HPC.out.blkAt (i := 2) rfl).f 0
                    have r1 := (HPC.out.blkAt (i := 2) rfl).c 1 _ rfl
                    have fr1 := (HPC.out.blkAt (i := 2) rfl).f 1
                    have r2 := (HPC.out.blkAt (i := 2) rfl).c 2 _ rfl
                    have fr2 := (HPC.out.blkAt (i := 2) rfl).f 2
                    have HQ : Hid _ := hide (((HPC.out.setBlk (i := 2) rfl 0 (.slice aa D.acc.length ca) (by simp)).setBlk (i := 2) rfl 1 (.slice a9 N.length c9) (by simp)).setBlk (i := 2) rfl 2 (.slice sa D.seen.length cs) (by simp))
                    go_wp2
                    refine name_post9 (fun W9 hW9 => ?_)
                    have hq := HQ.out
                    rw [← hW9] at hq
                    have z_ := hq.blkAt (i := 2) rfl
                    have g0_ := z_.c 0 _ rfl
                    have g1_ := z_.c 1 _ rfl
                    have g2_ := z_.c 2 _ rfl
                    exact bodyPost_ret (v := .tuple #[.agg #[.slice aa D.acc.length ca, .slice a9 N.length c9, .slice sa D.seen.length cs], .int .i64 (0)]) (by simp [results, Tryz.results104, go_sem, g0_, g1_, g2_]) rfl ⟨⟨aa, ca, a9, c9, sa, cs⟩, by rw [HM2.out]; rfl, hq.below, fun q => by rw [HM2.out] at q; exact absurd rfl q, fun _ => by
                      rw [HM2.out]
                      exact ⟨⟨HQK.out.a, s9, HQK.out.s⟩, ((((((hq.drop (i := 6) rfl).drop (i := 4) rfl).drop (i := 2) rfl).drop (i := 1) rfl).drop (i := 0) rfl).perm (by
                        simp only [ledL, List.set_cons_succ, List.set_cons_zero, List.flatten_cons, List.flatten_nil, List.append_nil, List.nil_append, List.cons_append]
                        exact List.Perm.cons _ (List.Perm.swap _ _ _)))⟩⟩
    · have HM : Hid (moveM D c = (D, 5)) := hide (by unfold moveM; rw [ei, ej])
      have hi0 : ¬ (i : Int) < 0 := by omega
      clear ei ej
      have HQ : Hid _ := hide (((HP5.out.setBlk (i := 2) rfl 0 (.slice p.aa D.acc.length p.ca) (by simp)).setBlk (i := 2) rfl 1 (.slice p.ha D.hold.length p.ch) (by simp)).setBlk (i := 2) rfl 2 (.slice p.sa D.seen.length p.cs) (by simp))
      go_wp2
      refine name_post9 (fun W9 hW9 => ?_)
      have hq := HQ.out
      rw [← hW9] at hq
      have z_ := hq.blkAt (i := 2) rfl
      have g0_ := z_.c 0 _ rfl
      have g1_ := z_.c 1 _ rfl
      have g2_ := z_.c 2 _ rfl
      exact bodyPost_ret (v := .tuple #[.agg #[.slice p.aa D.acc.length p.ca, .slice p.ha D.hold.length p.ch, .slice p.sa D.seen.length p.cs], .int .i64 5]) (by simp [results, Tryz.results104, go_sem, g0_, g1_, g2_]) rfl ⟨p, by rw [HM.out]; simp only [ledV], hq.below, fun _ => rfl, fun q => by rw [HM.out] at q; cases q⟩
  · have HM : Hid (moveM D c = (D, 5)) := hide (by unfold moveM; rw [ei])
    clear ei
    have HQ : Hid _ := hide (((HP5.out.setBlk (i := 2) rfl 0 (.slice p.aa D.acc.length p.ca) (by simp)).setBlk (i := 2) rfl 1 (.slice p.ha D.hold.length p.ch) (by simp)).setBlk (i := 2) rfl 2 (.slice p.sa D.seen.length p.cs) (by simp))
    go_wp2
    refine name_post9 (fun W9 hW9 => ?_)
    have hq := HQ.out
    rw [← hW9] at hq
    have z_ := hq.blkAt (i := 2) rfl
    have g0_ := z_.c 0 _ rfl
    have g1_ := z_.c 1 _ rfl
    have g2_ := z_.c 2 _ rfl
    exact bodyPost_ret (v := .tuple #[.agg #[.slice p.aa D.acc.length p.ca, .slice p.ha D.hold.length p.ch, .slice p.sa D.seen.length p.cs], .int .i64 5]) (by simp [results, Tryz.results104, go_sem, g0_, g1_, g2_]) rfl ⟨p, by rw [HM.out]; simp only [ledV], hq.below, fun _ => rfl, fun q => by rw [HM.out] at q; cases q⟩
end Go.Proofs.YteaopalhbnhbaaaGreatDoor
