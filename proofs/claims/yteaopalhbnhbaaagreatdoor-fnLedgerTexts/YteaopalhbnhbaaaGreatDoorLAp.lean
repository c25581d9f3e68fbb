/- The model's Applied. -/
import Derived.Test.YteaopalhbnhbaaaGreatDoorLEn
import Derived.Test.YteaopalhbnhbaaaGreatDoorGe
namespace Go.Proofs.YteaopalhbnhbaaaGreatDoor
open Go.ChangeShapes Go.WideShapes Go.ChangeAt Go.RowKit
set_option linter.unusedVariables false
set_option maxRecDepth 100000
theorem rises_at {l : List Int} {m : Nat} (h : m + 1 < l.length) : risesB l (m + 1) = decide (l[m] < l[m + 1]) := by
  simp [risesB, List.getD, List.getElem?_eq_getElem h, List.getElem?_eq_getElem (show m < l.length by omega)]
theorem risesB_all {l : List Int} (h : ∀ k, k < l.length → risesB l k = true) : ∀ i j (hi : i < l.length) (hj : j < l.length), i < j → l[i] < l[j] := by
  intro i j hi hj hij
  induction j with
  | zero => omega
  | succ j ih =>
    have h1 := h (j + 1) hj
    rw [rises_at hj] at h1
    have h2 : l[j] < l[j + 1] := of_decide_eq_true h1
    rcases Nat.lt_or_ge i j with q | q
    · have := ih (by omega) q; omega
    · obtain rfl : i = j := by omega
      exact h2
/-- what a right ledger has -/
structure LedOk (D : Led) : Prop where
  a : SmallA D.acc
  h : SmallH D.hold
  s : D.seen.length ≤ 40
  lim : ∀ x ∈ D.acc, -1 ≤ x.limit ∧ x.limit ≤ 1000000000000
  en : EnOk D
  codes : ∀ x ∈ D.seen, (1 ≤ x.id ∧ x.id ≤ 1000000000) ∧ (x.code = 0 ∨ (4 ≤ x.code ∧ x.code ≤ 9))
  up : (D.seen.map Sn.id).Pairwise (· < ·)
theorem led_ok {D : Led} (k : ledS D = true) : LedOk D := by
  unfold ledS at k
  simp only [Bool.and_eq_true, decide_eq_true_eq] at k
  obtain ⟨⟨⟨⟨⟨⟨k1, k2⟩, k3⟩, k4⟩, k5⟩, k6⟩, k7⟩ := k
  have hold : ∀ i (hi : i < D.hold.length), inB 1 1000000000 (D.hold[i]).id = true ∧ risesB (D.hold.map Hld.id) i = true ∧ pairB D (D.hold[i]) = true := fun i hi => by
    have q := allTo_get k5 hi
    rw [holdB_at hi] at q
    simp only [Bool.and_eq_true] at q
    exact ⟨q.1.1, q.1.2, q.2⟩
  have seen : ∀ i (hi : i < D.seen.length), inB 1 1000000000 (D.seen[i]).id = true ∧ risesB (D.seen.map Sn.id) i = true ∧ (decide ((D.seen[i]).code = 0) || inB 4 9 (D.seen[i]).code) = true := fun i hi => by
    have q := allTo_get k7 hi
    rw [ansB_at hi] at q
    simp only [Bool.and_eq_true] at q
    exact ⟨q.1.1, q.1.2, q.2⟩
  refine ⟨smallA_of k1 k4, smallH_of k2 k5, k3, fun x hx => ?_, ⟨?_, fun x hx => ?_, fun x hx => ?_⟩, fun x hx => ?_, ?_⟩
  · obtain ⟨i, hi, rfl⟩ := List.mem_iff_getElem.1 hx
    have q := allTo_get k6 hi
    rw [accB_at hi] at q
    simp only [Bool.and_eq_true] at q
    exact inB_iff.1 q.1.1.1.2
  · rw [List.pairwise_iff_getElem]
    exact risesB_all (fun i hi => (hold i (by simpa using hi)).2.1)
  · obtain ⟨i, hi, rfl⟩ := List.mem_iff_getElem.1 hx
    exact (inB_iff.1 (hold i hi).1).1
  · obtain ⟨i, hi, rfl⟩ := List.mem_iff_getElem.1 hx
    have q := (hold i hi).2.2
    cases e1 : idxA D.acc (D.hold[i]).fr with
    | none => rw [pairB_none1 e1] at q; cases q
    | some a =>
      cases e2 : idxA D.acc (D.hold[i]).to with
      | none => rw [pairB_none2 e2] at q; cases q
      | some b => exact ⟨a, b, rfl, rfl⟩
  · obtain ⟨i, hi, rfl⟩ := List.mem_iff_getElem.1 hx
    have q := seen i hi
    refine ⟨inB_iff.1 q.1, ?_⟩
    have q2 := q.2.2
    simp only [Bool.or_eq_true, decide_eq_true_eq, inB_iff] at q2
    exact q2
  · rw [List.pairwise_iff_getElem]
    exact risesB_all (fun i hi => (seen i (by simpa using hi)).2.1)
theorem nameB_sz {s : ByteArray} (h : nameB s = true) : s.size ≤ maxLen := by
  unfold nameB at h
  simp only [Bool.and_eq_true, decide_eq_true_eq] at h
  unfold maxLen
  omega
theorem mv_ok {D : Led} {c : Cm} (hc : c.B = true) (hk : c.kind = 2 ∨ c.kind = 3) (hf : fullB D c = false) (hd : D.hold.length ≤ 10) : MvOk D c := by
  unfold Cm.B cmdB at hc
  rw [if_neg (by omega), if_pos hk] at hc
  simp only [Bool.and_eq_true, inB_iff] at hc
  refine ⟨nameB_sz hc.2.1.1.1.1, nameB_sz hc.2.1.1.1.2, ⟨by omega, hc.2.1.2.2⟩, ⟨by omega, by omega⟩, fun h2 => ?_⟩
  have h3 : c.kind = 3 := by omega
  simp only [fullB, Bool.or_eq_false_iff, Bool.and_eq_false_iff, decide_eq_false_iff_not] at hf
  rcases hf.2 with q | q
  · exact absurd h3 q
  · have := q.1; omega
/-- a refusal leaves the ledger -/
theorem payM_no {L : Led} {i j : Nat} {am : Int} (h : (payM L i j am).2 ≠ 0) : (payM L i j am).1 = L := by
  unfold payM at h ⊢
  split
  · rename_i q; rw [if_pos q] at h
    split
    · rename_i q2; rw [if_pos q2] at h; exact absurd rfl h
    · rfl
  · rfl
theorem doM_no {D : Led} {c : Cm} (h : (doM D c).2 ≠ 0) : (doM D c).1 = D := by
  unfold doM at h ⊢
  split
  · rename_i q; rw [if_pos q] at h
    unfold openM at h ⊢
    split
    · rfl
    · rename_i e; rw [e] at h; exact absurd rfl h
  · rename_i q; rw [if_neg q] at h
    split
    · rename_i q2; rw [if_pos q2] at h
      unfold moveM at h ⊢
      split
      · rename_i e1 e2
        rw [e1, e2] at h
        simp only at h
        split
        · rename_i q3; rw [if_pos q3] at h
          split
          · rename_i q4; rw [if_pos q4] at h; exact payM_no h
          · rename_i q4; rw [if_neg q4] at h
            unfold holdM at h ⊢
            split
            · rfl
            · rename_i q5; rw [if_neg q5] at h
              split
              · rename_i q6; rw [if_pos q6] at h; exact absurd rfl h
              · rfl
        · rfl
      · rfl
    · rename_i q2; rw [if_neg q2] at h
      unfold endM at h ⊢
      split
      · rfl
      · rename_i g e
        rw [e] at h
        simp only at h
        split
        · rename_i q3; rw [if_pos q3] at h; exact absurd rfl h
        · rename_i q3; rw [if_neg q3] at h
          split
          · rename_i e1 e2
            rw [e1, e2] at h
            simp only at h
            split
            · rename_i q4; rw [if_pos q4] at h; exact absurd rfl h
            · rfl
          · rfl
theorem l2See_row (sa : Option Addr) (l : List Sn) (sc : Nat) (id code : Int) (w : World) (hl : l.length ≤ 1048576) (hs : SlOk sa sc l.length) (h : RowAt 2 snCells w sa l) :
    Calls Tryz.prog 106 #[.slice sa l.length sc, .int .i64 id, .int .i64 code] w fun e w' => SeeEnd l id code w e w' := by
  cases sa with
  | none =>
    have h0 : l = [] := List.length_eq_zero_iff.1 (row_none h rfl)
    subst h0
    obtain rfl : sc = 0 := hs.nocap rfl
    exact l2See_nil id code w
  | some x =>
    obtain ⟨b, off, rfl⟩ := hs.near x rfl
    exact l2See_any b off l sc id code w hl hs.room h
theorem Pool.newRowOf {F : List Nat} {w x y : World} {S : List (List Rs)} (h : Pool F w S x) {i : Nat} (hi : S[i]? = some []) {T : TypeId} {sz n : Nat} {v : Value} {xs : List Value} (hb : Below x.heap.size x y) (ho : y.ownsRow x.heap.size T sz v n xs) : Pool F w (S.set i [row T sz v n xs]) y :=
  h.new hi hb (Star.ofRow ho) (fun c hc => by
    rw [fps_one, row_fp, Option.mem_toList] at hc
    exact (ho.lt c hc).1)
theorem PlOk.led {q : LP} {D : Led} {x : World} (hw : LedW D) (h : Star (ledL q D) x) : LedAt x q.aa q.ha q.sa D :=
  ⟨(h.get (r := orow 4 accCells q.aa q.ca D.acc) (by simp [ledL])).2.rows.acc hw.acc, (h.get (r := orow 4 hldCells q.ha q.ch D.hold) (by simp [ledL])).2.rows.hold hw.hold, (h.get (r := orow 2 snCells q.sa q.cs D.seen) (by simp [ledL])).2.rows.ans hw.seen⟩
set_option maxHeartbeats 16000000 in
theorem l2Applied_any (p : LP) (D : Led) (c : Cm) (w : World) (hled : ledS D = true) (hcf : c.fr.size ≤ maxLen) (hct : c.to.size ≤ maxLen) (hpk : PlOk p D) (h : LedAt w p.aa p.ha p.sa D) :
    Calls Tryz.prog 85 #[ledV p D, c.v] w fun e w' => ApplEnd (applM D c) w e w' := by
  have HL : Hid _ := hide h
  have HK : Hid _ := hide hpk
  have HO : Hid _ := hide (led_ok hled)
  have HLS : Hid _ := hide hled
  have hn1 : D.acc.length ≤ 12 := (led_ok hled).a.1
  have hn2 : D.hold.length ≤ 10 := (led_ok hled).h.1
  have hn3 : D.seen.length ≤ 40 := (led_ok hled).s
  obtain ⟨W3, hW3⟩ : ∃ W3, W3 = ((w.alloc (.cells #[.slice p.aa D.acc.length p.ca, .slice p.ha D.hold.length p.ch, .slice p.sa D.seen.length p.cs] 28)).alloc (.cells #[.int .i64 c.id, .int .i64 c.kind, .string c.fr, .string c.to, .int .i64 c.am, .int .i64 c.ref] 83)).alloc (.cells #[.slice none 0 0, .slice none 0 0, .slice none 0 0] 28) := ⟨_, rfl⟩
  have HP0 : Hid (Pool [] w [[blk w.heap.size (ledC p D)], [blk (w.heap.size + 1) c.cells], [blk (w.heap.size + 1 + 1) [.slice none 0 0, .slice none 0 0, .slice none 0 0]], [], [], []] W3) := hide (by
    have p1 := (Pool.start w [[], [], [], [], [], []] rfl).newBlk (i := 0) rfl (ledC p D) 28
    have s1 : (w.alloc (.cells (ledC p D).toArray 28)).heap.size = w.heap.size + 1 := by simp
    have p2 := p1.newBlk (i := 1) rfl c.cells 83
    have s2 : ((w.alloc (.cells (ledC p D).toArray 28)).alloc (.cells c.cells.toArray 83)).heap.size = w.heap.size + 1 + 1 := by simp
    have p3 := p2.newBlk (i := 2) rfl [.slice none 0 0, .slice none 0 0, .slice none 0 0] 28
    rw [s2, s1] at p3
    rw [hW3]
    exact p3)
  have HW3 : Hid (_ = W3) := hide hW3.symm
  clear hW3 h hpk hled
  unfold ledV Cm.v
  go_enter Tryz.func85, Tryz.ntmps85
  go_upto_region 1 with fail
  rw [HW3.out]
  have d0 := (HP0.out.blkAt (i := 0) rfl).c 0 _ rfl
  have d1 := (HP0.out.blkAt (i := 0) rfl).c 1 _ rfl
  have d2 := (HP0.out.blkAt (i := 0) rfl).c 2 _ rfl
  have c0 := (HP0.out.blkAt (i := 1) rfl).c 0 _ rfl
  have c1 := (HP0.out.blkAt (i := 1) rfl).c 1 _ rfl
  have c2 := (HP0.out.blkAt (i := 1) rfl).c 2 _ rfl
  have c3 := (HP0.out.blkAt (i := 1) rfl).c 3 _ rfl
  have c4 := (HP0.out.blkAt (i := 1) rfl).c 4 _ rfl
  have c5 := (HP0.out.blkAt (i := 1) rfl).c 5 _ rfl
  go_wp2_with fail
  refine (l2Copy_any p D W3 (by omega) (by omega) (by omega) HK.out (HL.out.below HP0.out.below)).mono ?_
  rintro e w4 ⟨q, rfl, hqk, hp4⟩
  have HQK : Hid _ := hide hqk
  have HP4 : Hid (Pool [] w [[blk w.heap.size (ledC p D)], [blk (w.heap.size + 1) c.cells], [blk (w.heap.size + 1 + 1) [.slice none 0 0, .slice none 0 0, .slice none 0 0]], [], ledL q D, []] w4) := hide (HP0.out.call (i := 4) rfl (rs' := ledL q D) (hp4.cast (by simp)))
  clear hqk hp4 HP0 d0 d1 d2 c0 c1 c2 c3 c4 c5
  unfold ledV
  go_upto_region 2 with fail
  refine name_world9 (fun W5 hW5 => ?_)
  have HP5 : Hid (Pool [] w [[blk w.heap.size (ledC p D)], [blk (w.heap.size + 1) c.cells], [blk (w.heap.size + 1 + 1) [.slice none 0 0, .slice none 0 0, .slice none 0 0]], [blk w4.heap.size (ledC q D)], ledL q D, []] W5) := hide (by rw [hW5]; exact HP4.out.newBlk (i := 3) rfl (ledC q D) 28)
  clear hW5 HP4
  have c0 := (HP5.out.blkAt (i := 1) rfl).c 0 _ rfl
  have c1 := (HP5.out.blkAt (i := 1) rfl).c 1 _ rfl
  have c2 := (HP5.out.blkAt (i := 1) rfl).c 2 _ rfl
  have c3 := (HP5.out.blkAt (i := 1) rfl).c 3 _ rfl
  have c4 := (HP5.out.blkAt (i := 1) rfl).c 4 _ rfl
  have c5 := (HP5.out.blkAt (i := 1) rfl).c 5 _ rfl
  go_wp2_with fail
  refine (specCommandOk_any c.id c.kind c.fr c.to c.am c.ref W5 hcf hct).mono ?_
  rintro e w6 ⟨rfl, hk6⟩
  have HP6 : Hid (Pool [] w [[blk w.heap.size (ledC p D)], [blk (w.heap.size + 1) c.cells], [blk (w.heap.size + 1 + 1) [.slice none 0 0, .slice none 0 0, .slice none 0 0]], [blk w4.heap.size (ledC q D)], ledL q D, []] w6) := hide (HP5.out.keep hk6.below)
  clear hk6 HP5 c0 c1 c2 c3 c4 c5
  cases hcb : cmdB c.id c.kind c.fr c.to c.am c.ref
  · have HM : Hid (applM D c = (D, 2)) := hide (by unfold applM; rw [HLS.out, show c.B = false from hcb]; rfl)
    have m0 := (HP6.out.blkAt (i := 3) rfl).c 0 _ rfl
    have m1 := (HP6.out.blkAt (i := 3) rfl).c 1 _ rfl
    have m2 := (HP6.out.blkAt (i := 3) rfl).c 2 _ rfl
    have r0 := (HP6.out.blkAt (i := 2) rfl).c 0 _ rfl
    have fr0 := (HP6.out.blkAt (i := 2) rfl).f 0
    have r1 := (HP6.out.blkAt (i := 2) rfl).c 1 _ rfl
    have fr1 := (HP6.out.blkAt (i := 2) rfl).f 1
    have r2 := (HP6.out.blkAt (i := 2) rfl).c 2 _ rfl
    have fr2 := (HP6.out.blkAt (i := 2) rfl).f 2
    have HQ : Hid _ := hide (((HP6.out.setBlk (i := 2) rfl 0 (.slice q.aa D.acc.length q.ca) (by simp)).setBlk (i := 2) rfl 1 (.slice q.ha D.hold.length q.ch) (by simp)).setBlk (i := 2) rfl 2 (.slice q.sa D.seen.length q.cs) (by simp))
    go_wp2
    refine name_post9 (fun W9 hW9 => ?_)
    have hq := HQ.out
    rw [← hW9] at hq
    have z_ := hq.blkAt (i := 2) rfl
    have g0_ := z_.c 0 _ rfl
    have g1_ := z_.c 1 _ rfl
    have g2_ := z_.c 2 _ rfl
    exact bodyPost_ret (v := .tuple #[.agg #[.slice q.aa D.acc.length q.ca, .slice q.ha D.hold.length q.ch, .slice q.sa D.seen.length q.cs], .int .i64 (2)]) (by simp [results, Tryz.results85, go_sem, g0_, g1_, g2_]) rfl ⟨q, by rw [HM.out]; rfl, by rw [HM.out]; exact HQK.out, by
      rw [HM.out]
      exact ((((hq.drop (i := 3) rfl).drop (i := 2) rfl).drop (i := 1) rfl).drop (i := 0) rfl).cast (by simp)⟩
  · have HCB : Hid (c.B = true) := hide hcb
    have d2 := (HP6.out.blkAt (i := 0) rfl).c 2 _ rfl
    have c0 := (HP6.out.blkAt (i := 1) rfl).c 0 _ rfl
    go_wp2_with fail
    refine (l2Seen_any p.sa D.seen p.cs c.id w6 (by omega) (HL.out.seen.row.below HP6.out.below)).mono ?_
    rintro e w7 ⟨rfl, hb7⟩
    have HP7 : Hid (Pool [] w [[blk w.heap.size (ledC p D)], [blk (w.heap.size + 1) c.cells], [blk (w.heap.size + 1 + 1) [.slice none 0 0, .slice none 0 0, .slice none 0 0]], [blk w4.heap.size (ledC q D)], ledL q D, []] w7) := hide (by rw [hb7]; exact HP6.out)
    clear hb7 HP6 d2 c0
    by_cases hs : 0 ≤ seenV D.seen c.id
    · have HM : Hid (applM D c = (D, seenV D.seen c.id)) := hide (by unfold applM; rw [HLS.out, HCB.out, if_neg (by decide), if_neg (by decide), if_pos hs])
      have hs' : (0 : Int) ≤ seenV D.seen c.id := hs
      have m0 := (HP7.out.blkAt (i := 3) rfl).c 0 _ rfl
      have m1 := (HP7.out.blkAt (i := 3) rfl).c 1 _ rfl
      have m2 := (HP7.out.blkAt (i := 3) rfl).c 2 _ rfl
      have r0 := (HP7.out.blkAt (i := 2) rfl).c 0 _ rfl
      have fr0 := (HP7.out.blkAt (i := 2) rfl).f 0
      have r1 := (HP7.out.blkAt (i := 2) rfl).c 1 _ rfl
      have fr1 := (HP7.out.blkAt (i := 2) rfl).f 1
      have r2 := (HP7.out.blkAt (i := 2) rfl).c 2 _ rfl
      have fr2 := (HP7.out.blkAt (i := 2) rfl).f 2
      have HQ : Hid _ := hide (((HP7.out.setBlk (i := 2) rfl 0 (.slice q.aa D.acc.length q.ca) (by simp)).setBlk (i := 2) rfl 1 (.slice q.ha D.hold.length q.ch) (by simp)).setBlk (i := 2) rfl 2 (.slice q.sa D.seen.length q.cs) (by simp))
      go_wp2
      refine name_post9 (fun W9 hW9 => ?_)
      have hq := HQ.out
      rw [← hW9] at hq
      have z_ := hq.blkAt (i := 2) rfl
      have g0_ := z_.c 0 _ rfl
      have g1_ := z_.c 1 _ rfl
      have g2_ := z_.c 2 _ rfl
      exact bodyPost_ret (v := .tuple #[.agg #[.slice q.aa D.acc.length q.ca, .slice q.ha D.hold.length q.ch, .slice q.sa D.seen.length q.cs], .int .i64 (seenV D.seen c.id)]) (by simp [results, Tryz.results85, go_sem, g0_, g1_, g2_]) rfl ⟨q, by rw [HM.out]; rfl, by rw [HM.out]; exact HQK.out, by
        rw [HM.out]
        exact ((((hq.drop (i := 3) rfl).drop (i := 2) rfl).drop (i := 1) rfl).drop (i := 0) rfl).cast (by simp)⟩
    · have HNS : Hid (seenV D.seen c.id < 0) := hide (by omega)
      have hs' : ¬ (0 : Int) ≤ seenV D.seen c.id := hs
      go_upto_region 7 with fail
      go_cut [55] from 24 to 55 (fun t wx => t = .bool (fullB D c) ∧ Hid (Pool [] w [[blk w.heap.size (ledC p D)], [blk (w.heap.size + 1) c.cells], [blk (w.heap.size + 1 + 1) [.slice none 0 0, .slice none 0 0, .slice none 0 0]], [blk w4.heap.size (ledC q D)], ledL q D, []] wx))
      case first =>
        have d0 := (HP7.out.blkAt (i := 0) rfl).c 0 _ rfl
        have d1 := (HP7.out.blkAt (i := 0) rfl).c 1 _ rfl
        have d2 := (HP7.out.blkAt (i := 0) rfl).c 2 _ rfl
        have c0 := (HP7.out.blkAt (i := 1) rfl).c 0 _ rfl
        have c1 := (HP7.out.blkAt (i := 1) rfl).c 1 _ rfl
        have c2 := (HP7.out.blkAt (i := 1) rfl).c 2 _ rfl
        have c3 := (HP7.out.blkAt (i := 1) rfl).c 3 _ rfl
        have c4 := (HP7.out.blkAt (i := 1) rfl).c 4 _ rfl
        have c5 := (HP7.out.blkAt (i := 1) rfl).c 5 _ rfl
        by_cases s40 : D.seen.length = 40
        · have s40' : ((D.seen.length : Int) == 40) = true := by simp; omega
          have HF : Hid (fullB D c = true) := hide (by simp [fullB, s40])
          go_wp2_with fail
          go_meet
          exact ⟨by rw [HF.out], HP7⟩
        · have s40' : ((D.seen.length : Int) == 40) = false := by simp; omega
          by_cases k1 : c.kind = 1
          · have k1' : (c.kind == 1) = true := by simp [k1]
            have k3' : (c.kind == 3) = false := by simp; omega
            by_cases a12 : D.acc.length = 12
            · have a12' : ((D.acc.length : Int) == 12) = true := by simp; omega
              have HF : Hid (fullB D c = true) := hide (by simp [fullB, k1, a12])
              go_wp2_with fail
              go_meet
              exact ⟨by rw [HF.out], HP7⟩
            · have a12' : ((D.acc.length : Int) == 12) = false := by simp; omega
              have HF : Hid (fullB D c = false) := hide (by simp [fullB, k1, a12, s40])
              clear k1 s40 a12
              go_wp2_with fail
              go_meet
              exact ⟨by rw [HF.out], HP7⟩
          · have k1' : (c.kind == 1) = false := by simp [k1]
            by_cases k3 : c.kind = 3
            · have k3' : (c.kind == 3) = true := by simp [k3]
              by_cases h10 : D.hold.length = 10
              · have h10' : ((D.hold.length : Int) == 10) = true := by simp; omega
                have HF : Hid (fullB D c = true) := hide (by simp [fullB, k3, h10])
                go_wp2_with fail
                go_meet
                exact ⟨by rw [HF.out], HP7⟩
              · have h10' : ((D.hold.length : Int) == 10) = false := by simp; omega
                have HF : Hid (fullB D c = D.hold.any (fun h => h.id == c.id)) := hide (by simp [fullB, k3, h10, s40])
                clear k1 k3 s40 h10
                go_wp2_with fail
                have hco := l2HasHold_any p D c.id w7 (by omega) (HL.out.hold.below HP7.out.below)
                unfold ledV at hco
                refine hco.mono ?_
                rintro e w8 ⟨rfl, hb8⟩
                have HP8 : Hid (Pool [] w [[blk w.heap.size (ledC p D)], [blk (w.heap.size + 1) c.cells], [blk (w.heap.size + 1 + 1) [.slice none 0 0, .slice none 0 0, .slice none 0 0]], [blk w4.heap.size (ledC q D)], ledL q D, []] w8) := hide (HP7.out.keep hb8)
                clear hco hb8 HP7
                go_wp2_with fail
                go_meet
                exact ⟨by rw [HF.out], HP8⟩
            · have k3' : (c.kind == 3) = false := by simp [k3]
              have HF : Hid (fullB D c = false) := hide (by simp [fullB, k1, k3, s40])
              clear k1 k3 s40
              go_wp2_with fail
              go_meet
              exact ⟨by rw [HF.out], HP7⟩
      case rest =>
        obtain ⟨rfl, HP8⟩ := hcut
        clear HP7
        cases hfl : fullB D c
        · have HFL : Hid _ := hide hfl
          obtain ⟨R, hR⟩ : ∃ R, R = doM D c := ⟨_, rfl⟩
          have HR : Hid _ := hide hR
          have HRN : Hid (R.2 ≠ 0 → R.1 = D) := hide (fun z => by rw [hR] at z ⊢; exact doM_no z)
          clear hR
          have k1_ := (HP8.out.blkAt (i := 1) rfl).c 1 _ rfl
          go_upto_block 0 with fail
          clear k1_
          obtain ⟨wd, hwd⟩ : ∃ wd, wd = wc := ⟨_, rfl⟩
          rw [← hwd]
          rw [← hwd] at HP8
          clear hwd
          go_cut [8] from 59 to 81 (fun cv wx => cv = .int .i64 R.2 ∧ Hid (∃ q2, PlOk q2 R.1 ∧ Pool [] w [[blk w.heap.size (ledC p D)], [blk (w.heap.size + 1) c.cells], [blk (w.heap.size + 1 + 1) [.slice none 0 0, .slice none 0 0, .slice none 0 0]], [blk w4.heap.size (ledC q2 R.1)], ledL q2 R.1, []] wx))
          case first =>
            have d_ : True := trivial
            have m0 := (HP8.out.blkAt (i := 3) rfl).c 0 _ rfl
            have m1 := (HP8.out.blkAt (i := 3) rfl).c 1 _ rfl
            have m2 := (HP8.out.blkAt (i := 3) rfl).c 2 _ rfl
            have c0 := (HP8.out.blkAt (i := 1) rfl).c 0 _ rfl
            have c1 := (HP8.out.blkAt (i := 1) rfl).c 1 _ rfl
            have c2 := (HP8.out.blkAt (i := 1) rfl).c 2 _ rfl
            have c3 := (HP8.out.blkAt (i := 1) rfl).c 3 _ rfl
            have c4 := (HP8.out.blkAt (i := 1) rfl).c 4 _ rfl
            have c5 := (HP8.out.blkAt (i := 1) rfl).c 5 _ rfl
            by_cases k1 : c.kind = 1
            · have k1' : (c.kind == 1) = true := by simp [k1]
              have HRK : Hid (R = openM D c) := hide (by rw [HR.out]; unfold doM; rw [if_pos k1])
              have HOD : Hid (R.1.hold = D.hold ∧ R.1.seen = D.seen) := hide (by rw [HRK.out]; unfold openM; split <;> exact ⟨rfl, rfl⟩)
              clear k1
              go_wp2_with fail
              have hco := l2Open_any q D c wd (by omega) (PlOk.led HL.out.wf (HP8.out.get (i := 4) rfl))
              unfold OpenEnd at hco
              rw [← HRK.out] at hco
              unfold ledV Cm.v at hco
              clear d_
              refine hco.mono ?_
              rintro e w9 ⟨a, k, rfl, hb9, hne, heq⟩
              clear hco m0 m1 m2 c0 c1 c2 c3 c4 c5
              have HNE : Hid _ := hide hne
              have HEQ : Hid _ := hide heq
              clear hne heq
              by_cases hz : R.2 = 0
              · have HQ9 : Hid _ := hide (HEQ.out hz)
                have HP9 : Hid (Pool [] w [[blk w.heap.size (ledC p D)], [blk (w.heap.size + 1) c.cells], [blk (w.heap.size + 1 + 1) [.slice none 0 0, .slice none 0 0, .slice none 0 0]], [blk w4.heap.size (ledC q D)], ledL q D, [orow 4 accCells a k R.1.acc]] w9) := hide (HP8.out.call (i := 5) rfl (rs' := [orow 4 accCells a k R.1.acc]) (HQ9.out.2.cast (by simp)))
                have HOM : Hid (R.1.hold = D.hold ∧ R.1.seen = D.seen) := hide HOD.out
                clear hb9 hz HP8
                have m0 := (HP9.out.blkAt (i := 3) rfl).c 0 _ rfl
                have fm0 := (HP9.out.blkAt (i := 3) rfl).f 0
                have m1 := (HP9.out.blkAt (i := 3) rfl).c 1 _ rfl
                have fm1 := (HP9.out.blkAt (i := 3) rfl).f 1
                have m2 := (HP9.out.blkAt (i := 3) rfl).c 2 _ rfl
                have fm2 := (HP9.out.blkAt (i := 3) rfl).f 2
                have HPZ : Hid _ := hide (((HP9.out.setBlk (i := 3) rfl 0 (.slice a R.1.acc.length k) (by simp [ledC])).setBlk (i := 3) rfl 1 (.slice q.ha D.hold.length q.ch) (by simp [ledC])).setBlk (i := 3) rfl 2 (.slice q.sa D.seen.length q.cs) (by simp [ledC]))
                go_wp2_with fail
                go_meet
                exact ⟨rfl, hide ⟨⟨a, k, q.ha, q.ch, q.sa, q.cs⟩, ⟨HQ9.out.1, by rw [HOM.out.1]; exact HQK.out.h, by rw [HOM.out.2]; exact HQK.out.s⟩, (by
                  have p1 := HPZ.out
                  have p2 : Pool [] w [[blk w.heap.size (ledC p D)], [blk (w.heap.size + 1) c.cells], [blk (w.heap.size + 1 + 1) [.slice none 0 0, .slice none 0 0, .slice none 0 0]], [blk w4.heap.size [.slice a R.1.acc.length k, .slice q.ha D.hold.length q.ch, .slice q.sa D.seen.length q.cs]], [orow 4 accCells q.aa q.ca D.acc], [orow 4 hldCells q.ha q.ch D.hold, orow 2 snCells q.sa q.cs D.seen], [orow 4 accCells a k R.1.acc]] _ := p1.cast (by simp [ledL, ledC])
                  have p3 := p2.drop (i := 4) rfl
                  refine p3.perm ?_
                  simp only [ledL, ledC, HOM.out.1, HOM.out.2, List.set_cons_succ, List.set_cons_zero, List.flatten_cons, List.flatten_nil, List.append_nil, List.nil_append, List.cons_append]
                  exact List.Perm.cons _ (List.Perm.cons _ (List.Perm.cons _ (List.Perm.cons _ ((List.Perm.cons _ (List.Perm.swap _ _ _)).trans (List.Perm.swap _ _ _))))))⟩⟩
              · obtain ⟨ea, ek⟩ := HNE.out hz
                have eR := HRN.out hz
                have HP9 : Hid (Pool [] w [[blk w.heap.size (ledC p D)], [blk (w.heap.size + 1) c.cells], [blk (w.heap.size + 1 + 1) [.slice none 0 0, .slice none 0 0, .slice none 0 0]], [blk w4.heap.size (ledC q D)], ledL q D, []] w9) := hide (HP8.out.keep hb9)
                have HER : Hid _ := hide eR
                have HEA : Hid _ := hide ea
                have HEK : Hid _ := hide ek
                clear hb9 hz HP8 ea ek eR
                have m0 := (HP9.out.blkAt (i := 3) rfl).c 0 _ rfl
                have fm0 := (HP9.out.blkAt (i := 3) rfl).f 0
                have m1 := (HP9.out.blkAt (i := 3) rfl).c 1 _ rfl
                have fm1 := (HP9.out.blkAt (i := 3) rfl).f 1
                have m2 := (HP9.out.blkAt (i := 3) rfl).c 2 _ rfl
                have fm2 := (HP9.out.blkAt (i := 3) rfl).f 2
                have HPZ : Hid _ := hide (((HP9.out.setBlk (i := 3) rfl 0 (.slice a R.1.acc.length k) (by simp [ledC])).setBlk (i := 3) rfl 1 (.slice q.ha D.hold.length q.ch) (by simp [ledC])).setBlk (i := 3) rfl 2 (.slice q.sa D.seen.length q.cs) (by simp [ledC]))
                go_wp2_with fail
                go_meet
                exact ⟨rfl, hide ⟨q, by rw [HER.out]; exact HQK.out, (by
                  have p1 := HPZ.out
                  rw [HEA.out, HEK.out, HER.out] at p1
                  rw [HEA.out, HEK.out, HER.out]
                  exact p1)⟩⟩
            · have k1' : (c.kind == 1) = false := by simp [k1]
              by_cases k2 : c.kind = 2
              · have k2' : (c.kind == 2) = true := by simp [k2]
                have HRK : Hid (R = moveM D c) := hide (by rw [HR.out]; unfold doM; rw [if_neg k1, if_pos (.inl k2)])
                have HMV : Hid _ := hide (mv_ok HCB.out (.inl k2) HFL.out hn2)
                clear k1 k2
                go_wp2_with fail
                have hco := l2Move_any q D c wd HO.out.a HO.out.h (by omega) HO.out.lim HMV.out HQK.out (PlOk.led HL.out.wf (HP8.out.get (i := 4) rfl))
                rw [← HRK.out] at hco
                unfold ledV Cm.v at hco
                clear d_
                refine hco.mono ?_
                rintro e w9 ⟨q2, rfl, hb9, hne, heq⟩
                clear hco m0 m1 m2 c0 c1 c2 c3 c4 c5
                have HNE : Hid _ := hide hne
                have HEQ : Hid _ := hide heq
                clear hne heq
                unfold ledV
                by_cases hz : R.2 = 0
                · have HQ9 : Hid _ := hide (HEQ.out hz)
                  have HP9 : Hid (Pool [] w [[blk w.heap.size (ledC p D)], [blk (w.heap.size + 1) c.cells], [blk (w.heap.size + 1 + 1) [.slice none 0 0, .slice none 0 0, .slice none 0 0]], [blk w4.heap.size (ledC q D)], ledL q D, ledL q2 R.1] w9) := hide (HP8.out.call (i := 5) rfl (rs' := ledL q2 R.1) (HQ9.out.2.cast (by simp)))
                  clear hb9 hz HP8
                  have m0 := (HP9.out.blkAt (i := 3) rfl).c 0 _ rfl
                  have fm0 := (HP9.out.blkAt (i := 3) rfl).f 0
                  have m1 := (HP9.out.blkAt (i := 3) rfl).c 1 _ rfl
                  have fm1 := (HP9.out.blkAt (i := 3) rfl).f 1
                  have m2 := (HP9.out.blkAt (i := 3) rfl).c 2 _ rfl
                  have fm2 := (HP9.out.blkAt (i := 3) rfl).f 2
                  have HPZ : Hid _ := hide (((HP9.out.setBlk (i := 3) rfl 0 (.slice q2.aa R.1.acc.length q2.ca) (by simp [ledC])).setBlk (i := 3) rfl 1 (.slice q2.ha R.1.hold.length q2.ch) (by simp [ledC])).setBlk (i := 3) rfl 2 (.slice q2.sa R.1.seen.length q2.cs) (by simp [ledC]))
                  go_wp2_with fail
                  go_meet
                  exact ⟨rfl, hide ⟨q2, HQ9.out.1, (by
                    have p1 := HPZ.out.drop (i := 4) rfl
                    exact p1.cast (by simp [ledC]))⟩⟩
                · have eq2 := HNE.out hz
                  have eR := HRN.out hz
                  have HP9 : Hid (Pool [] w [[blk w.heap.size (ledC p D)], [blk (w.heap.size + 1) c.cells], [blk (w.heap.size + 1 + 1) [.slice none 0 0, .slice none 0 0, .slice none 0 0]], [blk w4.heap.size (ledC q D)], ledL q D, []] w9) := hide (HP8.out.keep hb9)
                  have HEQ2 : Hid _ := hide eq2
                  have HER : Hid _ := hide eR
                  clear hb9 hz HP8 eq2 eR
                  have m0 := (HP9.out.blkAt (i := 3) rfl).c 0 _ rfl
                  have fm0 := (HP9.out.blkAt (i := 3) rfl).f 0
                  have m1 := (HP9.out.blkAt (i := 3) rfl).c 1 _ rfl
                  have fm1 := (HP9.out.blkAt (i := 3) rfl).f 1
                  have m2 := (HP9.out.blkAt (i := 3) rfl).c 2 _ rfl
                  have fm2 := (HP9.out.blkAt (i := 3) rfl).f 2
                  have HPZ : Hid _ := hide (((HP9.out.setBlk (i := 3) rfl 0 (.slice q2.aa R.1.acc.length q2.ca) (by simp [ledC])).setBlk (i := 3) rfl 1 (.slice q2.ha R.1.hold.length q2.ch) (by simp [ledC])).setBlk (i := 3) rfl 2 (.slice q2.sa R.1.seen.length q2.cs) (by simp [ledC]))
                  go_wp2_with fail
                  go_meet
                  exact ⟨rfl, hide ⟨q, by rw [HER.out]; exact HQK.out, (by
                    have p1 := HPZ.out
                    rw [HEQ2.out, HER.out] at p1
                    rw [HEQ2.out, HER.out]
                    exact p1)⟩⟩
              · have k2' : (c.kind == 2) = false := by simp [k2]
                by_cases k3 : c.kind = 3
                · have k3' : (c.kind == 3) = true := by simp [k3]
                  have HRK : Hid (R = moveM D c) := hide (by rw [HR.out]; unfold doM; rw [if_neg k1, if_pos (.inr k3)])
                  have HMV : Hid _ := hide (mv_ok HCB.out (.inr k3) HFL.out hn2)
                  clear k1 k2 k3
                  go_wp2_with fail
                  have hco := l2Move_any q D c wd HO.out.a HO.out.h (by omega) HO.out.lim HMV.out HQK.out (PlOk.led HL.out.wf (HP8.out.get (i := 4) rfl))
                  rw [← HRK.out] at hco
                  unfold ledV Cm.v at hco
                  clear d_
                  refine hco.mono ?_
                  rintro e w9 ⟨q2, rfl, hb9, hne, heq⟩
                  clear hco m0 m1 m2 c0 c1 c2 c3 c4 c5
                  have HNE : Hid _ := hide hne
                  have HEQ : Hid _ := hide heq
                  clear hne heq
                  unfold ledV
                  by_cases hz : R.2 = 0
                  · have HQ9 : Hid _ := hide (HEQ.out hz)
                    have HP9 : Hid (Pool [] w [[blk w.heap.size (ledC p D)], [blk (w.heap.size + 1) c.cells], [blk (w.heap.size + 1 + 1) [.slice none 0 0, .slice none 0 0, .slice none 0 0]], [blk w4.heap.size (ledC q D)], ledL q D, ledL q2 R.1] w9) := hide (HP8.out.call (i := 5) rfl (rs' := ledL q2 R.1) (HQ9.out.2.cast (by simp)))
                    clear hb9 hz HP8
                    have m0 := (HP9.out.blkAt (i := 3) rfl).c 0 _ rfl
                    have fm0 := (HP9.out.blkAt (i := 3) rfl).f 0
                    have m1 := (HP9.out.blkAt (i := 3) rfl).c 1 _ rfl
                    have fm1 := (HP9.out.blkAt (i := 3) rfl).f 1
                    have m2 := (HP9.out.blkAt (i := 3) rfl).c 2 _ rfl
                    have fm2 := (HP9.out.blkAt (i := 3) rfl).f 2
                    have HPZ : Hid _ := hide (((HP9.out.setBlk (i := 3) rfl 0 (.slice q2.aa R.1.acc.length q2.ca) (by simp [ledC])).setBlk (i := 3) rfl 1 (.slice q2.ha R.1.hold.length q2.ch) (by simp [ledC])).setBlk (i := 3) rfl 2 (.slice q2.sa R.1.seen.length q2.cs) (by simp [ledC]))
                    go_wp2_with fail
                    go_meet
                    exact ⟨rfl, hide ⟨q2, HQ9.out.1, (by
                      have p1 := HPZ.out.drop (i := 4) rfl
                      exact p1.cast (by simp [ledC]))⟩⟩
                  · have eq2 := HNE.out hz
                    have eR := HRN.out hz
                    have HP9 : Hid (Pool [] w [[blk w.heap.size (ledC p D)], [blk (w.heap.size + 1) c.cells], [blk (w.heap.size + 1 + 1) [.slice none 0 0, .slice none 0 0, .slice none 0 0]], [blk w4.heap.size (ledC q D)], ledL q D, []] w9) := hide (HP8.out.keep hb9)
                    have HEQ2 : Hid _ := hide eq2
                    have HER : Hid _ := hide eR
                    clear hb9 hz HP8 eq2 eR
                    have m0 := (HP9.out.blkAt (i := 3) rfl).c 0 _ rfl
                    have fm0 := (HP9.out.blkAt (i := 3) rfl).f 0
                    have m1 := (HP9.out.blkAt (i := 3) rfl).c 1 _ rfl
                    have fm1 := (HP9.out.blkAt (i := 3) rfl).f 1
                    have m2 := (HP9.out.blkAt (i := 3) rfl).c 2 _ rfl
                    have fm2 := (HP9.out.blkAt (i := 3) rfl).f 2
                    have HPZ : Hid _ := hide (((HP9.out.setBlk (i := 3) rfl 0 (.slice q2.aa R.1.acc.length q2.ca) (by simp [ledC])).setBlk (i := 3) rfl 1 (.slice q2.ha R.1.hold.length q2.ch) (by simp [ledC])).setBlk (i := 3) rfl 2 (.slice q2.sa R.1.seen.length q2.cs) (by simp [ledC]))
                    go_wp2_with fail
                    go_meet
                    exact ⟨rfl, hide ⟨q, by rw [HER.out]; exact HQK.out, (by
                      have p1 := HPZ.out
                      rw [HEQ2.out, HER.out] at p1
                      rw [HEQ2.out, HER.out]
                      exact p1)⟩⟩
                · have k3' : (c.kind == 3) = false := by simp [k3]
                  have HRK : Hid (R = endM D c) := hide (by rw [HR.out]; unfold doM; rw [if_neg k1, if_neg (fun z => by rcases z with z | z; exact k2 z; exact k3 z)])
                  clear k1 k2 k3
                  go_wp2_with fail
                  have hco := l2End_any q D c wd HO.out.a HO.out.h (by omega) HO.out.lim HO.out.en HQK.out (PlOk.led HL.out.wf (HP8.out.get (i := 4) rfl))
                  rw [← HRK.out] at hco
                  unfold ledV Cm.v at hco
                  clear d_
                  refine hco.mono ?_
                  rintro e w9 ⟨q2, rfl, hb9, hne, heq⟩
                  clear hco m0 m1 m2 c0 c1 c2 c3 c4 c5
                  have HNE : Hid _ := hide hne
                  have HEQ : Hid _ := hide heq
                  clear hne heq
                  unfold ledV
                  by_cases hz : R.2 = 0
                  · have HQ9 : Hid _ := hide (HEQ.out hz)
                    have HP9 : Hid (Pool [] w [[blk w.heap.size (ledC p D)], [blk (w.heap.size + 1) c.cells], [blk (w.heap.size + 1 + 1) [.slice none 0 0, .slice none 0 0, .slice none 0 0]], [blk w4.heap.size (ledC q D)], ledL q D, ledL q2 R.1] w9) := hide (HP8.out.call (i := 5) rfl (rs' := ledL q2 R.1) (HQ9.out.2.cast (by simp)))
                    clear hb9 hz HP8
                    have m0 := (HP9.out.blkAt (i := 3) rfl).c 0 _ rfl
                    have fm0 := (HP9.out.blkAt (i := 3) rfl).f 0
                    have m1 := (HP9.out.blkAt (i := 3) rfl).c 1 _ rfl
                    have fm1 := (HP9.out.blkAt (i := 3) rfl).f 1
                    have m2 := (HP9.out.blkAt (i := 3) rfl).c 2 _ rfl
                    have fm2 := (HP9.out.blkAt (i := 3) rfl).f 2
                    have HPZ : Hid _ := hide (((HP9.out.setBlk (i := 3) rfl 0 (.slice q2.aa R.1.acc.length q2.ca) (by simp [ledC])).setBlk (i := 3) rfl 1 (.slice q2.ha R.1.hold.length q2.ch) (by simp [ledC])).setBlk (i := 3) rfl 2 (.slice q2.sa R.1.seen.length q2.cs) (by simp [ledC]))
                    go_wp2_with fail
                    go_meet
                    exact ⟨rfl, hide ⟨q2, HQ9.out.1, (by
                      have p1 := HPZ.out.drop (i := 4) rfl
                      exact p1.cast (by simp [ledC]))⟩⟩
                  · have eq2 := HNE.out hz
                    have eR := HRN.out hz
                    have HP9 : Hid (Pool [] w [[blk w.heap.size (ledC p D)], [blk (w.heap.size + 1) c.cells], [blk (w.heap.size + 1 + 1) [.slice none 0 0, .slice none 0 0, .slice none 0 0]], [blk w4.heap.size (ledC q D)], ledL q D, []] w9) := hide (HP8.out.keep hb9)
                    have HEQ2 : Hid _ := hide eq2
                    have HER : Hid _ := hide eR
                    clear hb9 hz HP8 eq2 eR
                    have m0 := (HP9.out.blkAt (i := 3) rfl).c 0 _ rfl
                    have fm0 := (HP9.out.blkAt (i := 3) rfl).f 0
                    have m1 := (HP9.out.blkAt (i := 3) rfl).c 1 _ rfl
                    have fm1 := (HP9.out.blkAt (i := 3) rfl).f 1
                    have m2 := (HP9.out.blkAt (i := 3) rfl).c 2 _ rfl
                    have fm2 := (HP9.out.blkAt (i := 3) rfl).f 2
                    have HPZ : Hid _ := hide (((HP9.out.setBlk (i := 3) rfl 0 (.slice q2.aa R.1.acc.length q2.ca) (by simp [ledC])).setBlk (i := 3) rfl 1 (.slice q2.ha R.1.hold.length q2.ch) (by simp [ledC])).setBlk (i := 3) rfl 2 (.slice q2.sa R.1.seen.length q2.cs) (by simp [ledC]))
                    go_wp2_with fail
                    go_meet
                    exact ⟨rfl, hide ⟨q, by rw [HER.out]; exact HQK.out, (by
                      have p1 := HPZ.out
                      rw [HEQ2.out, HER.out] at p1
                      rw [HEQ2.out, HER.out]
                      exact p1)⟩⟩
          case rest =>
            obtain ⟨rfl, hex⟩ := hcut
            obtain ⟨q2, hq2, hpz⟩ := hex.out
            have HQ2 : Hid _ := hide hq2
            have HPZ : Hid (Pool [] w [[blk w.heap.size (ledC p D)], [blk (w.heap.size + 1) c.cells], [blk (w.heap.size + 1 + 1) [.slice none 0 0, .slice none 0 0, .slice none 0 0]], [blk w4.heap.size (ledC q2 R.1)], ledL q2 R.1, []] wc) := hide hpz
            clear hex hq2 hpz HP8
            have HM : Hid (applM D c = (⟨R.1.acc, R.1.hold, seeL D.seen c.id R.2⟩, R.2)) := hide (by unfold applM; rw [HLS.out, HCB.out, if_neg (by decide), if_neg (by decide), if_neg (Int.not_le.2 HNS.out), HFL.out, ← HR.out]; rfl)
            have d2 := (HPZ.out.blkAt (i := 0) rfl).c 2 _ rfl
            have c0 := (HPZ.out.blkAt (i := 1) rfl).c 0 _ rfl
            go_wp2_with fail
            refine (l2See_row p.sa D.seen p.cs c.id R.2 wc (by omega) HK.out.s (HL.out.seen.row.below HPZ.out.below)).mono ?_
            rintro e w10 ⟨hb10, v10, rfl, ho10⟩
            obtain ⟨N, hN⟩ : ∃ N, N = seeL D.seen c.id R.2 := ⟨_, rfl⟩
            have hNl : N.length = D.seen.length + 1 := by rw [hN, see_len]
            rw [← hN, ← hNl] at ho10
            have HNN : Hid _ := hide hN
            obtain ⟨a9, c9, e9, s9, hp10⟩ := (HPZ.out.newRowOf (i := 5) rfl hb10 ho10).toOrow snLen (i := 5) rfl
            subst e9
            have HPT : Hid (Pool [] w [[blk w.heap.size (ledC p D)], [blk (w.heap.size + 1) c.cells], [blk (w.heap.size + 1 + 1) [.slice none 0 0, .slice none 0 0, .slice none 0 0]], [blk w4.heap.size (ledC q2 R.1)], ledL q2 R.1, [orow 2 snCells a9 c9 N]] w10) := hide hp10
            clear hb10 ho10 hN hNl hp10 HPZ d2 c0
            have m0 := (HPT.out.blkAt (i := 3) rfl).c 0 _ rfl
            have fm0 := (HPT.out.blkAt (i := 3) rfl).f 0
            have m1 := (HPT.out.blkAt (i := 3) rfl).c 1 _ rfl
            have fm1 := (HPT.out.blkAt (i := 3) rfl).f 1
            have m2 := (HPT.out.blkAt (i := 3) rfl).c 2 _ rfl
            have fm2 := (HPT.out.blkAt (i := 3) rfl).f 2
            go_upto_region 18 with fail
            refine name_world9 (fun WE hWE => ?_)
            have HPE : Hid (Pool [] w [[blk w.heap.size (ledC p D)], [blk (w.heap.size + 1) c.cells], [blk (w.heap.size + 1 + 1) [.slice none 0 0, .slice none 0 0, .slice none 0 0]], [blk w4.heap.size [.slice q2.aa R.1.acc.length q2.ca, .slice q2.ha R.1.hold.length q2.ch, .slice a9 N.length c9]], ledL q2 R.1, [orow 2 snCells a9 c9 N]] WE) := hide (by rw [hWE]; exact HPT.out.setBlk (i := 3) rfl 2 (.slice a9 N.length c9) (by simp [ledC]))
            clear hWE HPT m0 m1 m2 fm0 fm1 fm2
            have m0 := (HPE.out.blkAt (i := 3) rfl).c 0 _ rfl
            have m1 := (HPE.out.blkAt (i := 3) rfl).c 1 _ rfl
            have m2 := (HPE.out.blkAt (i := 3) rfl).c 2 _ rfl
            have r0 := (HPE.out.blkAt (i := 2) rfl).c 0 _ rfl
            have fr0 := (HPE.out.blkAt (i := 2) rfl).f 0
            have r1 := (HPE.out.blkAt (i := 2) rfl).c 1 _ rfl
            have fr1 := (HPE.out.blkAt (i := 2) rfl).f 1
            have r2 := (HPE.out.blkAt (i := 2) rfl).c 2 _ rfl
            have fr2 := (HPE.out.blkAt (i := 2) rfl).f 2
            have HQ : Hid _ := hide (((HPE.out.setBlk (i := 2) rfl 0 (.slice q2.aa R.1.acc.length q2.ca) (by simp)).setBlk (i := 2) rfl 1 (.slice q2.ha R.1.hold.length q2.ch) (by simp)).setBlk (i := 2) rfl 2 (.slice a9 N.length c9) (by simp))
            go_wp2
            refine name_post9 (fun W9 hW9 => ?_)
            have hq := HQ.out
            rw [← hW9] at hq
            have z_ := hq.blkAt (i := 2) rfl
            have g0_ := z_.c 0 _ rfl
            have g1_ := z_.c 1 _ rfl
            have g2_ := z_.c 2 _ rfl
            exact bodyPost_ret (v := .tuple #[.agg #[.slice q2.aa R.1.acc.length q2.ca, .slice q2.ha R.1.hold.length q2.ch, .slice a9 N.length c9], .int .i64 (R.2)]) (by simp [results, Tryz.results85, go_sem, g0_, g1_, g2_]) rfl ⟨⟨q2.aa, q2.ca, q2.ha, q2.ch, a9, c9⟩, by rw [HM.out, ← HNN.out]; rfl, by rw [HM.out, ← HNN.out]; exact ⟨HQ2.out.a, HQ2.out.h, s9⟩, by
              rw [HM.out, ← HNN.out]
              have p1 := (((hq.drop (i := 3) rfl).drop (i := 2) rfl).drop (i := 1) rfl).drop (i := 0) rfl
              have p2 : Pool [] w [[orow 4 accCells q2.aa q2.ca R.1.acc, orow 4 hldCells q2.ha q2.ch R.1.hold], [orow 2 snCells q2.sa q2.cs R.1.seen], [orow 2 snCells a9 c9 N]] _ := p1.cast (by simp [ledL])
              exact (p2.drop (i := 1) rfl).cast (by simp [ledL])⟩
        · have HM : Hid (applM D c = (D, 3)) := hide (by unfold applM; rw [HLS.out, HCB.out, if_neg (by decide), if_neg (by decide), if_neg (Int.not_le.2 HNS.out), hfl]; rfl)
          have m0 := (HP8.out.blkAt (i := 3) rfl).c 0 _ rfl
          have m1 := (HP8.out.blkAt (i := 3) rfl).c 1 _ rfl
          have m2 := (HP8.out.blkAt (i := 3) rfl).c 2 _ rfl
          have r0 := (HP8.out.blkAt (i := 2) rfl).c 0 _ rfl
          have fr0 := (HP8.out.blkAt (i := 2) rfl).f 0
          have r1 := (HP8.out.blkAt (i := 2) rfl).c 1 _ rfl
          have fr1 := (HP8.out.blkAt (i := 2) rfl).f 1
          have r2 := (HP8.out.blkAt (i := 2) rfl).c 2 _ rfl
          have fr2 := (HP8.out.blkAt (i := 2) rfl).f 2
          have HQ : Hid _ := hide (((HP8.out.setBlk (i := 2) rfl 0 (.slice q.aa D.acc.length q.ca) (by simp)).setBlk (i := 2) rfl 1 (.slice q.ha D.hold.length q.ch) (by simp)).setBlk (i := 2) rfl 2 (.slice q.sa D.seen.length q.cs) (by simp))
          go_wp2
          refine name_post9 (fun W9 hW9 => ?_)
          have hq := HQ.out
          rw [← hW9] at hq
          have z_ := hq.blkAt (i := 2) rfl
          have g0_ := z_.c 0 _ rfl
          have g1_ := z_.c 1 _ rfl
          have g2_ := z_.c 2 _ rfl
          exact bodyPost_ret (v := .tuple #[.agg #[.slice q.aa D.acc.length q.ca, .slice q.ha D.hold.length q.ch, .slice q.sa D.seen.length q.cs], .int .i64 (3)]) (by simp [results, Tryz.results85, go_sem, g0_, g1_, g2_]) rfl ⟨q, by rw [HM.out]; rfl, by rw [HM.out]; exact HQK.out, by
            rw [HM.out]
            exact ((((hq.drop (i := 3) rfl).drop (i := 2) rfl).drop (i := 1) rfl).drop (i := 0) rfl).cast (by simp)⟩
end Go.Proofs.YteaopalhbnhbaaaGreatDoor
