/- What is collected, as data; the contract of the program's Collect. -/
import Derived.Test.YtfkadhkgpfembaaCTo
import Derived.Test.YtfkadhkgpfembaaIMov
namespace Go.Proofs.Ytfkadhkgpfembaa
open Go.ChangeShapes Go.WideShapes Go.ChangeAt Go.RowKit
set_option linter.unusedVariables false
def colStep (l : List Slt) (to : Int) (st : Int × List Slt) (s : Slt) : Int × List Slt :=
  if s.id = to ∨ min st.1 s.has ≤ 0 then st else (st.1 - min st.1 s.has, st.2 ++ movesL (wayL l s.id to) (min st.1 s.has))
def colK (l : List Slt) (to need : Int) (k : Nat) : Int × List Slt := (l.take k).foldl (colStep l to) (need, [])
theorem colK_next (l : List Slt) (to need : Int) (k : Nat) (h : k < l.length) : colK l to need (k + 1) = colStep l to (colK l to need k) l[k] := by
  unfold colK
  rw [take_next l k h, List.foldl_append]
  rfl
theorem way_len {l : List Slt} (h : rightsB l = true) {p q : Int} (hp : InL l p) (hq : InL l q) : (wayL l p q).length ≤ 2000000001 := by
  have := wayF_len2 h (p.toNat + q.toNat) p q hp hq
  have := hp.pos h
  have := hq.pos h
  unfold wayL
  omega
theorem way_two {l : List Slt} (h : rightsB l = true) {p q : Int} (hp : InL l p) (hq : InL l q) (hne : p ≠ q) : 2 ≤ (wayL l p q).length := by
  have pp := hp.pos h
  have pq := hq.pos h
  obtain ⟨n, hn⟩ : ∃ n, p.toNat + q.toNat = n + 1 := ⟨p.toNat + q.toNat - 1, by omega⟩
  unfold wayL
  rw [hn]
  simp only [wayF]
  split
  · have := len_pos (wayF_ne l n (upL l p) q); simp only [List.length_cons]; omega
  · split
    · have := len_pos (wayF_ne l n p (upL l q)); simp only [List.length_append, List.length_cons, List.length_nil]; omega
    · omega
theorem colK_len {l : List Slt} (h : rightsB l = true) {to : Int} (ht : InL l to) (need : Int) : ∀ k, k ≤ l.length → (colK l to need k).2.length ≤ k * 2000000001 := by
  intro k
  induction k with
  | zero => intro _; simp [colK]
  | succ k ih =>
    intro hk
    have h1 := ih (by omega)
    rw [colK_next l to need k (by omega)]
    unfold colStep
    split
    · rw [Nat.succ_mul]; exact Nat.le_trans h1 (Nat.le_add_right _ _)
    · have h2 := way_len h (InL.mem (l := l) (i := k) (by omega)) ht
      rw [Nat.succ_mul, List.length_append]
      refine Nat.add_le_add h1 ?_
      rw [movesL, movesK_len]
      omega
/-- what is wanted stays small -/
theorem colK_need (l : List Slt) (to need : Int) (hs : Small l) (hn : -1000000000000 ≤ need ∧ need ≤ 1000000000000) : ∀ k, k ≤ l.length → -1000000000000 ≤ (colK l to need k).1 ∧ (colK l to need k).1 ≤ 1000000000000 := by
  intro k
  induction k with
  | zero => intro _; simpa [colK] using hn
  | succ k ih =>
    intro hk
    have h1 := ih (by omega)
    rw [colK_next l to need k (by omega)]
    unfold colStep
    split
    · exact h1
    · rename_i hc
      have := hs.2 l[k] (List.getElem_mem (by omega))
      simp only [not_or] at hc
      simp only
      omega
def colOk (l : List Slt) (to amt : Int) : Bool := rightsB l && decide (0 ≤ posL l to) && inB 0 (sumL l) amt
def colL (l : List Slt) (to amt : Int) : List Slt := if colOk l to amt then (match l[(posL l to).toNat]? with | some s => (colK l to (amt - s.has) l.length).2 | none => []) else []
theorem colL_no {l : List Slt} {to amt : Int} (h : colOk l to amt = false) : colL l to amt = [] := by simp [colL, h]
theorem colL_yes {l : List Slt} {to amt : Int} {i : Nat} (hi : i < l.length) (h : colOk l to amt = true) (hp : posL l to = (i : Int)) : colL l to amt = (colK l to (amt - l[i].has) l.length).2 := by
  simp [colL, h, hp, hi]
theorem row_of_moves {l : List Slt} {w w' : World} {v : Value} {n : Nat} {xs : List Value} (ho : w'.ownsRow w.heap.size 34 3 v n xs) (hn : n = l.length) (hx : xs = l.flatMap sltCells) : NewRow 3 sltCells l w v w' := by
  subst hn hx
  exact own_of_row sltLen ho
set_option maxRecDepth 100000 in
set_option maxHeartbeats 8000000 in
theorem implCollect_any (a : Option Addr) (l : List Slt) (cap : Nat) (to amt : Int) (w : World) (hl : l.length ≤ 1048576) (hcap : l.length ≤ cap) (h : SlotAt w a l) :
    Calls Try.prog 6 #[.slice a l.length cap, .int .i64 to, .int .i64 amt] w fun e w' => RowFlag 3 sltCells (colL l to amt) (colOk l to amt) w e w' := by
  obtain ⟨i0, hinfo, hz0, hz1, hz2⟩ := info_parts info36
  have hu45 : Try.prog.underlying 27 = some (.slice 34) := by kernel_rfl
  have HC : Hid _ := hide h
  clear h
  go_enter Try.func6, Try.ntmps6
  go_wp2_with fail
  refine (implRightsOk_any a l cap w hl hcap HC.out).mono ?_
  rintro e w1 ⟨rfl, hb1⟩
  have HB1 : Hid _ := hide hb1
  clear hb1
  cases q0 : rightsB l
  · have HR : Hid (colOk l to amt = false) := hide (by simp [colOk, q0])
    go_wp2
    go_ret2
    rw [colL_no HR.out, HR.out]
    exact RowFlag.no HB1.out
  · have HQ : Hid _ := hide q0
    have HSM : Hid _ := hide (rightsB_small q0)
    have h8 : l.length ≤ 8 := (rightsB_small q0).1
    rcases posL_cases l to with ⟨i, hi, hp, hid⟩ | ⟨hp, hn⟩
    · go_wp2_with fail
      refine (slotPlace_any a l cap to w1 hl (HC.out.below HB1.out)).mono ?_
      rw [hp]
      rintro e w2 ⟨rfl, hb2⟩
      have HB2 : Hid _ := hide (below_trans HB1.out hb2)
      clear hb2
      have hn1 : ¬ (i : Int) < 0 := by omega
      go_wp2_with fail
      refine (together_any a l cap w2 HSM.out (HC.out.below HB2.out)).mono ?_
      rintro e w3 ⟨rfl, hb3⟩
      have HB3 : Hid _ := hide (below_trans HB2.out hb3)
      clear hb3
      cases q1 : inB 0 (sumL l) amt
      · have HR : Hid (colOk l to amt = false) := hide (by simp [colOk, q1])
        go_wp2_with (first | (go_at_call 20; refine (within_any _ _ _ _).mono ?_; rintro e w' ⟨rfl, hw'⟩; have hw'' := hw'.symm; subst hw''))
        go_ret2
        rw [colL_no HR.out, HR.out]
        exact RowFlag.no HB3.out
      · have HR : Hid (colOk l to amt = true) := hide (by simp [colOk, q0, q1, hp])
        have HY : Hid _ := hide (colL_yes hi HR.out hp)
        have HIN : Hid (InL l to) := hide ⟨i, hi, hp, hid⟩
        have hamt : 0 ≤ amt ∧ amt ≤ 1000000000000 := by
          have e1 : 0 ≤ amt ∧ amt ≤ sumL l := by simpa only [inB, decide_eq_true_eq] using q1
          have e2 : sumL l ≤ 1000000000000 := by
            have := HQ.out
            simp only [rightsB, Bool.and_eq_true, decide_eq_true_eq] at this
            exact this.2
          omega
        obtain ⟨am0, am1⟩ := hamt
        obtain ⟨s0, s1⟩ := HSM.out.2 l[i] (List.getElem_mem hi)
        have hi' : (i : Int) < (l.length : Int) := by omega
        clear hid
        go_wp2_with (first | (go_at_call 20; refine (within_any _ _ _ _).mono ?_; rintro e w' ⟨rfl, hw'⟩; have hw'' := hw'.symm; subst hw'') | fail)
        refine (slotPlace_any a l cap to w3 hl (HC.out.below HB3.out)).mono ?_
        rw [hp]
        rintro e w4 ⟨rfl, hb4⟩
        have HB4 : Hid _ := hide (below_trans HB3.out hb4)
        clear hb4 hp
        have HC4 : Hid _ := hide (HC.out.below HB4.out)
        obtain ⟨b, off, rfl, hb, c0, c1, c2, _⟩ := HC4.out i hi
        have HNB : Hid _ := hide (colK_need l to (amt - l[i].has) HSM.out (by omega))
        have HLB : Hid _ := hide (colK_len HQ.out HIN.out (amt - l[i].has))
        have HNX : Hid _ := hide (colK_next l to (amt - l[i].has))
        have HZ0 : Hid (colK l to (amt - l[i].has) 0 = (amt - l[i].has, [])) := hide (by simp [colK])
        go_wp2
        generalize amt - l[i].has = nd at *
        go_loopw [8, 9, 40] (fun s8 s9 s40 wr => ∃ k : Nat, k ≤ l.length ∧ s40 = .int .i64 (k : Int) ∧ s8 = .int .i64 (colK l to nd k).1 ∧ Hid (wr.ownsRow w4.heap.size 34 3 s9 (colK l to nd k).2.length ((colK l to nd k).2.flatMap sltCells)) ∧ Hid (Below w4.heap.size w4 wr)) (fun s8 s9 s40 wr => l.length - (intOf s40).toNat)
        case atStart => exact ⟨0, Nat.zero_le _, rfl, by rw [HZ0.out], hide (by rw [HZ0.out]; exact World.ownsRow_nil _ _ _ _), hide (Below.refl _ _)⟩
        case round =>
          obtain ⟨k, hk, rfl, rfl, HO, HB⟩ := hrel
          by_cases hlt : k < l.length
          · have hlt' : (k : Int) < (l.length : Int) := by omega
            obtain ⟨b2, off2, heq, hbb, d0, d1, d2, _⟩ := (HC4.out.below HB.out) k hlt
            simp only [Option.some.injEq, Addr.mk.injEq, and_true] at heq
            obtain ⟨rfl, rfl⟩ := heq
            obtain ⟨e0, e1⟩ := HNB.out k hk
            obtain ⟨f0, f1⟩ := HSM.out.2 l[k] (List.getElem_mem hlt)
            have HST : Hid _ := hide (HNX.out k hlt)
            have HLK : Hid _ := hide (HLB.out k hk)
            have HLK1 : Hid _ := hide (HLB.out (k + 1) (by omega))
            have HIK : Hid _ := hide (InL.mem hlt)
            generalize hst : colK l to nd k = st at *
            obtain ⟨need, outm⟩ := st
            simp only at e0 e1 HO HLK ⊢
            obtain ⟨va, vc, rfl⟩ := row_shape HO.out
            have HB2 : Hid (Below w4.heap.size w4 (wr.alloc (.cells #[.int .i64 l[k].id, .int .i64 l[k].up, .int .i64 l[k].has] 46))) := hide (HB.out.alloc HB.out.size _)
            by_cases hto : l[k].id = to
            · have hbe : (l[k].id == to) = true := by simp [hto]
              have HST2 : Hid (colK l to nd (k + 1) = (need, outm)) := hide (by rw [HST.out]; simp [colStep, hto])
              clear hto
              clear HLK1
              by_cases hm : l[k].has ≤ need
              · go_wp2
                exact ⟨⟨k + 1, by omega, by simp, by rw [HST2.out], hide (by rw [HST2.out]; exact own_keep HO.out (below_alloc (Below.refl _ _) _)), HB2⟩, by simp [intOf]; omega⟩
              · have hm' : need ≤ l[k].has := by omega
                go_wp2
                exact ⟨⟨k + 1, by omega, by simp, by rw [HST2.out], hide (by rw [HST2.out]; exact own_keep HO.out (below_alloc (Below.refl _ _) _)), HB2⟩, by simp [intOf]; omega⟩
            · have hbe : (l[k].id == to) = false := by simp [hto]
              have HNE : Hid (l[k].id ≠ to) := hide hto
              clear hto
              by_cases hm : l[k].has ≤ need
              · have HMN : Hid (min need l[k].has = l[k].has) := hide (by omega)
                by_cases hz : l[k].has ≤ 0
                · have HST2 : Hid (colK l to nd (k + 1) = (need, outm)) := hide (by rw [HST.out]; simp only [colStep]; rw [if_pos (.inr (by have := HMN.out; omega))])
                  clear HLK1
                  go_wp2
                  exact ⟨⟨k + 1, by omega, by simp, by rw [HST2.out], hide (by rw [HST2.out]; exact own_keep HO.out (below_alloc (Below.refl _ _) _)), HB2⟩, by simp [intOf]; omega⟩
                · have hz' : ¬ l[k].has ≤ 0 := hz
                  have HST2 : Hid (colK l to nd (k + 1) = (need - l[k].has, outm ++ movesL (wayL l l[k].id to) (l[k].has))) := hide (by rw [HST.out]; simp only [colStep]; rw [if_neg (by have := HMN.out; have := HNE.out; omega), HMN.out])
                  have hol : outm.length ≤ 20000000000 := by have := HLK.out; omega
                  clear HLK1
                  go_wp2_with fail
                  refine (pathIn_any (some ⟨b, off, none⟩) l cap l[k].id to _ HQ.out HIK.out HIN.out (HC4.out.below HB2.out)).mono ?_
                  rintro e w5 ⟨hb5, v5, rfl, g5, a5, c5, hg5, rfl, ho5⟩
                  have HB5 : Hid (Below w4.heap.size w4 w5) := hide (HB2.out.trans (hb5.mono HB2.out.size))
                  have HO5 : Hid (w5.ownsRow w4.heap.size 34 3 (.slice va outm.length vc) outm.length (outm.flatMap sltCells)) := hide (own_keep HO.out (below_trans (below_alloc (Below.refl wr.heap.size wr) _) hb5))
                  have HW : Hid _ := hide ho5.rows
                  have HWL : Hid _ := hide (way_len HQ.out HIK.out HIN.out)
                  have HW2 : Hid _ := hide (way_two HQ.out HIK.out HIN.out HNE.out)
                  clear hb5 ho5 hg5
                  generalize hyy : wayL l l[k].id to = y at *
                  clear hyy
                  go_wp2_with fail
                  refine (movesAlong_any a5 y c5 (l[k].has) w5 HWL.out HW.out).mono ?_
                  rintro e w6 ⟨hb6, v6, rfl, ho6⟩
                  have HB6 : Hid (Below w4.heap.size w4 w6) := hide (HB5.out.trans (hb6.mono HB5.out.size))
                  have HO6 : Hid (w6.ownsRow w4.heap.size 34 3 (.slice va outm.length vc) outm.length (outm.flatMap sltCells)) := hide (own_keep HO5.out hb6)
                  obtain ⟨g6, a6, c6, hg6, rfl, hr6⟩ := own_of_row sltLen ho6
                  have hm0 : 0 < (movesL y (l[k].has)).length := by have := HW2.out; rw [movesL, movesK_len]; omega
                  have hm1 : (movesL y (l[k].has)).length ≤ 2000000001 := by have := HWL.out; rw [movesL, movesK_len]; omega
                  obtain ⟨rfl, _⟩ := hr6.own hm0
                  have HN6 : Hid _ := hide (hr6.rows.news sltLen (by decide))
                  clear hb6 ho6 hr6 hg6
                  generalize hms : movesL y (l[k].has) = ms at *
                  clear hms
                  go_wp2_with (first | (at_builtin; refine Shut2.mk ?_) | fail)
                  refine Shut2.mk' ?_
                  refine wpList_append_own_at _ rfl _ _ 27 rfl w4.heap.size 34 i0 _ 3 24 hu45 hinfo hz0 hz1 hz2 rfl (by decide) (.slice va outm.length vc) outm.length (outm.flatMap sltCells) rfl HO6.out ⟨g6, 0, none⟩ ms.length c6 (ms.flatMap sltCells) rfl (flat_len sltCells 3 sltLen ms) HN6.out (slt_one ms) (by unfold maxLen; omega) (by omega) HB6.out.size ?_
                  intro v' w' ho' hg' _ _
                  have HB7 : Hid (Below w4.heap.size w4 w') := hide (HB6.out.grown hg' HB6.out.size (own_base HO6.out))
                  have HO7 : Hid (w'.ownsRow w4.heap.size 34 3 v' (outm ++ ms).length ((outm ++ ms).flatMap sltCells)) := hide (by rw [List.length_append, List.flatMap_append]; exact ho')
                  clear ho' hg'
                  go_wp2
                  exact ⟨⟨k + 1, by omega, by simp, by rw [HST2.out], hide (by rw [HST2.out]; exact HO7.out), HB7⟩, by simp [intOf]; omega⟩
              · have HMN : Hid (min need l[k].has = need) := hide (by omega)
                have hm' : need ≤ l[k].has := by omega
                by_cases hz : need ≤ 0
                · have HST2 : Hid (colK l to nd (k + 1) = (need, outm)) := hide (by rw [HST.out]; simp only [colStep]; rw [if_pos (.inr (by have := HMN.out; omega))])
                  clear HLK1
                  go_wp2
                  exact ⟨⟨k + 1, by omega, by simp, by rw [HST2.out], hide (by rw [HST2.out]; exact own_keep HO.out (below_alloc (Below.refl _ _) _)), HB2⟩, by simp [intOf]; omega⟩
                · have HST2 : Hid (colK l to nd (k + 1) = (need - need, outm ++ movesL (wayL l l[k].id to) (need))) := hide (by rw [HST.out]; simp only [colStep]; rw [if_neg (by have := HMN.out; have := HNE.out; omega), HMN.out])
                  have hol : outm.length ≤ 20000000000 := by have := HLK.out; omega
                  clear HLK1
                  go_wp2_with fail
                  refine (pathIn_any (some ⟨b, off, none⟩) l cap l[k].id to _ HQ.out HIK.out HIN.out (HC4.out.below HB2.out)).mono ?_
                  rintro e w5 ⟨hb5, v5, rfl, g5, a5, c5, hg5, rfl, ho5⟩
                  have HB5 : Hid (Below w4.heap.size w4 w5) := hide (HB2.out.trans (hb5.mono HB2.out.size))
                  have HO5 : Hid (w5.ownsRow w4.heap.size 34 3 (.slice va outm.length vc) outm.length (outm.flatMap sltCells)) := hide (own_keep HO.out (below_trans (below_alloc (Below.refl wr.heap.size wr) _) hb5))
                  have HW : Hid _ := hide ho5.rows
                  have HWL : Hid _ := hide (way_len HQ.out HIK.out HIN.out)
                  have HW2 : Hid _ := hide (way_two HQ.out HIK.out HIN.out HNE.out)
                  clear hb5 ho5 hg5
                  generalize hyy : wayL l l[k].id to = y at *
                  clear hyy
                  go_wp2_with fail
                  refine (movesAlong_any a5 y c5 (need) w5 HWL.out HW.out).mono ?_
                  rintro e w6 ⟨hb6, v6, rfl, ho6⟩
                  have HB6 : Hid (Below w4.heap.size w4 w6) := hide (HB5.out.trans (hb6.mono HB5.out.size))
                  have HO6 : Hid (w6.ownsRow w4.heap.size 34 3 (.slice va outm.length vc) outm.length (outm.flatMap sltCells)) := hide (own_keep HO5.out hb6)
                  obtain ⟨g6, a6, c6, hg6, rfl, hr6⟩ := own_of_row sltLen ho6
                  have hm0 : 0 < (movesL y (need)).length := by have := HW2.out; rw [movesL, movesK_len]; omega
                  have hm1 : (movesL y (need)).length ≤ 2000000001 := by have := HWL.out; rw [movesL, movesK_len]; omega
                  obtain ⟨rfl, _⟩ := hr6.own hm0
                  have HN6 : Hid _ := hide (hr6.rows.news sltLen (by decide))
                  clear hb6 ho6 hr6 hg6
                  generalize hms : movesL y (need) = ms at *
                  clear hms
                  go_wp2_with (first | (at_builtin; refine Shut2.mk ?_) | fail)
                  refine Shut2.mk' ?_
                  refine wpList_append_own_at _ rfl _ _ 27 rfl w4.heap.size 34 i0 _ 3 24 hu45 hinfo hz0 hz1 hz2 rfl (by decide) (.slice va outm.length vc) outm.length (outm.flatMap sltCells) rfl HO6.out ⟨g6, 0, none⟩ ms.length c6 (ms.flatMap sltCells) rfl (flat_len sltCells 3 sltLen ms) HN6.out (slt_one ms) (by unfold maxLen; omega) (by omega) HB6.out.size ?_
                  intro v' w' ho' hg' _ _
                  have HB7 : Hid (Below w4.heap.size w4 w') := hide (HB6.out.grown hg' HB6.out.size (own_base HO6.out))
                  have HO7 : Hid (w'.ownsRow w4.heap.size 34 3 v' (outm ++ ms).length ((outm ++ ms).flatMap sltCells)) := hide (by rw [List.length_append, List.flatMap_append]; exact ho')
                  clear ho' hg'
                  go_wp2
                  exact ⟨⟨k + 1, by omega, by simp, by rw [HST2.out]; simp, hide (by rw [HST2.out]; exact HO7.out), HB7⟩, by simp [intOf]; omega⟩
          · have hk' : ¬ (k : Int) < (l.length : Int) := by omega
            have HE : Hid (k = l.length) := hide (by omega)
            have hlen : (colK l to nd k).2.length ≤ 20000000000 := by have := HLB.out k hk; omega
            obtain ⟨va, vc, hv⟩ := row_shape HO.out
            subst hv
            have HF : Hid (RowFlag 3 sltCells (colL l to amt) (colOk l to amt) w (.returned (.tuple #[.slice va (colK l to nd k).2.length vc, .bool true])) wr) := hide (by
              rw [HY.out, HR.out]
              have ho := HO.out
              refine ⟨below_trans HB4.out HB.out, _, rfl, ?_⟩
              rw [HE.out] at ho ⊢
              obtain ⟨g, a, c, hg, e, ho⟩ := own_of_row sltLen ho
              exact ⟨g, a, c, Nat.le_trans HB4.out.size hg, e, ho⟩)
            go_wp2
            go_ret2
            exact HF.out
    · have HR : Hid (colOk l to amt = false) := hide (by simp [colOk, hp])
      go_wp2_with fail
      refine (slotPlace_any a l cap to w1 hl (HC.out.below HB1.out)).mono ?_
      rw [hp]
      rintro e w2 ⟨rfl, hb2⟩
      have HB2 : Hid _ := hide (below_trans HB1.out hb2)
      clear hb2 hp hn
      go_wp2
      go_ret2
      rw [colL_no HR.out, HR.out]
      exact RowFlag.no HB2.out
end Go.Proofs.Ytfkadhkgpfembaa
