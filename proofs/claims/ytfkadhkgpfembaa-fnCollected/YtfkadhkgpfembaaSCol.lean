/- The contract of the model's Collect. -/
import Derived.Test.YtfkadhkgpfembaaICol
import Derived.Deep.AppendLies
namespace Go.Proofs.Ytfkadhkgpfembaa
open Go.ChangeShapes Go.WideShapes Go.ChangeAt Go.RowKit
set_option linter.unusedVariables false
theorem id_at {l : List Slt} (h : rightsB l = true) {i k : Nat} (hi : i < l.length) (hk : k < l.length) (he : l[k].id = l[i].id) : k = i := by
  rcases Nat.lt_trichotomy k i with h1 | h1 | h1
  · have := ids_rise h k (i - k) (by omega)
    have e : k + (i - k) = i := by omega
    simp only [e] at this
    omega
  · exact h1
  · have := ids_rise h i (k - i) (by omega)
    have e : i + (k - i) = k := by omega
    simp only [e] at this
    omega
theorem row_grown {A : Type} {sz : Nat} {f : A → List Value} {w w' : World} {row : Option Nat} {b off : Nat} {l : List A} (h : RowAt sz f w (some ⟨b, off, none⟩) l) (hg : w.grownBy w' row) (hne : some b ≠ row) : RowAt sz f w' (some ⟨b, off, none⟩) l := by
  intro i hi
  obtain ⟨b2, off2, e, hb, hc⟩ := h i hi
  simp only [Option.some.injEq, Addr.mk.injEq, and_true] at e
  obtain ⟨rfl, rfl⟩ := e
  exact ⟨b, off, rfl, Nat.lt_of_lt_of_le hb hg.size, fun r v hv => (hg.cell_far _ hb hne).trans (hc r v hv)⟩
theorem own_far {g' g g5 n cap H : Nat} {v : Value} (hg : (Value.slice (some ⟨g', 0, none⟩) n cap).ownBlock = some g) (hat : v.ownBlock = some g' ∨ g' = H) (hn : ∀ g, v.ownBlock = some g → g ≠ g5) (hH : g5 < H) : g ≠ g5 := by
  simp only [Value.ownBlock, Option.some.injEq] at hg
  subst hg
  rcases hat with h | h
  · exact hn _ h
  · omega
theorem own_under {x : World} {base g5 : Nat} {e : TypeId} {sz : Nat} {v : Value} {n : Nat} {xs : List Value} (h : x.ownsRow base e sz v n xs) (hg : x.heap.size ≤ g5) : ∀ g, v.ownBlock = some g → g < g5 := by
  intro g hv
  obtain ⟨hl, ⟨h0, h1⟩ | ⟨g', cap, cur, h1, hb, hg', _⟩⟩ := h
  · rw [h0] at hv; cases hv
  · rw [h1] at hv
    simp only [Value.ownBlock, Option.some.injEq] at hv
    have := (Array.getElem?_eq_some_iff.1 hg').1
    omega
set_option maxRecDepth 100000 in
set_option maxHeartbeats 8000000 in
theorem specCollect_any (a : Option Addr) (l : List Slt) (cap : Nat) (to amt : Int) (w : World) (hl : l.length ≤ 1048576) (hcap : l.length ≤ cap) (h : SlotAt w a l) :
    Calls Try.prog 7 #[.slice a l.length cap, .int .i64 to, .int .i64 amt] w fun e w' => RowFlag 3 sltCells (colL l to amt) (colOk l to amt) w e w' := by
  obtain ⟨i0, hinfo, hz0, hz1, hz2⟩ := info_parts info36
  have hu45 : Try.prog.underlying 27 = some (.slice 34) := by kernel_rfl
  have HC : Hid _ := hide h
  clear h
  go_enter Try.func7, Try.ntmps7
  rcases posL_cases l to with ⟨i, hi, hp, hid⟩ | ⟨hp, hn⟩
  · go_wp2_with fail
    refine (l4Find_any a l cap to w hl HC.out).mono ?_
    rw [hp]
    rintro e w0 ⟨rfl, hw0⟩
    have hw0' := hw0.symm
    subst hw0'
    have hn1 : ¬ (i : Int) < 0 := by omega
    go_wp2_with fail
    refine (specRightsOk_any a l cap w hl hcap HC.out).mono ?_
    rintro e w1 ⟨rfl, hb1⟩
    have HB1 : Hid _ := hide hb1
    have HC1 : Hid _ := hide (HC.out.below hb1)
    clear hb1
    cases q0 : rightsB l
    · have HR : Hid (colOk l to amt = false) := hide (by simp [colOk, q0])
      go_wp2
      go_ret2
      rw [colL_no HR.out, HR.out]
      exact RowFlag.no HB1.out
    · have HQ : Hid _ := hide q0
      have HSM : Hid _ := hide (rightsB_small q0)
      have h8 : l.length ≤ 8 := (rightsB_small q0).1
      cases q1 : inB 0 (sumL l) amt
      · have HR : Hid (colOk l to amt = false) := hide (by simp [colOk, q1])
        clear hid
        go_wp2_with (first | (go_at_call 17; refine (l4Sum_any a l cap _ HSM.out HC1.out).mono ?_; rintro e w' ⟨rfl, hw'⟩; have hw'' := hw'.symm; subst hw'') | (go_at_call 25; refine (l1In_any _ _ _ _).mono ?_; rintro e w' ⟨rfl, hw'⟩; have hw'' := hw'.symm; subst hw''))
        go_ret2
        rw [colL_no HR.out, HR.out]
        exact RowFlag.no HB1.out
      · have HR : Hid (colOk l to amt = true) := hide (by simp [colOk, q0, q1, hp])
        have HY : Hid _ := hide (colL_yes hi HR.out hp)
        have HIN : Hid (InL l to) := hide ⟨i, hi, hp, hid⟩
        have HUN : Hid (∀ k (hk : k < l.length), l[k].id = to ↔ k = i) := hide (fun k hk => ⟨fun e => id_at HQ.out hi hk (e.trans hid.symm), fun e => by subst e; exact hid⟩)
        have hamt : 0 ≤ amt ∧ amt ≤ 1000000000000 := by
          have e1 : 0 ≤ amt ∧ amt ≤ sumL l := by simpa only [inB, decide_eq_true_eq] using q1
          have e2 : sumL l ≤ 1000000000000 := by
            have := HQ.out
            simp only [rightsB, Bool.and_eq_true, decide_eq_true_eq] at this
            exact this.2
          omega
        obtain ⟨am0, am1⟩ := hamt
        obtain ⟨s0, s1⟩ := HSM.out.2 l[i] (List.getElem_mem hi)
        have hi' : (i : Int) < (l.length : Int) := by omega
        clear hid hp
        obtain ⟨b, off, rfl, hb, c0, c1, c2, _⟩ := HC1.out i hi
        have HNB : Hid _ := hide (colK_need l to (amt - l[i].has) HSM.out (by omega))
        have HLB : Hid _ := hide (colK_len HQ.out HIN.out (amt - l[i].has))
        have HNX : Hid _ := hide (colK_next l to (amt - l[i].has))
        have HZ0 : Hid (colK l to (amt - l[i].has) 0 = (amt - l[i].has, [])) := hide (by simp [colK])
        go_wp2_with (first | (go_at_call 17; refine (l4Sum_any _ l cap _ HSM.out HC1.out).mono ?_; rintro e w' ⟨rfl, hw'⟩; have hw'' := hw'.symm; subst hw'') | (go_at_call 25; refine (l1In_any _ _ _ _).mono ?_; rintro e w' ⟨rfl, hw'⟩; have hw'' := hw'.symm; subst hw''))
        generalize amt - l[i].has = nd at *
        go_loopw [9, 10, 11] (fun s9 s10 s11 wr => ∃ k : Nat, k ≤ l.length ∧ s11 = .int .i64 (k : Int) ∧ s10 = .int .i64 (colK l to nd k).1 ∧ Hid (wr.ownsRow w1.heap.size 34 3 s9 (colK l to nd k).2.length ((colK l to nd k).2.flatMap sltCells)) ∧ Hid (Below w1.heap.size w1 wr)) (fun s9 s10 s11 wr => l.length - (intOf s11).toNat)
        case atStart => exact ⟨0, Nat.zero_le _, rfl, by rw [HZ0.out], hide (by rw [HZ0.out]; exact World.ownsRow_made w1 #[] 0 (Nat.le_refl _) (by unfold maxLen; omega) rfl), hide (below_alloc (Below.refl _ _) _)⟩
        case round =>
          obtain ⟨k, hk, rfl, rfl, HO, HB⟩ := hrel
          by_cases hlt : k < l.length
          · have hlt' : (k : Int) < (l.length : Int) := by omega
            obtain ⟨b2, off2, heq, hbb, d0, d1, d2, _⟩ := (HC1.out.below HB.out) k hlt
            simp only [Option.some.injEq, Addr.mk.injEq, and_true] at heq
            obtain ⟨rfl, rfl⟩ := heq
            obtain ⟨e0, e1⟩ := HNB.out k hk
            obtain ⟨f0, f1⟩ := HSM.out.2 l[k] (List.getElem_mem hlt)
            have HST : Hid _ := hide (HNX.out k hlt)
            have HLK : Hid _ := hide (HLB.out k hk)
            have HIK : Hid _ := hide (InL.mem hlt)
            generalize hst : colK l to nd k = st at *
            obtain ⟨need, outm⟩ := st
            simp only at e0 e1 HO HLK ⊢
            obtain ⟨va, vc, rfl⟩ := row_shape HO.out
            have hol : outm.length ≤ 20000000000 := by have := HLK.out; omega
            by_cases hto : k = i
            · have hbe : ((k : Int) == (i : Int)) = true := by simp [hto]
              have HST2 : Hid (colK l to nd (k + 1) = (need, outm)) := hide (by rw [HST.out]; simp [colStep, (HUN.out k hlt).2 hto])
              clear hto
              by_cases hm : l[k].has < need
              · go_wp2
                exact ⟨⟨k + 1, by omega, by simp, by rw [HST2.out], hide (by rw [HST2.out]; exact HO.out), HB⟩, by simp [intOf]; omega⟩
              · have hm' : need ≤ l[k].has := by omega
                go_wp2
                exact ⟨⟨k + 1, by omega, by simp, by rw [HST2.out], hide (by rw [HST2.out]; exact HO.out), HB⟩, by simp [intOf]; omega⟩
            · have hbe : ((k : Int) == (i : Int)) = false := by simp; omega
              have HNE : Hid (l[k].id ≠ to) := hide (fun e => hto ((HUN.out k hlt).1 e))
              clear hto
              by_cases hm : l[k].has < need
              · have HMN : Hid (min need l[k].has = l[k].has) := hide (by omega)
                by_cases hz : l[k].has ≤ 0
                · have HST2 : Hid (colK l to nd (k + 1) = (need, outm)) := hide (by rw [HST.out]; simp only [colStep]; rw [if_pos (.inr (by have := HMN.out; omega))])
                  go_wp2
                  exact ⟨⟨k + 1, by omega, by simp, by rw [HST2.out], hide (by rw [HST2.out]; exact HO.out), HB⟩, by simp [intOf]; omega⟩
                · have hz' : ¬ l[k].has ≤ 0 := hz
                  have HST2 : Hid (colK l to nd (k + 1) = (need - l[k].has, outm ++ movesL (wayL l l[k].id to) (l[k].has))) := hide (by rw [HST.out]; simp only [colStep]; rw [if_neg (by have := HMN.out; have := HNE.out; omega), HMN.out])
                  go_wp2_with fail
                  refine (l4Path_any (some ⟨b, off, none⟩) l cap l[k].id to wr HQ.out HIK.out HIN.out (HC1.out.below HB.out)).mono ?_
                  rintro e w5 ⟨hb5, v5, rfl, g5, a5, c5, hg5, rfl, ho5⟩
                  have HB5 : Hid (Below w1.heap.size w1 w5) := hide (HB.out.trans (hb5.mono HB.out.size))
                  have HO5 : Hid (w5.ownsRow w1.heap.size 34 3 (.slice va outm.length vc) outm.length (outm.flatMap sltCells)) := hide (own_keep HO.out hb5)
                  have HWL : Hid _ := hide (way_len HQ.out HIK.out HIN.out)
                  have HW2 : Hid _ := hide (way_two HQ.out HIK.out HIN.out HNE.out)
                  obtain ⟨rfl, _⟩ := ho5.own (by have := HW2.out; omega)
                  have HW : Hid _ := hide ho5.rows
                  have HF5 : Hid (∀ g, (Value.slice va outm.length vc).ownBlock = some g → g < g5) := hide (own_under HO.out hg5)
                  clear hb5 ho5 hg5
                  generalize hyy : wayL l l[k].id to = y at *
                  clear hyy
                  have hyl := HWL.out
                  have hy2 := HW2.out
                  go_wp2
                  go_loopw [9, 14] (fun s9 s14 wq => ∃ t : Nat, t ≤ y.length - 1 ∧ s14 = .int .i64 (t : Int) ∧ Hid (wq.ownsRow w1.heap.size 34 3 s9 (outm.length + t) ((outm ++ movesK y (l[k].has) t).flatMap sltCells)) ∧ Hid (Below w1.heap.size w1 wq) ∧ Hid (RowAt 1 intCells wq (some ⟨g5, 0, none⟩) y) ∧ Hid (∀ g, s9.ownBlock = some g → g ≠ g5)) (fun s9 s14 wq => y.length - (intOf s14).toNat)
                  case atStart => exact ⟨0, Nat.zero_le _, rfl, hide (by simpa [movesK] using HO5.out), HB5, HW, hide (fun g hg => Nat.ne_of_lt (HF5.out g hg))⟩
                  case round =>
                    rename World => wq
                    obtain ⟨t, ht, rfl, HOq, HBq, HWq, HNq⟩ := hrel
                    by_cases htl : t + 1 < y.length
                    · have htl' : (t : Int) + 1 < (y.length : Int) := by omega
                      have ht0 : (t : Int) < (y.length : Int) := by omega
                      obtain ⟨b2, off2, heq2, hbg, x0⟩ := int_row HWq.out t (by omega)
                      simp only [Option.some.injEq, Addr.mk.injEq, and_true] at heq2
                      obtain ⟨rfl, rfl⟩ := heq2
                      obtain ⟨b2, off2, heq2, _, x1⟩ := int_row HWq.out (t + 1) htl
                      simp only [Option.some.injEq, Addr.mk.injEq, and_true] at heq2
                      obtain ⟨rfl, rfl⟩ := heq2
                      rw [Nat.zero_add] at x0 x1
                      obtain ⟨va, vc, rfl⟩ := row_shape HOq.out
                      have HNX : Hid _ := hide (movesK_next y (l[k].has) t htl)
                      have hwl := HBq.out.size
                      have hk1 : (0 : Int) ≤ (t : Int) + 1 := by omega
                      have hwk1 : IntKind.i64.wrap ((t : Int) + 1) = (t : Int) + 1 := by simp only [IntKind.wrap, IntKind.signed, IntKind.bits]; simp; omega
                      have htn : ((t : Int) + 1).toNat = t + 1 := by omega
                      have hwk : IntKind.i64.wrap (t : Int) = (t : Int) := by simp only [IntKind.wrap, IntKind.signed, IntKind.bits]; simp; omega
                      generalize hp0 : y[t] = p0 at *
                      generalize hp1 : y[t + 1] = p1 at *
                      clear hp0 hp1
                      go_wp2_with fail
                      go_region_law (refine step_append_lies _ rfl (.tmp 75) (.tmp 87) 27 rfl w1.heap.size 34 i0 _ 3 24 hu45 hinfo hz0 hz1 hz2 rfl (by decide) (.slice va (outm.length + t) vc) (outm.length + t) ((outm ++ movesK y (l[k].has) t).flatMap sltCells) (by simp [Act.eval]; done) (own_keep HOq.out ((below_alloc (Below.refl _ _) _).drew)) ⟨wq.heap.size, 0, none⟩ 1 1 [.int .i64 p0, .int .i64 p1, .int .i64 (l[k].has)] (by simp [Act.eval]; done) rfl (three_news _ _ _ _ _) (three_one _ _ _) (by decide) (by unfold maxLen; omega) (by omega) (by simp; omega) _ rfl ?_; intro g' cap' w' ho' hg' hat' hlq'; have HB' : Hid (Below w1.heap.size w1 w') := hide (((HBq.out.alloc hwl _).drew).grown hg' (by simp; omega) (own_base HOq.out)); have HO' : Hid (w'.ownsRow w1.heap.size 34 3 (.slice (some ⟨g', 0, none⟩) (outm.length + t + 1) cap') (outm.length + (t + 1)) ((outm ++ movesK y (l[k].has) (t + 1)).flatMap sltCells)) := hide (by rw [HNX.out, ← List.append_assoc, List.flatMap_append]; exact ho'); have HW' : Hid (RowAt 1 intCells w' (some ⟨g5, 0, none⟩) y) := hide (row_grown (HWq.out.below ((below_alloc (Below.refl _ _) _).drew)) hg' (fun e => HNq.out g5 e.symm rfl)); have HN' : Hid (∀ g, (Value.slice (some ⟨g', 0, none⟩) (outm.length + t + 1) cap').ownBlock = some g → g ≠ g5) := hide (fun g hg => own_far hg hat' HNq.out (by simp; omega)); clear ho' hg' hat' hlq')
                      all_goals
                        go_wp2
                        exact ⟨⟨t + 1, by omega, by simp, HO', HB', HW', HN'⟩, by simp [intOf]; omega⟩
                    · have htl' : ¬ (t : Int) + 1 < (y.length : Int) := by omega
                      obtain ⟨va, vc, rfl⟩ := row_shape HOq.out
                      have HOF : Hid (wq.ownsRow w1.heap.size 34 3 (.slice va (outm.length + t) vc) (outm ++ movesL y (l[k].has)).length ((outm ++ movesL y (l[k].has)).flatMap sltCells)) := hide (by
                        have e : t = y.length - 1 := by omega
                        rw [List.length_append, movesL, movesK_len, ← e]
                        exact HOq.out)
                      go_wp2
                      exact ⟨⟨k + 1, by omega, by simp, by rw [HST2.out], hide (by rw [HST2.out]; exact HOF.out), HBq⟩, by simp [intOf]; omega⟩
              · have HMN : Hid (min need l[k].has = need) := hide (by omega)
                have hm' : need ≤ l[k].has := by omega
                by_cases hz : need ≤ 0
                · have HST2 : Hid (colK l to nd (k + 1) = (need, outm)) := hide (by rw [HST.out]; simp only [colStep]; rw [if_pos (.inr (by have := HMN.out; omega))])
                  go_wp2
                  exact ⟨⟨k + 1, by omega, by simp, by rw [HST2.out], hide (by rw [HST2.out]; exact HO.out), HB⟩, by simp [intOf]; omega⟩
                · have HST2 : Hid (colK l to nd (k + 1) = (need - need, outm ++ movesL (wayL l l[k].id to) (need))) := hide (by rw [HST.out]; simp only [colStep]; rw [if_neg (by have := HMN.out; have := HNE.out; omega), HMN.out])
                  go_wp2_with fail
                  refine (l4Path_any (some ⟨b, off, none⟩) l cap l[k].id to wr HQ.out HIK.out HIN.out (HC1.out.below HB.out)).mono ?_
                  rintro e w5 ⟨hb5, v5, rfl, g5, a5, c5, hg5, rfl, ho5⟩
                  have HB5 : Hid (Below w1.heap.size w1 w5) := hide (HB.out.trans (hb5.mono HB.out.size))
                  have HO5 : Hid (w5.ownsRow w1.heap.size 34 3 (.slice va outm.length vc) outm.length (outm.flatMap sltCells)) := hide (own_keep HO.out hb5)
                  have HWL : Hid _ := hide (way_len HQ.out HIK.out HIN.out)
                  have HW2 : Hid _ := hide (way_two HQ.out HIK.out HIN.out HNE.out)
                  obtain ⟨rfl, _⟩ := ho5.own (by have := HW2.out; omega)
                  have HW : Hid _ := hide ho5.rows
                  have HF5 : Hid (∀ g, (Value.slice va outm.length vc).ownBlock = some g → g < g5) := hide (own_under HO.out hg5)
                  clear hb5 ho5 hg5
                  generalize hyy : wayL l l[k].id to = y at *
                  clear hyy
                  have hyl := HWL.out
                  have hy2 := HW2.out
                  go_wp2
                  go_loopw [9, 14] (fun s9 s14 wq => ∃ t : Nat, t ≤ y.length - 1 ∧ s14 = .int .i64 (t : Int) ∧ Hid (wq.ownsRow w1.heap.size 34 3 s9 (outm.length + t) ((outm ++ movesK y (need) t).flatMap sltCells)) ∧ Hid (Below w1.heap.size w1 wq) ∧ Hid (RowAt 1 intCells wq (some ⟨g5, 0, none⟩) y) ∧ Hid (∀ g, s9.ownBlock = some g → g ≠ g5)) (fun s9 s14 wq => y.length - (intOf s14).toNat)
                  case atStart => exact ⟨0, Nat.zero_le _, rfl, hide (by simpa [movesK] using HO5.out), HB5, HW, hide (fun g hg => Nat.ne_of_lt (HF5.out g hg))⟩
                  case round =>
                    rename World => wq
                    obtain ⟨t, ht, rfl, HOq, HBq, HWq, HNq⟩ := hrel
                    by_cases htl : t + 1 < y.length
                    · have htl' : (t : Int) + 1 < (y.length : Int) := by omega
                      have ht0 : (t : Int) < (y.length : Int) := by omega
                      obtain ⟨b2, off2, heq2, hbg, x0⟩ := int_row HWq.out t (by omega)
                      simp only [Option.some.injEq, Addr.mk.injEq, and_true] at heq2
                      obtain ⟨rfl, rfl⟩ := heq2
                      obtain ⟨b2, off2, heq2, _, x1⟩ := int_row HWq.out (t + 1) htl
                      simp only [Option.some.injEq, Addr.mk.injEq, and_true] at heq2
                      obtain ⟨rfl, rfl⟩ := heq2
                      rw [Nat.zero_add] at x0 x1
                      obtain ⟨va, vc, rfl⟩ := row_shape HOq.out
                      have HNX : Hid _ := hide (movesK_next y (need) t htl)
                      have hwl := HBq.out.size
                      have hk1 : (0 : Int) ≤ (t : Int) + 1 := by omega
                      have hwk1 : IntKind.i64.wrap ((t : Int) + 1) = (t : Int) + 1 := by simp only [IntKind.wrap, IntKind.signed, IntKind.bits]; simp; omega
                      have htn : ((t : Int) + 1).toNat = t + 1 := by omega
                      have hwk : IntKind.i64.wrap (t : Int) = (t : Int) := by simp only [IntKind.wrap, IntKind.signed, IntKind.bits]; simp; omega
                      generalize hp0 : y[t] = p0 at *
                      generalize hp1 : y[t + 1] = p1 at *
                      clear hp0 hp1
                      go_wp2_with fail
                      go_region_law (refine step_append_lies _ rfl (.tmp 75) (.tmp 87) 27 rfl w1.heap.size 34 i0 _ 3 24 hu45 hinfo hz0 hz1 hz2 rfl (by decide) (.slice va (outm.length + t) vc) (outm.length + t) ((outm ++ movesK y (need) t).flatMap sltCells) (by simp [Act.eval]; done) (own_keep HOq.out ((below_alloc (Below.refl _ _) _).drew)) ⟨wq.heap.size, 0, none⟩ 1 1 [.int .i64 p0, .int .i64 p1, .int .i64 (need)] (by simp [Act.eval]; done) rfl (three_news _ _ _ _ _) (three_one _ _ _) (by decide) (by unfold maxLen; omega) (by omega) (by simp; omega) _ rfl ?_; intro g' cap' w' ho' hg' hat' hlq'; have HB' : Hid (Below w1.heap.size w1 w') := hide (((HBq.out.alloc hwl _).drew).grown hg' (by simp; omega) (own_base HOq.out)); have HO' : Hid (w'.ownsRow w1.heap.size 34 3 (.slice (some ⟨g', 0, none⟩) (outm.length + t + 1) cap') (outm.length + (t + 1)) ((outm ++ movesK y (need) (t + 1)).flatMap sltCells)) := hide (by rw [HNX.out, ← List.append_assoc, List.flatMap_append]; exact ho'); have HW' : Hid (RowAt 1 intCells w' (some ⟨g5, 0, none⟩) y) := hide (row_grown (HWq.out.below ((below_alloc (Below.refl _ _) _).drew)) hg' (fun e => HNq.out g5 e.symm rfl)); have HN' : Hid (∀ g, (Value.slice (some ⟨g', 0, none⟩) (outm.length + t + 1) cap').ownBlock = some g → g ≠ g5) := hide (fun g hg => own_far hg hat' HNq.out (by simp; omega)); clear ho' hg' hat' hlq')
                      all_goals
                        go_wp2
                        exact ⟨⟨t + 1, by omega, by simp, HO', HB', HW', HN'⟩, by simp [intOf]; omega⟩
                    · have htl' : ¬ (t : Int) + 1 < (y.length : Int) := by omega
                      obtain ⟨va, vc, rfl⟩ := row_shape HOq.out
                      have HOF : Hid (wq.ownsRow w1.heap.size 34 3 (.slice va (outm.length + t) vc) (outm ++ movesL y (need)).length ((outm ++ movesL y (need)).flatMap sltCells)) := hide (by
                        have e : t = y.length - 1 := by omega
                        rw [List.length_append, movesL, movesK_len, ← e]
                        exact HOq.out)
                      go_wp2
                      exact ⟨⟨k + 1, by omega, by simp, by rw [HST2.out]; simp, hide (by rw [HST2.out]; exact HOF.out), HBq⟩, by simp [intOf]; omega⟩
          · have hk' : ¬ (k : Int) < (l.length : Int) := by omega
            have HE : Hid (k = l.length) := hide (by omega)
            have hlen : (colK l to nd k).2.length ≤ 20000000000 := by have := HLB.out k hk; omega
            obtain ⟨va, vc, hv⟩ := row_shape HO.out
            subst hv
            have HF : Hid (RowFlag 3 sltCells (colL l to amt) (colOk l to amt) w (.returned (.tuple #[.slice va (colK l to nd k).2.length vc, .bool true])) wr) := hide (by
              rw [HY.out, HR.out]
              have ho := HO.out
              refine ⟨below_trans HB1.out HB.out, _, rfl, ?_⟩
              rw [HE.out] at ho ⊢
              obtain ⟨g, a, c, hg, e, ho⟩ := own_of_row sltLen ho
              exact ⟨g, a, c, Nat.le_trans HB1.out.size hg, e, ho⟩)
            go_wp2
            go_ret2
            exact HF.out
  · have HR : Hid (colOk l to amt = false) := hide (by simp [colOk, hp])
    go_wp2_with fail
    refine (l4Find_any a l cap to w hl HC.out).mono ?_
    rw [hp]
    rintro e w0 ⟨rfl, hw0⟩
    have hw0' := hw0.symm
    subst hw0'
    clear hp hn
    go_wp2_with fail
    refine (specRightsOk_any a l cap w hl hcap HC.out).mono ?_
    rintro e w1 ⟨rfl, hb1⟩
    have HB1 : Hid _ := hide hb1
    clear hb1
    cases q0 : rightsB l
    · go_wp2
      go_ret2
      rw [colL_no HR.out, HR.out]
      exact RowFlag.no HB1.out
    · go_wp2
      go_ret2
      rw [colL_no HR.out, HR.out]
      exact RowFlag.no HB1.out
end Go.Proofs.Ytfkadhkgpfembaa
