/- The contract of the model's DiskOk. -/
import Derived.Test.YtiilkkdbifhojaaDkS4
namespace Go.Proofs.Ytiilkkdbifhojaa
open Go.ChangeShapes Go.WideShapes Go.ChangeAt Go.RowKit
set_option linter.unusedVariables false
set_option maxRecDepth 100000
theorem putS_mem {nm da : ByteArray} {st : List Fl × Bool} {x f : Fl} (h : f ∈ (putS nm da st x).1) : f ∈ st.1 ∨ f = ⟨nm, da⟩ ∨ f = x := by
  unfold putS at h
  simp only at h
  by_cases h1 : (x.nm.toList == nm.toList) = true
  · rw [if_pos h1] at h
    by_cases h2 : (!st.2 && !Op.bytesLess x.nm.toList nm.toList) = true
    · rw [if_pos h2] at h
      simp only [List.mem_append, List.mem_singleton] at h
      rcases h with h | h
      · exact .inl h
      · exact .inr (.inl h)
    · rw [if_neg h2] at h
      exact .inl h
  · rw [if_neg h1] at h
    by_cases h2 : (!st.2 && !Op.bytesLess x.nm.toList nm.toList) = true
    · rw [if_pos h2] at h
      simp only [List.mem_append, List.mem_singleton] at h
      rcases h with (h | h) | h
      · exact .inl h
      · exact .inr (.inl h)
      · exact .inr (.inr h)
    · rw [if_neg h2] at h
      simp only [List.mem_append, List.mem_singleton] at h
      rcases h with h | h
      · exact .inl h
      · exact .inr (.inr h)
theorem putK_mem (l : List Fl) (nm da : ByteArray) : ∀ k, ∀ f ∈ (putK l nm da k).1, f ∈ l ∨ f = ⟨nm, da⟩
  | 0 => by simp [putK]
  | k + 1 => by
    have ih := putK_mem l nm da k
    rcases Nat.lt_or_ge k l.length with h | h
    · rw [putK_next l nm da k h]
      intro f hf
      rcases putS_mem hf with hf | hf | rfl
      · exact ih f hf
      · exact .inr hf
      · exact .inl (List.getElem_mem h)
    · have e : putK l nm da (k + 1) = putK l nm da k := by
        unfold putK
        rw [List.take_of_length_le (by omega), List.take_of_length_le (by omega)]
      rw [e]; exact ih
theorem putL_mem {l : List Fl} {nm da : ByteArray} {f : Fl} (h : f ∈ putL l nm da) : f ∈ l ∨ f = ⟨nm, da⟩ := by
  unfold putL at h
  split at h
  · exact putK_mem l nm da _ f h
  · simp only [List.mem_append, List.mem_singleton] at h
    rcases h with h | h
    · exact putK_mem l nm da _ f h
    · exact .inr h
theorem putL_len (l : List Fl) (nm da : ByteArray) : (putL l nm da).length ≤ 2 * l.length + 1 := by
  have := putK_len l nm da l.length
  unfold putL
  split <;> simp <;> omega
theorem dataL_size {l : List Fl} {nm : ByteArray} {M : Nat} (h : ∀ f ∈ l, f.da.size ≤ M) : (dataL l nm).size ≤ M := by
  unfold dataL
  split
  · simp
  · split
    · simp
    · rename_i k _ f hf
      exact h f (List.mem_of_getElem? hf)
theorem doL_small {l : List Fl} {o : Dp} (h : filesB l = true) (ho : SmO o) : SmG0 (doL l o).1 ∧ (doL l o).1.length ≤ 200 := by
  have hs := filesB_small h
  have h60 := (filesB_parts h).1
  have hd : (dataL l o.nm).size ≤ 200000 := dataL_size (fun f hf => (hs f hf).2)
  have sG : ∀ f ∈ l, f.nm.size ≤ 4194304 ∧ f.da.size ≤ 4194304 := fun f hf => by have := hs f hf; exact ⟨by omega, by omega⟩
  have sC : ∀ f ∈ cutL l o.nm, f ∈ l := fun f hf => (List.mem_filter.1 hf).1
  obtain ⟨o1, o2, o3⟩ := ho
  have lc := cutL_len l o.nm
  unfold doL
  split
  · have hl := putL_len l o.nm (appD l o.nm o.da)
    refine ⟨fun f hf => ?_, by simp only; omega⟩
    rcases putL_mem hf with hf | rfl
    · exact sG f hf
    · refine ⟨by show o.nm.size ≤ _; omega, ?_⟩
      show (appD l o.nm o.da).size ≤ _
      unfold appD
      split
      · omega
      · rw [ByteArray.size_append]; omega
  · split
    · exact ⟨sG, by simp only; omega⟩
    · simp only
      split
      · have hl := putL_len (cutL l o.nm) o.tn (dataL l o.nm)
        refine ⟨fun f hf => ?_, by omega⟩
        rcases putL_mem hf with hf | rfl
        · exact sG f (sC f hf)
        · exact ⟨by show o.tn.size ≤ _; omega, by show (dataL l o.nm).size ≤ _; omega⟩
      · exact ⟨fun f hf => sG f (sC f hf), by omega⟩
theorem diskB_run {live safe : List Fl} {ops : List Dp} (h1 : filesB live = true) (h2 : filesB safe = true) (h3 : ops.length ≤ 200) : diskB ⟨live, safe, ops⟩ = isRun (runL safe ops) live := by simp [diskB, h1, h2, h3]
theorem diskB_stop {live safe : List Fl} {ops : List Dp} {k : Nat} (hk : k < ops.length) {now : List Fl} (hr : runL safe (ops.take k) = some now) (hs : stepL now ops[k] = none) : diskB ⟨live, safe, ops⟩ = false := by
  have e : runL safe ops = none := runL_none safe ops (k + 1) (by rw [runL_next safe ops k hk hr]; exact hs)
  simp [diskB, e, isRun]
set_option maxHeartbeats 8000000 in
theorem specDiskOk_any (la sa oa : Option Addr) (lc sc oc : Nat) (live safe : List Fl) (ops : List Dp) (w : World) (hl : live.length ≤ 1048576) (hs : safe.length ≤ 1048576) (hn : ops.length ≤ 1048576) (gl : SmF live) (gs : SmF safe) (go : ∀ o ∈ ops, SmO o) (hsc : sa = none → sc = 0)
    (h1 : RowAt 2 flCells w la live) (h2 : RowAt 2 flCells w sa safe) (h3 : RowAt 4 dpCells w oa ops) :
    Calls Try.prog 8 #[.agg #[.slice la live.length lc, .slice sa safe.length sc, .slice oa ops.length oc]] w fun e w' => e = .returned (.bool (diskB ⟨live, safe, ops⟩)) ∧ Below w.heap.size w w' := by
  have H1 : Hid _ := hide h1
  have H2 : Hid _ := hide h2
  have H3 : Hid _ := hide h3
  have GO : Hid _ := hide go
  have HSC : Hid _ := hide hsc
  clear h1 h2 h3 go hsc
  have HX0 : Hid (Below (w.heap.size + 1) (w.alloc (.cells #[.slice la live.length lc, .slice sa safe.length sc, .slice oa ops.length oc] 27)) (w.alloc (.cells #[.slice la live.length lc, .slice sa safe.length sc, .slice oa ops.length oc] 27))) := hide (Below.refl _ _)
  go_enter Try.func8, Try.ntmps8
  go_wp2_with fail
  refine (l8Files_any la live lc _ hl gl.g (H1.out.below (box_old HX0.out))).mono ?_
  rintro e w1 ⟨rfl, hb1⟩
  have HX1 : Hid _ := hide (box_on HX0.out hb1)
  clear hb1 HX0
  obtain ⟨x0, x1, x2⟩ := box3 HX1.out
  have xl := box_lt HX1.out
  cases q1 : filesB live
  · have HR : Hid (diskB ⟨live, safe, ops⟩ = false) := hide (by simp [diskB, q1])
    go_wp2
    go_ret
    exact ⟨by rw [HR.out]; rfl, box_old HX1.out⟩
  · go_wp2_with fail
    refine (l8Files_any sa safe sc _ hs gs.g (H2.out.below (box_old HX1.out))).mono ?_
    rintro e w2 ⟨rfl, hb2⟩
    have HX2 : Hid _ := hide (box_on HX1.out hb2)
    clear hb2 HX1 x0 x1 x2 xl
    obtain ⟨x0, x1, x2⟩ := box3 HX2.out
    have xl := box_lt HX2.out
    cases q2 : filesB safe
    · have HR : Hid (diskB ⟨live, safe, ops⟩ = false) := hide (by simp [diskB, q2])
      go_wp2
      go_ret
      exact ⟨by rw [HR.out]; rfl, box_old HX2.out⟩
    · by_cases h200 : ops.length ≤ 200
      · have a2 : ¬ (200 : Int) < (ops.length : Int) := by omega
        have HRUN : Hid _ := hide (diskB_run q1 q2 h200)
        have HQ2 : Hid _ := hide q2
        have h60 : live.length ≤ 60 := (filesB_parts q1).1
        have hs60 : safe.length ≤ 60 := (filesB_parts q2).1
        clear q1 q2
        go_wp2
        go_loopw [3, 4] (fun v i wr => ∃ (k : Nat) (now : List Fl) (na : Option Addr) (nc : Nat), k ≤ ops.length ∧ i = .int .i64 (k : Int) ∧ v = .slice na now.length nc ∧ now.length ≤ 60 ∧ Hid (na = none → nc = 0) ∧ Hid (runL safe (ops.take k) = some now) ∧ Hid (filesB now = true) ∧ Hid (RowAt 2 flCells wr na now) ∧ Hid (Below (w.heap.size + 1) (w.alloc (.cells #[.slice la live.length lc, .slice sa safe.length sc, .slice oa ops.length oc] 27)) wr)) (fun v i wr => ops.length - (intOf i).toNat)
        case atStart => exact ⟨0, safe, sa, sc, Nat.zero_le _, rfl, rfl, hs60, HSC, hide rfl, HQ2, hide (H2.out.below (box_old HX2.out)), HX2⟩
        case round =>
          obtain ⟨k, now, na, nc, hk, rfl, rfl, hnl, HNC, HRK, HFN, HRW, HX⟩ := hrel
          clear x0 x1 x2 xl
          obtain ⟨x0, x1, x2⟩ := box3 HX.out
          have xl := box_lt HX.out
          by_cases hlt : k < ops.length
          · have hlt' : (k : Int) < (ops.length : Int) := by omega
            obtain ⟨b, off, rfl, hb, c0, c1, c2, c3⟩ := dp_row (H3.out.below (box_old HX.out)) k hlt
            have HSO : Hid (SmO ops[k]) := hide (GO.out _ (List.getElem_mem hlt))
            have HDS : Hid _ := hide (doL_small HFN.out HSO.out)
            go_wp2_with fail
            refine (l8Do_any na now nc ops[k] wr (by omega) HNC.out (filesB_sm HFN.out).g HSO.out HRW.out).mono ?_
            rintro e w3 ⟨hb3, v3, rfl, ho3⟩
            obtain ⟨a3, cp3, rfl, hr3, hn3⟩ := own_read ho3
            have HX3 : Hid _ := hide (box_on HX.out hb3)
            have HR3 : Hid _ := hide hr3
            have HN3 : Hid _ := hide hn3
            have hb' : b < w3.heap.size := Nat.lt_of_lt_of_le hb hb3.size
            have d0 : w3.cell? ⟨b, off + k * 4, none⟩ = some (.int .i64 (ops[k]).kind) := (hb3.cell hb).trans c0
            have d1 : w3.cell? ⟨b, off + k * 4 + 1, none⟩ = some (.string (ops[k]).nm) := (hb3.cell hb).trans c1
            have d2 : w3.cell? ⟨b, off + k * 4 + 2, none⟩ = some (.string (ops[k]).tn) := (hb3.cell hb).trans c2
            have d3 : w3.cell? ⟨b, off + k * 4 + 3, none⟩ = some (.string (ops[k]).da) := (hb3.cell hb).trans c3
            clear hb3 ho3 hr3 hn3 HX x0 x1 x2 xl c0 c1 c2 c3 hb
            obtain ⟨x0, x1, x2⟩ := box3 HX3.out
            have xl := box_lt HX3.out
            have HST : Hid (stepL now ops[k] = if (doL now ops[k]).2 && formB ops[k] && filesB (doL now ops[k]).1 then some (doL now ops[k]).1 else none) := hide rfl
            have HLN : Hid ((doL now ops[k]).1.length ≤ 200) := hide HDS.out.2
            have HSG : Hid (SmG (doL now ops[k]).1) := hide HDS.out.1.up
            clear HDS
            generalize (doL now ops[k]).1 = nx at *
            generalize (doL now ops[k]).2 = ok at *
            cases ok
            · have HR : Hid (diskB ⟨live, safe, ops⟩ = false) := hide (diskB_stop hlt HRK.out (by rw [HST.out]; rfl))
              go_wp2
              go_ret
              exact ⟨by rw [HR.out]; rfl, box_old HX3.out⟩
            · go_wp2_with fail
              refine (l8Form_any ops[k] w3 HSO.out).mono ?_
              rintro e w4 ⟨rfl, hb4⟩
              have HX4 : Hid _ := hide (box_on HX3.out hb4)
              have HR4 : Hid _ := hide (HR3.out.below hb4)
              clear hb4 HX3 HR3 x0 x1 x2 xl
              obtain ⟨x0, x1, x2⟩ := box3 HX4.out
              have xl := box_lt HX4.out
              cases q3 : formB ops[k]
              · have HR : Hid (diskB ⟨live, safe, ops⟩ = false) := hide (diskB_stop hlt HRK.out (by rw [HST.out, q3]; rfl))
                go_wp2
                go_ret
                exact ⟨by rw [HR.out]; rfl, box_old HX4.out⟩
              · go_wp2_with fail
                refine (l8Files_any a3 nx cp3 w4 (by have := HLN.out; omega) HSG.out HR4.out).mono ?_
                rintro e w5 ⟨rfl, hb5⟩
                have HX5 : Hid _ := hide (box_on HX4.out hb5)
                have HR5 : Hid _ := hide (HR4.out.below hb5)
                clear hb5 HX4 HR4 x0 x1 x2 xl
                cases q4 : filesB nx
                · have HR : Hid (diskB ⟨live, safe, ops⟩ = false) := hide (diskB_stop hlt HRK.out (by rw [HST.out, q3, q4]; rfl))
                  go_wp2
                  go_ret
                  exact ⟨by rw [HR.out]; rfl, box_old HX5.out⟩
                · have HRK2 : Hid (runL safe (ops.take (k + 1)) = some nx) := hide (by rw [runL_next safe ops k hlt HRK.out, HST.out, q3, q4]; rfl)
                  have hn60 : nx.length ≤ 60 := (filesB_parts q4).1
                  have HQ4 : Hid _ := hide q4
                  clear q3 q4
                  go_wp2
                  exact ⟨⟨k + 1, nx, a3, cp3, by omega, by go_num, rfl, hn60, HN3, HRK2, HQ4, HR5, HX5⟩, by simp [intOf]; omega⟩
          · have hk' : ¬ (k : Int) < (ops.length : Int) := by omega
            have HRR : Hid (diskB ⟨live, safe, ops⟩ = decide (now = live)) := hide (by
              have := HRK.out
              rw [List.take_of_length_le (by omega)] at this
              rw [HRUN.out, this]
              rfl)
            go_wp2_with fail
            refine (l8Same_any na la now live nc lc wr (by omega) (by omega) HRW.out (H1.out.below (box_old HX.out))).mono ?_
            rintro e w3 ⟨rfl, hb3⟩
            have HE : Hid (Below w.heap.size w w3) := hide (below_trans (box_old HX.out) hb3)
            clear hb3
            go_wp2
            go_ret
            exact ⟨by rw [HRR.out]; rfl, HE.out⟩
      · have a2 : (200 : Int) < (ops.length : Int) := by omega
        have HR : Hid (diskB ⟨live, safe, ops⟩ = false) := hide (by simp [diskB, h200])
        go_wp2
        go_ret
        exact ⟨by rw [HR.out]; rfl, box_old HX2.out⟩
end Go.Proofs.Ytiilkkdbifhojaa
