/- The contract of the model's RightsOk. -/
import Derived.Test.YtilacamcedjbmaaOk2
namespace Go.Proofs.Ytilacamcedjbmaa
open Go.ChangeShapes Go.WideShapes Go.ChangeAt Go.RowKit
set_option linter.unusedVariables false
set_option maxRecDepth 100000 in
set_option maxHeartbeats 8000000 in
theorem specRightsOk_any (a : Option Addr) (l : List Slt) (cap : Nat) (w : World) (hl : l.length ≤ 1048576) (hcap : l.length ≤ cap) (h : SlotAt w a l) :
    Calls Try.prog 16 #[.slice a l.length cap] w fun e w' => e = .returned (.bool (rightsB l)) ∧ Below w.heap.size w w' := by
  have HC : Hid _ := hide h
  clear h
  by_cases h1 : 1 ≤ l.length
  · by_cases h8 : l.length ≤ 8
    · have a1 : ¬ (l.length : Int) < 1 := by omega
      have a2 : ¬ (8 : Int) < (l.length : Int) := by omega
      go_enter Try.func16, Try.ntmps16
      go_wp2
      go_loopw [3] (fun i wr => ∃ k : Nat, k ≤ l.length ∧ i = .int .i64 (k : Int) ∧ Below w.heap.size w wr ∧ Hid (GoodTo l k)) (fun i wr => l.length - (intOf i).toNat)
      case atStart => exact ⟨0, Nat.zero_le _, rfl, Below.refl _ _, hide (fun j _ hj => by omega)⟩
      case round =>
        obtain ⟨k, hk, rfl, HB, HG⟩ := hrel
        by_cases hlt : k < l.length
        · have HC2 : Hid _ := hide (HC.out.below HB)
          obtain ⟨b, off, rfl, hb, c0, c1, c2, _⟩ := HC2.out k hlt
          have hlt' : (k : Int) < (l.length : Int) := by omega
          have hkc : (k : Int) ≤ (cap : Int) := by omega
          have hkc2 : k ≤ cap := by omega
          have htl : (l.take k).length = k := by simp; omega
          have HT : Hid _ := hide (fun y : Later (wr.alloc (.cells #[.int .i64 (l[k]).id, .int .i64 (l[k]).up, .int .i64 (l[k]).has] 37)) => ((HC2.out.below (below_alloc (Below.refl _ _) _)).below y.below).take k)
          obtain ⟨s0', s1', s2'⟩ := later_new3 (wr := wr) (v0 := .int .i64 (l[k]).id) (v1 := .int .i64 (l[k]).up) (v2 := .int .i64 (l[k]).has) (T := 37)
          have hne : Nonempty (Later (wr.alloc (.cells #[.int .i64 (l[k]).id, .int .i64 (l[k]).up, .int .i64 (l[k]).has] 37))) := later_there _
          have hcall : ∀ y : Later (wr.alloc (.cells #[.int .i64 (l[k]).id, .int .i64 (l[k]).up, .int .i64 (l[k]).has] 37)), Calls Try.prog 28 #[.slice (some ⟨b, off, none⟩) k cap, .int .i64 (l[k]).up] y.w fun e w' => e = .returned (.int .i64 (posL (l.take k) (l[k]).up)) ∧ w' = y.w := fun y => by
            have := l4Find_any (some ⟨b, off, none⟩) (l.take k) cap (l[k]).up y.w (by omega) (HT.out y)
            rwa [htl] at this
          have HCL : Hid _ := hide hcall
          clear hcall htl HT
          cases q1 : inB 1 1000000000 (l[k]).id
          · have HR : Hid (rightsB l = false) := hide (rightsB_no hlt (by simp [slotB, q1]))
            go_wp2_with fail
            refine wp_region_later (wr.alloc (.cells #[.int .i64 (l[k]).id, .int .i64 (l[k]).up, .int .i64 (l[k]).has] 37)) (by kernel_rfl) (by kernel_rfl) ((Below.refl _ _).drew) ?_
            repeat (go_big_quiet_step (first | (go_at_call 27; exact later_same (l1In_any _ _ _ _)) | (go_at_call 28; exact later_same (HCL.out _))))
            refine wpQuiet_nil ?_
            intro _ hw'
            obtain ⟨nx, rfl⟩ := hw'
            go_wp2
            go_ret
            exact ⟨by rw [HR.out]; rfl, below_trans HB (below_trans (below_alloc (Below.refl _ _) _) nx.below)⟩
          · by_cases hz : k = 0
            · have hz1 : decide ((0 : Int) < (k : Int)) = false := by simp; omega
              have hz2 : decide (0 < k) = false := by simp; omega
              have hz3 : ((k : Int) == 0) = true := by simp; omega
              have hz4 : (k == 0) = true := by simp; omega
              have hsb : slotB (l.take k) l[k] = (inB 1 1000000000 (l[k]).id && inB 0 1000000000000 (l[k]).has && ((l[k]).up == 0)) := by subst hz; exact slotB_zero hlt
              have HSB : Hid _ := hide hsb
              clear hsb hz
              cases q2 : inB 0 1000000000000 (l[k]).has
              · have HR : Hid (rightsB l = false) := hide (rightsB_no hlt (by rw [HSB.out, q2]; simp))
                go_wp2_with fail
                refine wp_region_later (wr.alloc (.cells #[.int .i64 (l[k]).id, .int .i64 (l[k]).up, .int .i64 (l[k]).has] 37)) (by kernel_rfl) (by kernel_rfl) ((Below.refl _ _).drew) ?_
                repeat (go_big_quiet_step (first | (go_at_call 27; exact later_same (l1In_any _ _ _ _)) | (go_at_call 28; exact later_same (HCL.out _))))
                refine wpQuiet_nil ?_
                intro _ hw'
                obtain ⟨nx, rfl⟩ := hw'
                go_wp2
                go_ret
                exact ⟨by rw [HR.out]; rfl, below_trans HB (below_trans (below_alloc (Below.refl _ _) _) nx.below)⟩
              · cases q3 : ((l[k]).up != 0)
                · have HG2 : Hid (GoodTo l (k + 1)) := hide (HG.out.step hlt (by rw [HSB.out, q1, q2]; simpa using q3))
                  go_wp2_with fail
                  refine wp_region_later (wr.alloc (.cells #[.int .i64 (l[k]).id, .int .i64 (l[k]).up, .int .i64 (l[k]).has] 37)) (by kernel_rfl) (by kernel_rfl) ((Below.refl _ _).drew) ?_
                  repeat (go_big_quiet_step (first | (go_at_call 27; exact later_same (l1In_any _ _ _ _)) | (go_at_call 28; exact later_same (HCL.out _))))
                  refine wpQuiet_nil ?_
                  intro _ hw'
                  obtain ⟨nx, rfl⟩ := hw'
                  go_wp2
                  exact ⟨⟨k + 1, by omega, by go_num, below_trans HB (below_trans (below_alloc (Below.refl _ _) _) nx.below), HG2⟩, by simp [intOf]; omega⟩
                · have HR : Hid (rightsB l = false) := hide (rightsB_no hlt (by rw [HSB.out, q1, q2]; simpa using q3))
                  go_wp2_with fail
                  refine wp_region_later (wr.alloc (.cells #[.int .i64 (l[k]).id, .int .i64 (l[k]).up, .int .i64 (l[k]).has] 37)) (by kernel_rfl) (by kernel_rfl) ((Below.refl _ _).drew) ?_
                  repeat (go_big_quiet_step (first | (go_at_call 27; exact later_same (l1In_any _ _ _ _)) | (go_at_call 28; exact later_same (HCL.out _))))
                  refine wpQuiet_nil ?_
                  intro _ hw'
                  obtain ⟨nx, rfl⟩ := hw'
                  go_wp2
                  go_ret
                  exact ⟨by rw [HR.out]; rfl, below_trans HB (below_trans (below_alloc (Below.refl _ _) _) nx.below)⟩
            · obtain ⟨m, hm⟩ : ∃ m, k = m + 1 := ⟨k - 1, by omega⟩
              have hm3 : m < l.length := by omega
              obtain ⟨b', off', heq, _, p0, _, _, _⟩ := HC2.out m hm3
              simp only [Option.some.injEq, Addr.mk.injEq, and_true] at heq
              obtain ⟨rfl, rfl⟩ := heq
              have p0' := later_old (o := .cells #[.int .i64 (l[k]).id, .int .i64 (l[k]).up, .int .i64 (l[k]).has] 37) hb p0
              have hz1 : (0 : Int) < (k : Int) := by omega
              have hz2 : 0 < k := by omega
              have hz3 : ((k : Int) == 0) = false := by simp; omega
              have hz4 : (k == 0) = false := by simp; omega
              have hm1 : IntKind.i64.wrap ((k : Int) - 1) = (m : Int) := by rw [show (k : Int) - 1 = (m : Int) by omega]; simp only [IntKind.wrap, IntKind.signed, IntKind.bits]; simp; omega
              have hm2 : (m : Int) < (l.length : Int) := by omega
              have hsb : slotB (l.take k) l[k] = (inB 1 1000000000 (l[k]).id && inB 0 1000000000000 (l[k]).has && (decide (l[m].id < (l[k]).id) && decide (0 ≤ posL (l.take k) (l[k]).up))) := by subst hm; exact slotB_succ hlt
              have HSB : Hid _ := hide hsb
              clear hsb hm hz
              cases q2 : decide ((l[k]).id ≤ l[m].id)
              · have q2' : decide (l[m].id < (l[k]).id) = true := by simp at q2 ⊢; omega
                have Q2 : Hid _ := hide q2'
                clear q2'
                cases q3 : inB 0 1000000000000 (l[k]).has
                · have HR : Hid (rightsB l = false) := hide (rightsB_no hlt (by rw [HSB.out, q3]; simp))
                  go_wp2_with fail
                  refine wp_region_later (wr.alloc (.cells #[.int .i64 (l[k]).id, .int .i64 (l[k]).up, .int .i64 (l[k]).has] 37)) (by kernel_rfl) (by kernel_rfl) ((Below.refl _ _).drew) ?_
                  repeat (go_big_quiet_step (first | (go_at_call 27; exact later_same (l1In_any _ _ _ _)) | (go_at_call 28; exact later_same (HCL.out _))))
                  refine wpQuiet_nil ?_
                  intro _ hw'
                  obtain ⟨nx, rfl⟩ := hw'
                  go_wp2
                  go_ret
                  exact ⟨by rw [HR.out]; rfl, below_trans HB (below_trans (below_alloc (Below.refl _ _) _) nx.below)⟩
                · cases q4 : decide (posL (l.take k) (l[k]).up < 0)
                  · have HG2 : Hid (GoodTo l (k + 1)) := hide (HG.out.step hlt (by rw [HSB.out, q1, q3, Q2.out]; simpa using q4))
                    go_wp2_with fail
                    refine wp_region_later (wr.alloc (.cells #[.int .i64 (l[k]).id, .int .i64 (l[k]).up, .int .i64 (l[k]).has] 37)) (by kernel_rfl) (by kernel_rfl) ((Below.refl _ _).drew) ?_
                    repeat (go_big_quiet_step (first | (go_at_call 27; exact later_same (l1In_any _ _ _ _)) | (go_at_call 28; exact later_same (HCL.out _))))
                    refine wpQuiet_nil ?_
                    intro _ hw'
                    obtain ⟨nx, rfl⟩ := hw'
                    go_wp2
                    exact ⟨⟨k + 1, by omega, by go_num, below_trans HB (below_trans (below_alloc (Below.refl _ _) _) nx.below), HG2⟩, by simp [intOf]; omega⟩
                  · have HR : Hid (rightsB l = false) := hide (rightsB_no hlt (by rw [HSB.out, q1, q3, Q2.out]; simpa using q4))
                    go_wp2_with fail
                    refine wp_region_later (wr.alloc (.cells #[.int .i64 (l[k]).id, .int .i64 (l[k]).up, .int .i64 (l[k]).has] 37)) (by kernel_rfl) (by kernel_rfl) ((Below.refl _ _).drew) ?_
                    repeat (go_big_quiet_step (first | (go_at_call 27; exact later_same (l1In_any _ _ _ _)) | (go_at_call 28; exact later_same (HCL.out _))))
                    refine wpQuiet_nil ?_
                    intro _ hw'
                    obtain ⟨nx, rfl⟩ := hw'
                    go_wp2
                    go_ret
                    exact ⟨by rw [HR.out]; rfl, below_trans HB (below_trans (below_alloc (Below.refl _ _) _) nx.below)⟩
              · have HR : Hid (rightsB l = false) := hide (rightsB_no hlt (by rw [HSB.out]; have q2' : decide (l[m].id < (l[k]).id) = false := (by simp at q2 ⊢; omega); rw [q2']; simp))
                go_wp2_with fail
                refine wp_region_later (wr.alloc (.cells #[.int .i64 (l[k]).id, .int .i64 (l[k]).up, .int .i64 (l[k]).has] 37)) (by kernel_rfl) (by kernel_rfl) ((Below.refl _ _).drew) ?_
                repeat (go_big_quiet_step (first | (go_at_call 27; exact later_same (l1In_any _ _ _ _)) | (go_at_call 28; exact later_same (HCL.out _))))
                refine wpQuiet_nil ?_
                intro _ hw'
                obtain ⟨nx, rfl⟩ := hw'
                go_wp2
                go_ret
                exact ⟨by rw [HR.out]; rfl, below_trans HB (below_trans (below_alloc (Below.refl _ _) _) nx.below)⟩
        · have hk' : ¬ (k : Int) < (l.length : Int) := by omega
          have HG2 : Hid (GoodTo l l.length) := hide (by have := HG.out; rwa [show k = l.length by omega] at this)
          have HR : Hid (rightsB l = decide (sumL l ≤ 1000000000000)) := hide (rightsB_end h1 h8 HG2.out)
          go_wp2_with fail
          refine (l4Sum_any a l cap wr (HG2.out.small h8) (HC.out.below HB)).mono ?_
          rintro e w2 ⟨rfl, hw2⟩
          have hw3 := hw2.symm
          subst hw3
          go_wp2
          go_ret
          exact ⟨by rw [HR.out]; rfl, HB⟩
    · have HR : Hid (rightsB l = false) := hide (rightsB_len (by omega))
      have a1 : ¬ (l.length : Int) < 1 := by omega
      have a2 : (8 : Int) < (l.length : Int) := by omega
      go_enter Try.func16, Try.ntmps16
      go_wp2
      go_ret
      exact ⟨by rw [HR.out]; rfl, Below.refl _ _⟩
  · have HR : Hid (rightsB l = false) := hide (rightsB_len (by omega))
    have a1 : (l.length : Int) < 1 := by omega
    go_enter Try.func16, Try.ntmps16
    go_wp2
    go_ret
    exact ⟨by rw [HR.out]; rfl, Below.refl _ _⟩
end Go.Proofs.Ytilacamcedjbmaa
