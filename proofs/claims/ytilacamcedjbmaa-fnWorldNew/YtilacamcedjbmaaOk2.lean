/- The contracts of RightsOk, of the program and of its model: the walks. -/
import Derived.Test.YtilacamcedjbmaaOk
namespace Go.Proofs.Ytilacamcedjbmaa
open Go.ChangeShapes Go.WideShapes Go.ChangeAt Go.RowKit
set_option linter.unusedVariables false
theorem rightsB_len {l : List Slt} (h : ¬ (1 ≤ l.length ∧ l.length ≤ 8)) : rightsB l = false := by
  by_cases h1 : 1 ≤ l.length
  · have h2 : ¬ l.length ≤ 8 := fun h2 => h ⟨h1, h2⟩
    simp [rightsB, h2]
  · have : l = [] := List.length_eq_zero_iff.1 (by omega)
    subst this
    simp [rightsB]
set_option maxRecDepth 100000 in
set_option maxHeartbeats 2000000 in
theorem implRightsOk_any (a : Option Addr) (l : List Slt) (cap : Nat) (w : World) (hl : l.length ≤ 1048576) (hcap : l.length ≤ cap) (h : SlotAt w a l) :
    Calls Try.prog 13 #[.slice a l.length cap] w fun e w' => e = .returned (.bool (rightsB l)) ∧ Below w.heap.size w w' := by
  have HC : Hid _ := hide h
  clear h
  cases q : inB 1 8 (l.length : Int)
  · have HR : Hid (rightsB l = false) := hide (rightsB_len (fun g => by
      have : inB 1 8 (l.length : Int) = true := by simp only [inB, decide_eq_true_eq]; omega
      rw [this] at q; cases q))
    go_enter Try.func13, Try.ntmps13
    go_wp2_with (go_at_call 24; refine (within_any _ _ _ _).mono ?_; rintro e w' ⟨rfl, hw'⟩; have hw'' := hw'.symm; subst hw'')
    go_ret
    exact ⟨by rw [HR.out]; rfl, Below.refl _ _⟩
  · have q' : (1 : Int) ≤ (l.length : Int) ∧ (l.length : Int) ≤ 8 := by simpa only [inB, decide_eq_true_eq] using q
    have h8 : l.length ≤ 8 := by omega
    have h1 : 1 ≤ l.length := by omega
    clear q'
    go_enter Try.func13, Try.ntmps13
    go_wp2_with (go_at_call 24; refine (within_any _ _ _ _).mono ?_; rintro e w' ⟨rfl, hw'⟩; have hw'' := hw'.symm; subst hw'')
    go_loopw [11] (fun i wr => ∃ k : Nat, k ≤ l.length ∧ i = .int .i64 (k : Int) ∧ Below w.heap.size w wr ∧ Hid (GoodTo l k)) (fun i wr => l.length - (intOf i).toNat)
    case atStart => exact ⟨0, Nat.zero_le _, rfl, Below.refl _ _, hide (fun j _ hj => by omega)⟩
    case round =>
      obtain ⟨k, hk, rfl, HB, HG⟩ := hrel
      by_cases hlt : k < l.length
      · have HC2 : Hid _ := hide (HC.out.below HB)
        obtain ⟨b, off, rfl, hb, c0, c1, c2, _⟩ := HC2.out k hlt
        have hlt' : (k : Int) < (l.length : Int) := by omega
        have hkc : (k : Int) ≤ (cap : Int) := by omega
        have hkc2 : k ≤ cap := by omega
        have htl : (l.take k).length = k := by simp; omega
        have HT : Hid _ := hide (fun y : Later (wr.alloc (.cells #[.int .i64 (l[k]).id, .int .i64 (l[k]).up, .int .i64 (l[k]).has] 37)) => ((HC2.out.below (below_alloc (Below.refl _ _) _)).below y.below).take k)
        obtain ⟨s0', s1', s2'⟩ := later_new3 (wr := wr) (v0 := .int .i64 (l[k]).id) (v1 := .int .i64 (l[k]).up) (v2 := .int .i64 (l[k]).has) (T := 37)
        have hne : Nonempty (Later (wr.alloc (.cells #[.int .i64 (l[k]).id, .int .i64 (l[k]).up, .int .i64 (l[k]).has] 37))) := later_there _
        have hcall : ∀ y : Later (wr.alloc (.cells #[.int .i64 (l[k]).id, .int .i64 (l[k]).up, .int .i64 (l[k]).has] 37)), Calls Try.prog 25 #[.slice (some ⟨b, off, none⟩) k cap, .agg #[.int .i64 (l[k]).id, .int .i64 (l[k]).up, .int .i64 (l[k]).has]] y.w fun e w' => e = .returned (.bool (slotB (l.take k) l[k])) ∧ Below y.w.heap.size y.w w' := fun y => by
          have := slotOk_any (some ⟨b, off, none⟩) (l.take k) cap (l[k]) y.w (by omega) (HT.out y)
          rwa [htl] at this
        have HCL : Hid _ := hide hcall
        clear hcall htl HT
        cases hq : slotB (l.take k) l[k]
        · have HR : Hid (rightsB l = false) := hide (rightsB_no hlt hq)
          rw [hq] at HCL
          go_wp2_with fail
          refine wp_region_later (wr.alloc (.cells #[.int .i64 (l[k]).id, .int .i64 (l[k]).up, .int .i64 (l[k]).has] 37)) (by kernel_rfl) (by kernel_rfl) ((Below.refl _ _).drew) ?_
          repeat (go_big_quiet_step (first | (go_at_call 25; exact later_of (HCL.out _))))
          refine wpQuiet_nil ?_
          intro _ hw'
          obtain ⟨nx, rfl⟩ := hw'
          go_wp2
          go_ret
          exact ⟨by rw [HR.out]; rfl, below_trans HB (below_trans (below_alloc (Below.refl _ _) _) nx.below)⟩
        · have HG2 : Hid (GoodTo l (k + 1)) := hide (HG.out.step hlt hq)
          rw [hq] at HCL
          go_wp2_with fail
          refine wp_region_later (wr.alloc (.cells #[.int .i64 (l[k]).id, .int .i64 (l[k]).up, .int .i64 (l[k]).has] 37)) (by kernel_rfl) (by kernel_rfl) ((Below.refl _ _).drew) ?_
          repeat (go_big_quiet_step (first | (go_at_call 25; exact later_of (HCL.out _))))
          refine wpQuiet_nil ?_
          intro _ hw'
          obtain ⟨nx, rfl⟩ := hw'
          go_wp2
          exact ⟨⟨k + 1, by omega, by go_num, below_trans HB (below_trans (below_alloc (Below.refl _ _) _) nx.below), HG2⟩, by simp [intOf]; omega⟩
      · have hk' : ¬ (k : Int) < (l.length : Int) := by omega
        have HG2 : Hid (GoodTo l l.length) := hide (by have := HG.out; rwa [show k = l.length by omega] at this)
        have HR : Hid (rightsB l = decide (sumL l ≤ 1000000000000)) := hide (rightsB_end h1 h8 HG2.out)
        go_wp2_with fail
        refine (together_any a l cap wr (HG2.out.small h8) (HC.out.below HB)).mono ?_
        rintro e w2 ⟨rfl, hb2⟩
        have HB2 : Hid _ := hide (below_trans HB hb2)
        clear hb2
        go_wp2
        go_ret
        exact ⟨by rw [HR.out]; rfl, HB2.out⟩
end Go.Proofs.Ytilacamcedjbmaa
