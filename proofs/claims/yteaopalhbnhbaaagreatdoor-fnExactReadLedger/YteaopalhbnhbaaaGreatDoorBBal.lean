/- The contract of the book's balancesOk. -/
import Derived.Test.YteaopalhbnhbaaaGreatDoorBPair2
namespace Go.Proofs.YteaopalhbnhbaaaGreatDoor
open Go.ChangeShapes Go.WideShapes Go.ChangeAt Go.RowKit Go.Maps
set_option linter.unusedVariables false
set_option maxRecDepth 100000
/-- what the program asks of an account beside all others -/
def balI (L : Led) (x : Acc) : Bool := decide (heldL x.name L.hold ≤ 1000000000000) && covB x (heldL x.name L.hold) 0 && decide (totL x.cur L.acc = 0)
theorem all_false {A : Type} {f : A → Bool} {l : List A} {j : Nat} (hj : j < l.length) (h : f l[j] = false) : l.all f = false := by
  rw [List.all_eq_false]
  exact ⟨l[j], List.getElem_mem hj, by simp [h]⟩
theorem struck {left : Lit → Bool} {L : Led} {f : Acc → Bool} (hd : Apart L.acc) {j : Nat} (hj : j < L.acc.length) (h : ∀ i (hi : i < L.acc.length), left (kn L.acc[i].name) = false → f L.acc[i] = true) (hf : f L.acc[j] = true) :
    ∀ i (hi : i < L.acc.length), (left (kn L.acc[i].name) && !(kn L.acc[i].name).sameKey (kn L.acc[j].name)) = false → f L.acc[i] = true := fun i hi hs => by
  cases hl : left (kn L.acc[i].name)
  · exact h i hi hl
  · rw [hl] at hs
    have : (kn L.acc[i].name).sameKey (kn L.acc[j].name) = true := by simpa using hs
    have e := sameKey_kn.1 this
    rcases Nat.lt_trichotomy i j with h1 | h1 | h1
    · exact absurd e (hd i j hi hj h1)
    · subst h1; exact hf
    · exact absurd e.symm (hd j i hj hi h1)
set_option maxRecDepth 100000 in
set_option maxHeartbeats 8000000 in
theorem balancesOk_any (q : Nat) (L : Led) (w : World) (hs : SmallH L.hold) (ha : SmallA L.acc) (hx : ∀ x ∈ L.acc, SmallX x) (hd : Apart L.acc) (hB : BookAt w q L) :
    Calls Tryz.prog 32 #[.pointer (some ⟨q, 0, none⟩)] w fun e w' => e = .returned (.bool (L.acc.all (balI L))) ∧ Below w.heap.size w w' := by
  have HBk : Hid _ := hide hB
  obtain ⟨hq, m, h, s, ch, cs, c0, c1, c2, hh, hsn, hm⟩ := hB
  obtain ⟨D, hown, hi⟩ := hm
  have HI : Hid _ := hide hi
  have HD : Hid _ := hide hd
  have HS : Hid _ := hide hs
  have HA : Hid _ := hide ha
  have HX : Hid _ := hide hx
  clear hi hs hd ha hx c1 c2 hh hsn
  go_enter Tryz.func32, Tryz.ntmps32
  go_wp2_with (first
    | (at_range; refine wpList_range_own _ rfl _ 100 rfl 9 105 law9 u64 _ m L.acc.length D rfl hown ?_; intro w0 hrg0 hg0 hs0)
    | go_in)
  go_frame
  have HB0 : Hid (Below w.heap.size w w0) := hide ((Below.refl _ _).grown hg0 (Nat.le_refl _) (fun j hj => by cases hj))
  go_loopw [4] (fun _ wr => ∃ (left : Lit → Bool) (cnt : Nat), wr.ranges Tryz.prog 9 ptrElem m w.heap.size L.acc.length D left cnt ∧ Below w.heap.size w wr ∧ Hid (∀ i (hi : i < L.acc.length), left (kn L.acc[i].name) = false → balI L L.acc[i] = true)) (fun _ wr => wr.rangeLeft m w.heap.size)
  case atStart =>
    refine ⟨_, _, hrg0, HB0.out, hide ?_⟩
    intro i hi' hf
    obtain ⟨p, hp, _⟩ := HI.out.at_ i hi'
    rw [has_true_of_atKey hp] at hf
    cases hf
  case round =>
    obtain ⟨left, cnt, hrg, HB, HOK⟩ := hrel
    have hin : MapIs wr D L.acc := HI.out.kept HB.size (below_keeps HB)
    go_wp2_with (first
      | (at_next; refine wpList_next_book _ rfl _ rfl m w.heap.size L.acc.length D left cnt rfl hrg L.acc hin ?_ ?_)
      | go_in)
    · intro hl0
      have HE : Hid (L.acc.all (balI L) = true) := hide (by
        rw [List.all_eq_true]
        intro x hx'
        obtain ⟨i, hi', rfl⟩ := List.getElem_of_mem hx'
        exact HOK.out i hi' (hl0 _))
      clear hl0
      go_wp2
      go_ret
      exact ⟨by rw [HE.out]; rfl, HB⟩
    · intro j hj p w1 cnt1 hlj hblk hrg1 hlt hg1 hs1 hen
      have HB1 : Hid (Below w.heap.size w w1) := hide (HB.grown hg1 HB.size (fun k hk => by cases hk; exact Nat.le_refl _))
      have hblk1 := hblk.kept hg1.size (iter_keeps hrg hg1)
      have HP : Hid _ := hide hblk1
      obtain ⟨p0, p1, p2, p3, p4⟩ := hblk1
      have HM : Hid (cnt1 < wr.rangeLeft m w.heap.size) := hide (by rw [hrg.left_eq]; exact hlt)
      have HR1 : Hid _ := hide hrg1
      have HXj : Hid _ := hide (HX.out _ (List.getElem_mem hj))
      clear hrg1 hrg hin hblk hg1 hs1 hlt hlj hrg0 hg0 hs0 hown p3 p4
      have HBk1 : Hid (∀ x, Below w1.heap.size w1 x → BookAt x q L) := hide (fun x hb => HBk.out.below (below_trans HB1.out hb))
      by_cases q1 : heldL (L.acc[j]).name L.hold ≤ 1000000000000
      · have q1' : decide (1000000000000 < heldL (L.acc[j]).name L.hold) = false := by simp; omega
        cases q2 : covB (L.acc[j]) (heldL (L.acc[j]).name L.hold) 0
        · have HF : Hid (L.acc.all (balI L) = false) := hide (all_false hj (by unfold balI; rw [q2]; simp))
          clear q1
          go_wp2_with (first | (go_at_call 75; refine (held_any q L _ _ HS.out (HBk1.out _ (Below.refl _ _))).mono ?_; rintro e wa ⟨rfl, hba⟩; have HBa : Hid _ := hide hba; have p1a := below_keeps hba _ _ p1; have p2a := below_keeps hba _ _ p2; clear hba) | (go_at_call 76; refine (covers_any q p L (L.acc[j]) 0 _ HS.out HXj.out (by omega) (HBk1.out _ HBa.out) (HP.out.kept HBa.out.size (below_keeps HBa.out))).mono ?_; rintro e wb ⟨rfl, hbb⟩; have HBb : Hid _ := hide (below_trans HBa.out hbb); have p2b := below_keeps hbb _ _ p2a; clear hbb) | (go_at_call 77; refine (total_any q L _ _ HA.out HD.out (HBk1.out _ HBb.out)).mono ?_; rintro e wc ⟨rfl, hbc⟩; have HBc : Hid _ := hide (below_trans HBb.out hbc); clear hbc))
          go_ret
          exact ⟨by rw [HF.out]; rfl, below_trans HB1.out HBb.out⟩
        · cases q3 : (totL (L.acc[j]).cur L.acc == 0)
          · have q3' : (totL (L.acc[j]).cur L.acc != 0) = true := by simp [bne, q3]
            have HF : Hid (L.acc.all (balI L) = false) := hide (all_false hj (by unfold balI; simp at q3; rw [decide_eq_false q3]; simp))
            clear q1
            go_wp2_with (first | (go_at_call 75; refine (held_any q L _ _ HS.out (HBk1.out _ (Below.refl _ _))).mono ?_; rintro e wa ⟨rfl, hba⟩; have HBa : Hid _ := hide hba; have p1a := below_keeps hba _ _ p1; have p2a := below_keeps hba _ _ p2; clear hba) | (go_at_call 76; refine (covers_any q p L (L.acc[j]) 0 _ HS.out HXj.out (by omega) (HBk1.out _ HBa.out) (HP.out.kept HBa.out.size (below_keeps HBa.out))).mono ?_; rintro e wb ⟨rfl, hbb⟩; have HBb : Hid _ := hide (below_trans HBa.out hbb); have p2b := below_keeps hbb _ _ p2a; clear hbb) | (go_at_call 77; refine (total_any q L _ _ HA.out HD.out (HBk1.out _ HBb.out)).mono ?_; rintro e wc ⟨rfl, hbc⟩; have HBc : Hid _ := hide (below_trans HBb.out hbc); clear hbc))
            go_ret
            exact ⟨by rw [HF.out]; rfl, below_trans HB1.out HBc.out⟩
          · have q3' : (totL (L.acc[j]).cur L.acc != 0) = false := by simp [bne, q3]
            have HF : Hid (balI L (L.acc[j]) = true) := hide (by unfold balI; simp at q3; rw [q2, decide_eq_true q1, decide_eq_true q3]; rfl)
            clear q1
            go_wp2_with (first | (go_at_call 75; refine (held_any q L _ _ HS.out (HBk1.out _ (Below.refl _ _))).mono ?_; rintro e wa ⟨rfl, hba⟩; have HBa : Hid _ := hide hba; have p1a := below_keeps hba _ _ p1; have p2a := below_keeps hba _ _ p2; clear hba) | (go_at_call 76; refine (covers_any q p L (L.acc[j]) 0 _ HS.out HXj.out (by omega) (HBk1.out _ HBa.out) (HP.out.kept HBa.out.size (below_keeps HBa.out))).mono ?_; rintro e wb ⟨rfl, hbb⟩; have HBb : Hid _ := hide (below_trans HBa.out hbb); have p2b := below_keeps hbb _ _ p2a; clear hbb) | (go_at_call 77; refine (total_any q L _ _ HA.out HD.out (HBk1.out _ HBb.out)).mono ?_; rintro e wc ⟨rfl, hbc⟩; have HBc : Hid _ := hide (below_trans HBb.out hbc); clear hbc))
            go_roundw
            case rel => exact ⟨_, cnt1, HR1.out.kept (below_grownBy HBc.out) (by simp) (by simp), below_trans HB1.out HBc.out, hide (struck HD.out hj HOK.out HF.out)⟩
            case measure => rw [(HR1.out.kept (below_grownBy HBc.out) (by simp) (by simp)).left_eq]; exact HM.out
      · have q1' : decide (1000000000000 < heldL (L.acc[j]).name L.hold) = true := by simp; omega
        have HF : Hid (L.acc.all (balI L) = false) := hide (all_false hj (by unfold balI; rw [decide_eq_false q1]; simp))
        clear q1
        go_wp2_with (first | (go_at_call 75; refine (held_any q L _ _ HS.out (HBk1.out _ (Below.refl _ _))).mono ?_; rintro e wa ⟨rfl, hba⟩; have HBa : Hid _ := hide hba; have p1a := below_keeps hba _ _ p1; have p2a := below_keeps hba _ _ p2; clear hba) | (go_at_call 76; refine (covers_any q p L (L.acc[j]) 0 _ HS.out HXj.out (by omega) (HBk1.out _ HBa.out) (HP.out.kept HBa.out.size (below_keeps HBa.out))).mono ?_; rintro e wb ⟨rfl, hbb⟩; have HBb : Hid _ := hide (below_trans HBa.out hbb); have p2b := below_keeps hbb _ _ p2a; clear hbb) | (go_at_call 77; refine (total_any q L _ _ HA.out HD.out (HBk1.out _ HBb.out)).mono ?_; rintro e wc ⟨rfl, hbc⟩; have HBc : Hid _ := hide (below_trans HBb.out hbc); clear hbc))
        go_ret
        exact ⟨by rw [HF.out]; rfl, below_trans HB1.out HBa.out⟩
end Go.Proofs.YteaopalhbnhbaaaGreatDoor
