/- The laws' helpers big and sameFiles, the drawn disk of a code; what Crash gives where all is kept, and where nothing is. -/
import Derived.Test.YtiilkkdbifhojaaDrD2
import Derived.Test.YtiilkkdbifhojaaRd5
import Derived.Test.YtiilkkdbifhojaaDkC7
namespace Go.Proofs.Ytiilkkdbifhojaa
open Go.ChangeShapes Go.WideShapes Go.ChangeAt Go.RowKit
set_option linter.unusedVariables false
set_option maxRecDepth 100000
theorem big_any (a : Option Addr) (len cap : Nat) (w : World) : Calls Try.prog 5 #[.slice a len cap] w fun e w' => e = .returned (.bool (decide (1048576 < (len : Int)))) ∧ w' = w := by
  go_enter Try.func5, Try.ntmps5
  go_wp2
  go_ret
  exact ⟨rfl, rfl⟩
set_option maxHeartbeats 4000000 in
theorem sameFiles_any (a c : Option Addr) (l l' : List Fl) (ca cc : Nat) (w : World) (hl : l.length ≤ 1048576) (hl' : l'.length ≤ 1048576) (h : RowAt 2 flCells w a l) (h' : RowAt 2 flCells w c l') :
    Calls Try.prog 11 #[.slice a l.length ca, .slice c l'.length cc] w fun e w' => e = .returned (.bool (decide (l = l'))) ∧ Below w.heap.size w w' := by
  have HC : Hid _ := hide h
  have HC' : Hid _ := hide h'
  clear h h'
  by_cases hln : l.length = l'.length
  · have hln' : ((l.length : Int) != (l'.length : Int)) = false := by simp; omega
    have HLN : Hid _ := hide hln
    clear hln
    go_enter Try.func11, Try.ntmps11
    go_wp2
    go_loopw [5] (fun i wr => ∃ (k : Nat), k ≤ l.length ∧ i = .int .i64 (k : Int) ∧ Hid (Below w.heap.size w wr) ∧ Hid (∀ j (hj : j < l.length) (hj' : j < l'.length), j < k → l[j] = l'[j])) (fun i wr => l.length - (intOf i).toNat)
    case atStart => exact ⟨0, Nat.zero_le _, rfl, hide (Below.refl _ _), hide (fun j _ _ hj => by omega)⟩
    case round =>
      obtain ⟨k, hk, rfl, HB, HE⟩ := hrel
      by_cases hlt : k < l.length
      · have hlt' : (k : Int) < (l.length : Int) := by omega
        have hl2 : k < l'.length := by have := HLN.out; omega
        have hl3 : (k : Int) < (l'.length : Int) := by omega
        obtain ⟨b, off, rfl, hb, c0, c1⟩ := fl_row (HC.out.below HB.out) k hlt
        obtain ⟨b', off', rfl, hb', p0, p1⟩ := fl_row (HC'.out.below HB.out) k hl2
        by_cases he : l[k] = l'[k]
        · have HE2 : Hid (∀ j (hj : j < l.length) (hj' : j < l'.length), j < k + 1 → l[j] = l'[j]) := hide (fun j hj hj' hjk => by
            rcases Nat.lt_or_ge j k with h | h
            · exact HE.out j hj hj' h
            · obtain rfl : j = k := by omega
              exact he)
          rw [← he] at p0 p1
          clear he
          go_wp2_with fail
          go_quiet (fail)
          go_wp2
          exact ⟨⟨k + 1, by omega, by go_num, hide (below_drewN HB.out _), HE2⟩, by simp [intOf]; omega⟩
        · have HR : Hid (decide (l = l') = false) := hide (by simp; intro e; exact he (by simp [e]))
          have hnn : ((l[k]).nm.toList == (l'[k]).nm.toList && (l[k]).da.toList == (l'[k]).da.toList) = false := by
            rw [Bool.eq_false_iff]
            intro e
            simp only [Bool.and_eq_true] at e
            exact he (by
              have e1 := beq_bytes.1 e.1
              have e2 := beq_bytes.1 e.2
              revert e1 e2
              cases l[k]; cases l'[k]; simp_all)
          clear he
          cases e1 : ((l[k]).nm.toList == (l'[k]).nm.toList)
          · go_wp2_with fail
            go_quiet (fail)
            go_wp2
            go_ret
            exact ⟨by rw [HR.out]; rfl, below_drewN HB.out _⟩
          · rw [e1, Bool.true_and] at hnn
            go_wp2_with fail
            go_quiet (fail)
            go_wp2
            go_ret
            exact ⟨by rw [HR.out]; rfl, below_drewN HB.out _⟩
      · have hk' : ¬ (k : Int) < (l.length : Int) := by omega
        have HR : Hid (decide (l = l') = true) := hide (by
          simp only [decide_eq_true_eq]
          have := HLN.out
          exact List.ext_getElem this (fun i h1 h2 => HE.out i h1 h2 (by omega)))
        go_wp2
        go_ret
        exact ⟨by rw [HR.out]; rfl, HB.out⟩
  · have HR : Hid (decide (l = l') = false) := hide (by simp; intro e; exact hln (by rw [e]))
    have hln' : ((l.length : Int) != (l'.length : Int)) = true := by simp; omega
    go_enter Try.func11, Try.ntmps11
    go_wp2
    go_ret
    exact ⟨by rw [HR.out]; rfl, Below.refl _ _⟩
/-- a disk that was drawn out of a code -/
def DrawnC (w : World) (e : Ending) (w' : World) : Prop := Below w.heap.size w w' ∧ ∃ (a1 a2 a3 : Option Addr) (c1 c2 c3 : Nat) (L S : List Fl) (O : List Dp), e = .returned (.agg #[.slice a1 L.length c1, .slice a2 S.length c2, .slice a3 O.length c3]) ∧ DkAt w' a1 a2 a3 L S O ∧ SmD L S O ∧ (a1 = none → c1 = 0) ∧ (a2 = none → c2 = 0) ∧ (a3 = none → c3 = 0)
set_option maxHeartbeats 2000000 in
theorem drawDiskOk_any (a : Option Addr) (len cap : Nat) (w : World) (h : IsCode w a len) : Calls Try.prog 6 #[.slice a len cap] w fun e w' => DrawnC w e w' := by
  have H : Hid _ := hide h
  clear h
  obtain ⟨w0, hw0⟩ : ∃ w0, w0 = w.alloc (.cells #[.slice none 0 0, .slice none 0 0, .slice none 0 0] 27) := ⟨_, rfl⟩
  have HW : Hid (w.alloc (.cells #[.slice none 0 0, .slice none 0 0, .slice none 0 0] 27) = w0) := hide hw0.symm
  have B0 : Hid (Below w.heap.size w w0) := hide (by rw [hw0]; exact below_alloc (Below.refl _ _) _)
  have K0 : Hid (Blk w.heap.size [.slice none 0 0, .slice none 0 0, .slice none 0 0] w0) := hide (by rw [hw0]; exact Blk.new)
  have S0 : Hid (w0.heap.size = w.heap.size + 1) := hide (by rw [hw0]; simp)
  clear hw0
  go_enter Try.func6, Try.ntmps6
  go_wp2_with fail
  rw [HW.out]
  refine (l1Open_any a len cap w0).mono ?_
  rintro e w1 ⟨rfl, hw1⟩
  have R1 : Hid (Rd w0.heap.size w1) := hide (by rw [hw1]; exact rd_open (H.out.below B0.out))
  have b1 : Below w0.heap.size w0 w1 := by rw [hw1]; exact below_alloc (Below.refl _ _) _
  have B1 : Hid _ := hide (below_trans B0.out b1)
  have K1 : Hid _ := hide (K0.out.below b1)
  clear hw1 b1 K0 B0
  go_wp2_with fail
  refine (disk_any w0.heap.size w1 R1.out).mono ?_
  rintro e w2 ⟨⟨a1, a2, a3, c1, c2, c3, L, S, O, rfl, hat, hsm, n1, n2, n3, hhi⟩, hr2, ha2⟩
  have K2 : Hid _ := hide (K1.out.apart ha2 (by have := S0.out; omega))
  have B2 : Hid (Below w.heap.size w w2) := hide (below_apart B1.out (by have := S0.out; omega) ha2)
  have HE : Hid (DrawnC w (.returned (.agg #[.slice a1 L.length c1, .slice a2 S.length c2, .slice a3 O.length c3])) (((w2.setCell ⟨w.heap.size, 0, none⟩ (.slice a1 L.length c1)).setCell ⟨w.heap.size, 1, none⟩ (.slice a2 S.length c2)).setCell ⟨w.heap.size, 2, none⟩ (.slice a3 O.length c3))) := hide ⟨((B2.out.setCell (p := ⟨w.heap.size, 0, none⟩) (Nat.le_refl _) _).setCell (p := ⟨w.heap.size, 1, none⟩) (Nat.le_refl _) _).setCell (p := ⟨w.heap.size, 2, none⟩) (Nat.le_refl _) _, a1, a2, a3, c1, c2, c3, L, S, O, rfl, hat.blk (m := w.heap.size + 1) (fun ad q => by have := hhi ad q; have := S0.out; omega) (by simp) (fun g hg _ => by rw [set_block _ _ (by omega), set_block _ _ (by omega), set_block _ _ (by omega)]), hsm, n1, n2, n3⟩
  have HS : Hid (∃ Y, (((w2.setCell ⟨w.heap.size, 0, none⟩ (.slice a1 L.length c1)).setCell ⟨w.heap.size, 1, none⟩ (.slice a2 S.length c2)).setCell ⟨w.heap.size, 2, none⟩ (.slice a3 O.length c3)) = Y ∧ Blk w.heap.size [.slice a1 L.length c1, .slice a2 S.length c2, .slice a3 O.length c3] Y) := hide ⟨_, rfl, ((K2.out.set 0 (.slice a1 L.length c1) (by simp)).set 1 (.slice a2 S.length c2) (by simp)).set 2 (.slice a3 O.length c3) (by simp)⟩
  have y0 := K2.out.c 0 _ rfl
  have y1 := K2.out.c 1 _ rfl
  have y2 := K2.out.c 2 _ rfl
  have f0 := K2.out.f 0
  have f1 := K2.out.f 1
  have f2 := K2.out.f 2
  clear hat hsm n1 n2 n3 hhi hr2 ha2
  go_wp2
  obtain ⟨Y, hY, kY⟩ := HS.out
  rw [hY] at HE ⊢
  have z0 := kY.c 0 _ rfl
  have z1 := kY.c 1 _ rfl
  have z2 := kY.c 2 _ rfl
  exact bodyPost_ret (v := .agg #[.slice a1 L.length c1, .slice a2 S.length c2, .slice a3 O.length c3]) (by simp [results, Try.results6, go_sem, z0, z1, z2]) rfl HE.out
theorem goL_run : ∀ (O : List Dp) (S L : List Fl), runL S O = some L → goL S O = L
  | [], S, L, h => by simpa [runL, goL] using h
  | o :: O, S, L, h => by
    simp only [runL] at h
    cases e : stepL S o with
    | none => rw [e] at h; cases h
    | some l' =>
      rw [e] at h
      have e2 : l' = (doL S o).1 := by
        unfold stepL at e
        split at e
        · simpa using e.symm
        · cases e
      have := goL_run O l' L h
      simpa [goL, ← e2] using this
theorem goL_disk {L S : List Fl} {O : List Dp} (h : diskB ⟨L, S, O⟩ = true) : goL S O = L := by
  have hr : isRun (runL S O) L = true := by
    simp only [diskB, Bool.and_eq_true] at h
    exact h.2
  cases e : runL S O with
  | none => rw [e] at hr; cases hr
  | some l =>
    rw [e] at hr
    simp only [isRun, decide_eq_true_eq] at hr
    exact goL_run O S L (by rw [e, hr])
/-- all places -/
def allK (n : Nat) : List Int := (List.range n).map fun (i : Nat) => (i : Int)
theorem allK_len (n : Nat) : (allK n).length = n := by simp [allK]
theorem allK_at (n k : Nat) (h : k < (allK n).length) : (allK n)[k] = (k : Int) := by simp [allK]
theorem allK_next (n k : Nat) (h : k < n) : (allK n).take (k + 1) = (allK n).take k ++ [(k : Int)] := by
  rw [List.take_add_one, List.getElem?_eq_getElem (by rw [allK_len]; exact h), allK_at]
  rfl
theorem allTo_all {f : Nat → Bool} {n : Nat} (h : ∀ k, k < n → f k = true) : allTo f n = true := by
  induction n with
  | zero => rfl
  | succ n ih => simp only [allTo, Bool.and_eq_true]; exact ⟨ih (fun k hk => h k (by omega)), h n (by omega)⟩
theorem allK_places (n : Nat) : placesB (allK n) n = true := by
  unfold placesB
  refine allTo_all (fun k hk => ?_)
  have hk' : k < n := by rw [allK_len] at hk; exact hk
  cases k with
  | zero => rw [pl_zero hk, allK_at]; simp [inB]; omega
  | succ m => rw [pl_succ hk, allK_at, allK_at]; simp [inB]; omega
theorem crs_all {L S : List Fl} {O : List Dp} (h : diskB ⟨L, S, O⟩ = true) : crsO O (allK O.length) 1099511627776 = O := by
  apply List.ext_getElem?
  intro j
  rcases Nat.lt_or_ge j O.length with hj | hj
  · have hk : j < (allK O.length).length := by rw [allK_len]; exact hj
    rw [crs_at hk (allK_at _ _ hk) hj, List.getElem?_eq_getElem hj]
    have hs := (disk_small h O[j] (List.getElem_mem hj)).2
    split
    · rw [tornO, if_neg (fun z => by have := z.2; omega)]
    · rfl
  · rw [List.getElem?_eq_none (by rw [crs_len, allK_len]; exact hj), List.getElem?_eq_none hj]
theorem crsB_all (L S : List Fl) (O : List Dp) : crsB L S O (allK O.length) 1099511627776 = diskB ⟨L, S, O⟩ ∧ crsL L S O (allK O.length) 1099511627776 = (bif diskB ⟨L, S, O⟩ then L else []) := by
  cases h : diskB ⟨L, S, O⟩ with
  | false =>
    have e : crsB L S O (allK O.length) 1099511627776 = false := by simp [crsB, h]
    exact ⟨e, by rw [crs_no e]; rfl⟩
  | true =>
    have e : crsB L S O (allK O.length) 1099511627776 = true := by
      simp only [crsB, h, allK_places, crs_all h, goL_disk h, (diskB_parts h).1, Bool.and_true]
      decide
    exact ⟨e, by simp [crsL, e, crs_all h, goL_disk h]⟩
theorem crsB_nil (L S : List Fl) (O : List Dp) : crsB L S O [] 0 = diskB ⟨L, S, O⟩ ∧ crsL L S O [] 0 = (bif diskB ⟨L, S, O⟩ then S else []) := by
  cases h : diskB ⟨L, S, O⟩ with
  | false =>
    have e : crsB L S O [] 0 = false := by simp [crsB, h]
    exact ⟨e, by rw [crs_no e]; rfl⟩
  | true =>
    have e : crsB L S O [] 0 = true := by
      simp [crsB, h, crsO, goL, (diskB_parts h).2.1, placesB, allTo]
    exact ⟨e, by simp [crsL, e, crsO, goL]⟩
end Go.Proofs.Ytiilkkdbifhojaa
