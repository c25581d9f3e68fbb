/- The contract of the book's post. -/
import Derived.Test.YtjjoeajnhblacaaGreatDoorGi
import Derived.Test.YtjjoeajnhblacaaGreatDoorBHolds
namespace Go.Proofs.YtjjoeajnhblacaaGreatDoor
open Go.ChangeShapes Go.WideShapes Go.ChangeAt Go.RowKit Go.Maps
set_option linter.unusedVariables false
set_option maxRecDepth 100000
theorem accB'_split (ps : List Nat) (A : List Acc) (i : Nat) (hi : i < A.length) (hps : ps.length = A.length) :
    accB' ps A = accB' (ps.take i) (A.take i) ++ blk (ps.getD i 0) (accCells A[i]) :: accB' (ps.drop (i + 1)) (A.drop (i + 1)) := by
  have hp : i < ps.length := by omega
  have e1 : ps = ps.take i ++ (ps[i] :: ps.drop (i + 1)) := by rw [← List.drop_eq_getElem_cons hp, List.take_append_drop]
  have e2 : A = A.take i ++ (A[i] :: A.drop (i + 1)) := by rw [← List.drop_eq_getElem_cons hi, List.take_append_drop]
  have e3 : ps.getD i 0 = ps[i] := by simp [hp]
  rw [e3]
  conv => lhs; rw [e1, e2]
  unfold accB'
  rw [List.zip_append (by simp [List.length_take]; omega), List.zip_cons_cons, List.map_append, List.map_cons]
theorem List.getElem?_concat_length' {X : Type} (a : List X) (x : X) (b : List X) : (a ++ x :: b)[a.length]? = some x := by simp
theorem Pool.setAcc {F : List Nat} {w x : World} {S1 S2 : List (List Rs)} {ps : List Nat} {A : List Acc} (h : Pool F w (S1 ++ accB' ps A :: S2) x) (i : Nat) (hi : i < A.length) (hps : ps.length = A.length) (d : Int) :
    Pool F w (S1 ++ accB' ps (setP A i d) :: S2) (x.setCell ⟨ps.getD i 0, 3, none⟩ (.int .i64 (A[i].posted + d))) := by
  have h1 : Pool F w ((S1 ++ [accB' (ps.take i) (A.take i)]) ++ [blk (ps.getD i 0) (accCells A[i])] :: accB' (ps.drop (i + 1)) (A.drop (i + 1)) :: S2) x := h.cast (by rw [accB'_split ps A i hi hps]; simp)
  have h2 := h1.setBlk (i := (S1 ++ [accB' (ps.take i) (A.take i)]).length) (b := ps.getD i 0) (cur := accCells A[i]) (List.getElem?_concat_length' _ _ _) 3 (.int .i64 (A[i].posted + d)) (by simp [accCells])
  refine h2.cast ?_
  have hi' : i < (setP A i d).length := by rw [setP_len]; exact hi
  rw [accB'_split ps (setP A i d) i hi' (by rw [setP_len]; exact hps)]
  have e1 : (setP A i d).take i = A.take i := by rw [setP_at hi, List.take_set_of_le (Nat.le_refl _)]
  have e2 : (setP A i d).drop (i + 1) = A.drop (i + 1) := by rw [setP_at hi, List.drop_set_of_lt (Nat.lt_succ_self _)]
  have e3 : (setP A i d)[i] = postA A[i] d := by simp [setP_at hi]
  rw [e1, e2, e3, List.set_append_right _ _ (Nat.le_refl _)]
  simp [accCells, postA]
theorem Pool.accAt {F : List Nat} {w x : World} {S1 S2 : List (List Rs)} {ps : List Nat} {A : List Acc} (h : Pool F w (S1 ++ accB' ps A :: S2) x) (i : Nat) (hi : i < A.length) (hps : ps.length = A.length) : Blk (ps.getD i 0) (accCells A[i]) x := by
  have h1 : Pool F w ((S1 ++ [accB' (ps.take i) (A.take i)]) ++ [blk (ps.getD i 0) (accCells A[i])] :: accB' (ps.drop (i + 1)) (A.drop (i + 1)) :: S2) x := h.cast (by rw [accB'_split ps A i hi hps]; simp)
  exact h1.blkAt (i := (S1 ++ [accB' (ps.take i) (A.take i)]).length) (List.getElem?_concat_length' _ _ _)
theorem setP_other {A : List Acc} {i j : Nat} (hi : i < A.length) (hj : j < A.length) (hne : i ≠ j) (d : Int) (hj' : j < (setP A i d).length) : (setP A i d)[j] = A[j] := by
  simp [setP_at hi, hne]
theorem setP_names {A : List Acc} {i : Nat} (d : Int) : (setP A i d).map Acc.name = A.map Acc.name := by
  rcases Nat.lt_or_ge i A.length with hi | hi
  · rw [setP_at hi, List.map_set]
    have e : (postA A[i] d).name = (A.map Acc.name)[i]'(by simpa using hi) := by simp [postA]
    rw [e, List.set_getElem_self]
  · simp [setP, hi]
/-- the code of a post that is denied -/
def postC (A : List Acc) (H : List Hld) (fr tn : ByteArray) (am : Int) : Option Int := match pairC A fr tn with
  | some c => some c
  | none => match idxA A fr, idxA A tn with
    | some i, some j => if rangeB (setP A i (-am)) i && rangeB (setP A j am) j then (match A[i]? with
      | some x => if covB x (heldL x.name H) am then none else some 7
      | none => none) else some 8
    | _, _ => none
def postL (A : List Acc) (H : List Hld) (fr tn : ByteArray) (am : Int) : List Acc := match postC A H fr tn am, idxA A fr, idxA A tn with
  | none, some i, some j => payA A i j am
  | _, _, _ => A
theorem postC_at {A : List Acc} {H : List Hld} {fr tn : ByteArray} {am : Int} {i j : Nat} (hp : pairC A fr tn = none) (hi : idxA A fr = some i) (hj : idxA A tn = some j) (hil : i < A.length) (hjl : j < A.length) :
    postC A H fr tn am = if inB (-1000000000000) 1000000000000 (A[i].posted + -am) && inB (-1000000000000) 1000000000000 (A[j].posted + am) then (if covB A[i] (heldL A[i].name H) am then none else some 7) else some 8 := by
  simp [postC, hp, hi, hj, rangeB, setP_at hil, setP_at hjl, hil, hjl, postA]
set_option maxHeartbeats 4000000 in
theorem post_any (q m : Nat) (ps : List Nat) (hv sv : Value) (L : Led) (fr tn : ByteArray) (am : Int) (t : TypeId) (v : Value) (w : World) (hps : ps.length = L.acc.length) (s1 : fr.size ≤ maxLen) (s2 : tn.size ≤ maxLen) (hne : fr ≠ tn) (hH : SmallH L.hold) (hA : ∀ x ∈ L.acc, SmallX x) (ham : 0 ≤ am ∧ am ≤ 1000000000000) (hhw : ∀ y ∈ L.hold, HldW y) (hsw : ∀ y ∈ L.seen, SnW y) (h : Star (bkS q m ps hv sv L.acc L.hold L.seen).flatten w) (hg : w.cell? ⟨2, 0, none⟩ = some (.iface t v)) :
    Calls Tryz.prog 60 #[.pointer (some ⟨q, 0, none⟩), .string fr, .string tn, .int .i64 am] w fun e w' => DoEnd (postC L.acc L.hold fr tn am) (.iface t v) (fps (bkS q m ps hv sv L.acc L.hold L.seen).flatten) (bkS q m ps hv sv (postL L.acc L.hold fr tn am) L.hold L.seen).flatten w e w' := by
  obtain ⟨FF, hFF⟩ : ∃ FF, FF = fps (bkS q m ps hv sv L.acc L.hold L.seen).flatten := ⟨_, rfl⟩
  obtain ⟨ha, ch, sa, cs, rfl, rfl, hbk⟩ := h.bk hps
  have HP : Hid (Pool FF w [[blk q [.map (some m), .slice ha L.hold.length ch, .slice sa L.seen.length cs]], [mapR m (L.acc.map Acc.name) ps], accB' ps L.acc, [row 71 4 (.slice ha L.hold.length ch) L.hold.length (L.hold.flatMap hldCells)], [row 47 2 (.slice sa L.seen.length cs) L.seen.length (L.seen.flatMap snCells)], []] w) := hide (by
    rw [hFF]
    exact (Pool.of h).cast (by simp [bkS]))
  have HG : Hid _ := hide hg
  have HK : Hid _ := hide hbk
  have HPS : Hid _ := hide hps
  have HH : Hid _ := hide hH
  have HX : Hid _ := hide hA
  have HW : Hid _ := hide hhw
  have HV : Hid _ := hide hsw
  have hE := cell_lt hg
  rw [← hFF]
  clear h hg hFF hps hbk hH hA hhw hsw
  go_enter Tryz.func60, Tryz.ntmps60
  go_wp2_with fail
  refine (pair_bk fr tn t v _ s1 s2 HK.out HG.out).mono ?_
  intro e w1 hpe
  cases hpc : pairC L.acc fr tn with
  | some code =>
    unfold PrEnd at hpe
    rw [hpc] at hpe
    obtain ⟨n, rfl, hp1⟩ := hpe
    have HC : Hid (postC L.acc L.hold fr tn am = some code) := hide (by simp [postC, hpc])
    have HP1 : Hid _ := hide (HP.out.new (i := 5) rfl hp1.below (hp1.get (i := 0) rfl) (fun b hb => (hp1.hi b (by simpa using hb)).resolve_left (by simp)))
    clear hpc hp1 HP
    go_wp2_with fail
    go_ret
    have hl : postL L.acc L.hold fr tn am = L.acc := by simp [postL, HC.out]
    unfold DoEnd
    rw [HC.out, hl]
    exact ⟨n, rfl, HP1.out.cast (by simp [bkS])⟩
  | none =>
    unfold PrEnd at hpe
    rw [hpc] at hpe
    obtain ⟨i, j, hi, hj, hb1, rfl⟩ := hpe
    have HI : Hid _ := hide hi
    have HJ : Hid _ := hide hj
    have HPC : Hid _ := hide hpc
    obtain ⟨hil, eni, _⟩ := idxA_lt hi
    obtain ⟨hjl, enj, _⟩ := idxA_lt hj
    have HEN : Hid _ := hide (And.intro eni enj)
    have HP1 : Hid _ := hide (HP.out.keep hb1)
    have HK1 : Hid _ := hide (HK.out.below hb1)
    have HG1 : Hid _ := hide ((hb1.cell (p := ⟨2, 0, none⟩) hE).trans HG.out)
    clear hi hj hpc hb1 HP HK HG eni enj
    obtain ⟨p, hpe⟩ : ∃ p, p = ps.getD i 0 := ⟨_, rfl⟩
    obtain ⟨r, hre⟩ : ∃ r, r = ps.getD j 0 := ⟨_, rfl⟩
    have bi := HK1.out.acc i hil
    have bj := HK1.out.acc j hjl
    rw [← hpe] at bi ⊢
    rw [← hre] at bj ⊢
    have i0 := bi.lt
    have j0 := bj.lt
    have i3 : w1.cell? ⟨p, 3, none⟩ = some (.int .i64 L.acc[i].posted) := bi.c 3 _ rfl
    have j3 : w1.cell? ⟨r, 3, none⟩ = some (.int .i64 L.acc[j].posted) := bj.c 3 _ rfl
    have HPE : Hid _ := hide hpe
    have HRE : Hid _ := hide hre
    have HBI : Hid _ := hide bi
    have HBJ : Hid _ := hide bj
    clear hpe hre bi bj
    obtain ⟨⟨x1, x2⟩, x3, x4⟩ := HX.out _ (List.getElem_mem hil)
    obtain ⟨⟨y1, y2⟩, y3, y4⟩ := HX.out _ (List.getElem_mem hjl)
    obtain ⟨a1, a2⟩ := ham
    have wr1 : IntKind.i64.wrap (L.acc[i].posted - am) = L.acc[i].posted - am := wrap64_id (by omega)
    have wr2 : IntKind.i64.wrap (L.acc[j].posted + am) = L.acc[j].posted + am := wrap64_id (by omega)
    have HPB : Hid _ := hide (HK1.out.book HW.out HV.out)
    by_cases g1 : L.acc[i].posted - am < -1000000000000
    · have g1' : decide (L.acc[i].posted - am < -1000000000000) = true := by simpa using g1
      have HC : Hid (postC L.acc L.hold fr tn am = some 8) := hide (by
        rw [postC_at HPC.out HI.out HJ.out hil hjl, if_neg]
        simp only [inB, Bool.and_eq_true, decide_eq_true_eq]
        omega)
      go_wp2_with fail
      refine (denied_any _ t v _ HG1.out).mono ?_
      rintro e w2 ⟨rfl, rfl⟩
      go_wp2_with fail
      go_ret
      have hl : postL L.acc L.hold fr tn am = L.acc := by simp [postL, HC.out]
      unfold DoEnd
      rw [HC.out, hl]
      exact ⟨_, rfl, (HP1.out.newBlk (i := 5) rfl [.int .i64 8, .iface t v] 95).cast (by simp [bkS])⟩
    · have g1' : decide (L.acc[i].posted - am < -1000000000000) = false := by simpa using g1
      by_cases g2 : 1000000000000 < L.acc[j].posted + am
      · have g2' : decide (L.acc[j].posted + am > 1000000000000) = true := by simpa using g2
        have HC : Hid (postC L.acc L.hold fr tn am = some 8) := hide (by
          rw [postC_at HPC.out HI.out HJ.out hil hjl, if_neg]
          simp only [inB, Bool.and_eq_true, decide_eq_true_eq]
          omega)
        go_wp2_with fail
        refine (denied_any _ t v _ HG1.out).mono ?_
        rintro e w2 ⟨rfl, rfl⟩
        go_wp2_with fail
        go_ret
        have hl : postL L.acc L.hold fr tn am = L.acc := by simp [postL, HC.out]
        unfold DoEnd
        rw [HC.out, hl]
        exact ⟨_, rfl, (HP1.out.newBlk (i := 5) rfl [.int .i64 8, .iface t v] 95).cast (by simp [bkS])⟩
      · have g2' : decide (L.acc[j].posted + am > 1000000000000) = false := by simpa using g2
        have HCC : Hid _ := hide (postC_at (H := L.hold) (am := am) HPC.out HI.out HJ.out hil hjl)
        have HRG : Hid ((inB (-1000000000000) 1000000000000 (L.acc[i].posted + -am) && inB (-1000000000000) 1000000000000 (L.acc[j].posted + am)) = true) := hide (by
          simp only [inB, Bool.and_eq_true, decide_eq_true_eq]
          omega)
        go_wp2_with fail
        refine (covers_any q p L L.acc[i] am _ HH.out (HX.out _ (List.getElem_mem hil)) ⟨a1, a2⟩ HPB.out ⟨HBI.out.lt, HBI.out.c 0 _ rfl, HBI.out.c 1 _ rfl, HBI.out.c 2 _ rfl, HBI.out.c 3 _ rfl⟩).mono ?_
        rintro e w2 ⟨rfl, hb2⟩
        have HP2 : Hid _ := hide (HP1.out.keep hb2)
        have HG2 : Hid _ := hide ((hb2.cell (p := ⟨2, 0, none⟩) (cell_lt HG1.out)).trans HG1.out)
        have i3' : w2.cell? ⟨p, 3, none⟩ = some (.int .i64 L.acc[i].posted) := (hb2.cell (p := ⟨p, 3, none⟩) i0).trans i3
        have j3' : w2.cell? ⟨r, 3, none⟩ = some (.int .i64 L.acc[j].posted) := (hb2.cell (p := ⟨r, 3, none⟩) j0).trans j3
        have i0' := Nat.lt_of_lt_of_le i0 hb2.size
        have j0' := Nat.lt_of_lt_of_le j0 hb2.size
        clear hb2 HP1 HG1 HK1 HBI HBJ HPB i3 j3 i0 j0
        cases hcv : covB L.acc[i] (heldL L.acc[i].name L.hold) am
        · have HC : Hid (postC L.acc L.hold fr tn am = some 7) := hide (by rw [HCC.out, HRG.out, hcv]; rfl)
          clear hcv
          go_wp2_with fail
          refine (denied_any _ t v _ HG2.out).mono ?_
          rintro e w3 ⟨rfl, rfl⟩
          go_wp2_with fail
          go_ret
          have hl : postL L.acc L.hold fr tn am = L.acc := by simp [postL, HC.out]
          unfold DoEnd
          rw [HC.out, hl]
          exact ⟨_, rfl, (HP2.out.newBlk (i := 5) rfl [.int .i64 7, .iface t v] 95).cast (by simp [bkS])⟩
        · have HC : Hid (postC L.acc L.hold fr tn am = none) := hide (by rw [HCC.out, HRG.out, hcv]; rfl)
          clear hcv
          have hij : i ≠ j := by
            rintro rfl
            exact hne (HEN.out.1.symm.trans HEN.out.2)
          obtain ⟨W3, hW3⟩ : ∃ W3, W3 = w2.setCell ⟨p, 3, none⟩ (.int .i64 (L.acc[i].posted - am)) := ⟨_, rfl⟩
          have HP3 : Hid (Pool FF w ([[blk q [.map (some m), .slice ha L.hold.length ch, .slice sa L.seen.length cs]], [mapR m (L.acc.map Acc.name) ps]] ++ accB' ps (setP L.acc i (-am)) :: [[row 71 4 (.slice ha L.hold.length ch) L.hold.length (L.hold.flatMap hldCells)], [row 47 2 (.slice sa L.seen.length cs) L.seen.length (L.seen.flatMap snCells)], []]) W3) := hide (by
            have z := Pool.setAcc (S1 := [[blk q [.map (some m), .slice ha L.hold.length ch, .slice sa L.seen.length cs]], [mapR m (L.acc.map Acc.name) ps]]) HP2.out i hil HPS.out (-am)
            rw [← HPE.out, ← Int.sub_eq_add_neg, ← hW3] at z
            exact z)
          have hjl' : j < (setP L.acc i (-am)).length := by rw [setP_len]; exact hjl
          have bi := Pool.accAt (S1 := [[blk q [.map (some m), .slice ha L.hold.length ch, .slice sa L.seen.length cs]], [mapR m (L.acc.map Acc.name) ps]]) HP2.out i hil HPS.out
          have bj := HP3.out.accAt j hjl' (by rw [setP_len]; exact HPS.out)
          rw [setP_other hil hjl hij] at bj
          rw [← HPE.out] at bi
          rw [← HRE.out] at bj
          have fi3 := bi.f 3
          have fj3 := bj.f 3
          have kj3 : W3.cell? ⟨r, 3, none⟩ = some (.int .i64 L.acc[j].posted) := bj.c 3 _ rfl
          have kj0 := bj.lt
          rw [hW3] at fj3 kj3 kj0
          obtain ⟨W4, hW4⟩ : ∃ W4, W4 = (w2.setCell ⟨p, 3, none⟩ (.int .i64 (L.acc[i].posted - am))).setCell ⟨r, 3, none⟩ (.int .i64 (L.acc[j].posted + am)) := ⟨_, rfl⟩
          have HP4 : Hid (Pool FF w ([[blk q [.map (some m), .slice ha L.hold.length ch, .slice sa L.seen.length cs]], [mapR m (L.acc.map Acc.name) ps]] ++ accB' ps (payA L.acc i j am) :: [[row 71 4 (.slice ha L.hold.length ch) L.hold.length (L.hold.flatMap hldCells)], [row 47 2 (.slice sa L.seen.length cs) L.seen.length (L.seen.flatMap snCells)], []]) W4) := hide (by
            have z := HP3.out.setAcc j hjl' (by rw [setP_len]; exact HPS.out) am
            rw [setP_other hil hjl hij, ← HRE.out, hW3, ← hW4] at z
            exact z)
          have HW4 : Hid (W4 = _) := hide hW4
          clear hW3 hW4 HP3 bi bj HP2 j3'
          go_wp2_with fail
          go_ret
          rw [← HW4.out]
          have hl : postL L.acc L.hold fr tn am = payA L.acc i j am := by simp [postL, HC.out, HI.out, HJ.out]
          unfold DoEnd
          rw [HC.out, hl]
          refine ⟨rfl, HP4.out.cast ?_⟩
          have en : (payA L.acc i j am).map Acc.name = L.acc.map Acc.name := by unfold payA; rw [setP_names, setP_names]
          simp [bkS, en]
end Go.Proofs.YtjjoeajnhblacaaGreatDoor
/- The program's post is the model's pay. -/
namespace Go.Proofs.YtjjoeajnhblacaaGreatDoor
open Go.ChangeShapes Go.WideShapes Go.ChangeAt Go.RowKit Go.Maps
set_option linter.unusedVariables false
theorem payA_i {A : List Acc} {i j : Nat} (hi : i < A.length) (hj : j < A.length) (hne : i ≠ j) (am : Int) : (payA A i j am)[i]? = some (postA A[i] (-am)) := by
  have hj' : j < (setP A i (-am)).length := by rw [setP_len]; exact hj
  unfold payA
  rw [setP_at hj', List.getElem?_set_ne (Ne.symm hne), setP_at hi]
  simp [hi]
theorem payA_j {A : List Acc} {i j : Nat} (hi : i < A.length) (hj : j < A.length) (hne : i ≠ j) (am : Int) : (payA A i j am)[j]? = some (postA A[j] am) := by
  have hj' : j < (setP A i (-am)).length := by rw [setP_len]; exact hj
  unfold payA
  rw [setP_at hj', List.getElem?_set_self hj', setP_other hi hj hne]
theorem cov_within {x : Acc} {held am : Int} (hl : -1 ≤ x.limit) (hh : held ≤ 1000000000000) (hr : inB (-1000000000000) 1000000000000 (x.posted + -am) = true) : withinB (postA x (-am)) held = covB x held am := by
  rw [Bool.eq_iff_iff]
  simp only [inB, decide_eq_true_eq] at hr
  simp only [withinB, covB, postA, inB, Bool.and_eq_true, Bool.or_eq_true, decide_eq_true_eq]
  constructor
  · rintro ⟨⟨h1, h2⟩, h3 | h3⟩
    · have h3 := of_decide_eq_true h3
      exact .inl (by omega)
    · have h3 := of_decide_eq_true h3
      exact .inr (by omega)
  · rintro (h3 | h3)
    · exact ⟨⟨decide_eq_true hr, hh⟩, .inl (decide_eq_true (by omega))⟩
    · exact ⟨⟨decide_eq_true hr, hh⟩, .inr (decide_eq_true (by omega))⟩
/-- what the program's post leaves is what the model's pay leaves -/
theorem post_pay {L : Led} {fr tn : ByteArray} {am : Int} {i j : Nat} (hp : pairC L.acc fr tn = none) (hi : idxA L.acc fr = some i) (hj : idxA L.acc tn = some j) (hne : fr ≠ tn) (hlim : ∀ x ∈ L.acc, -1 ≤ x.limit) (hheld : ∀ x ∈ L.acc, heldL x.name L.hold ≤ 1000000000000) :
    payM L i j am = (⟨postL L.acc L.hold fr tn am, L.hold, L.seen⟩, (postC L.acc L.hold fr tn am).getD 0) := by
  obtain ⟨hil, eni, _⟩ := idxA_lt hi
  obtain ⟨hjl, enj, _⟩ := idxA_lt hj
  have hij : i ≠ j := by
    rintro rfl
    exact hne (eni.symm.trans enj)
  have hc := postC_at (H := L.hold) (am := am) hp hi hj hil hjl
  have r1 : rangeB (payA L.acc i j am) i = inB (-1000000000000) 1000000000000 (L.acc[i].posted + -am) := by simp [rangeB, payA_i hil hjl hij, postA]
  have r2 : rangeB (payA L.acc i j am) j = inB (-1000000000000) 1000000000000 (L.acc[j].posted + am) := by simp [rangeB, payA_j hil hjl hij, postA]
  unfold payM
  rw [r1, r2]
  cases hr : (inB (-1000000000000) 1000000000000 (L.acc[i].posted + -am) && inB (-1000000000000) 1000000000000 (L.acc[j].posted + am))
  · rw [hr] at hc
    have hc : postC L.acc L.hold fr tn am = some 8 := by rw [hc]; rfl
    simp [postL, hc]
  · rw [hr] at hc
    rw [Bool.and_eq_true] at hr
    have k : keepsB (payA L.acc i j am) L.hold i = covB L.acc[i] (heldL L.acc[i].name L.hold) am := by
      have e : keepsB (payA L.acc i j am) L.hold i = withinB (postA L.acc[i] (-am)) (heldL L.acc[i].name L.hold) := by simp [keepsB, payA_i hil hjl hij, postA]
      rw [e, cov_within (hlim _ (List.getElem_mem hil)) (hheld _ (List.getElem_mem hil)) hr.1]
    rw [k]
    cases hv : covB L.acc[i] (heldL L.acc[i].name L.hold) am
    · have hc : postC L.acc L.hold fr tn am = some 7 := by rw [hc, hv]; rfl
      simp [postL, hc]
    · have hc : postC L.acc L.hold fr tn am = none := by rw [hc, hv]; rfl
      simp [postL, hc, hi, hj]
end Go.Proofs.YtjjoeajnhblacaaGreatDoor
/- Sorting a list with one more: where it comes to stand. -/
namespace Go.Proofs.YtjjoeajnhblacaaGreatDoor
set_option linter.unusedVariables false
theorem ins_perm {X : Type} (p : X → Bool) (l : List X) (x : X) : (l.takeWhile p ++ x :: l.dropWhile p).Perm (l ++ [x]) := by
  have h1 : (l.takeWhile p ++ x :: l.dropWhile p).Perm (x :: (l.takeWhile p ++ l.dropWhile p)) := List.perm_middle
  rw [List.takeWhile_append_dropWhile] at h1
  exact h1.trans (List.perm_append_comm (l₁ := [x]))
theorem ins_pw {X : Type} (f : X → Int) (l : List X) (x : X) (h : l.Pairwise (fun a b => f a < f b)) (hx : ∀ y ∈ l, f y ≠ f x) : (l.takeWhile (fun y => decide (f y < f x)) ++ x :: l.dropWhile (fun y => decide (f y < f x))).Pairwise (fun a b => f a < f b) := by
  induction l with
  | nil => simp
  | cons a l ih =>
    rw [List.pairwise_cons] at h
    have hxa := hx a (by simp)
    have hxl : ∀ y ∈ l, f y ≠ f x := fun y hy => hx y (by simp [hy])
    by_cases ha : f a < f x
    · rw [List.takeWhile_cons_of_pos (by simpa using ha), List.dropWhile_cons_of_pos (by simpa using ha), List.cons_append, List.pairwise_cons]
      refine ⟨fun b hb => ?_, ih h.2 hxl⟩
      have hb := (ins_perm _ l x).mem_iff.1 hb
      rw [List.mem_append, List.mem_singleton] at hb
      rcases hb with hb | rfl
      · exact h.1 b hb
      · exact ha
    · rw [List.takeWhile_cons_of_neg (by simpa using ha), List.dropWhile_cons_of_neg (by simpa using ha), List.nil_append, List.pairwise_cons, List.pairwise_cons]
      refine ⟨fun b hb => ?_, h⟩
      rw [List.mem_cons] at hb
      rcases hb with rfl | hb
      · omega
      · have := h.1 b hb
        omega
theorem pw_inj {X : Type} (f : X → Int) {l : List X} (h : l.Pairwise (fun a b => f a < f b)) : ∀ a b, a ∈ l → b ∈ l → f a = f b → a = b := by
  induction l with
  | nil => intro a b ha; cases ha
  | cons c l ih =>
    rw [List.pairwise_cons] at h
    intro a b ha hb e
    rw [List.mem_cons] at ha hb
    rcases ha with rfl | ha
    · rcases hb with rfl | hb
      · rfl
      · have := h.1 b hb; omega
    · rcases hb with rfl | hb
      · have := h.1 a ha; omega
      · exact ih h.2 a b ha hb e
/-- a sorted list of rising keys and one more -/
theorem ins_is {X : Type} (f : X → Int) {l r : List X} {x : X} (h : l.Pairwise (fun a b => f a < f b)) (hx : ∀ y ∈ l, f y ≠ f x) (hp : r.Perm (l ++ [x])) (hr : r.Pairwise (fun a b => f a ≤ f b)) :
    r = l.takeWhile (fun y => decide (f y < f x)) ++ x :: l.dropWhile (fun y => decide (f y < f x)) := by
  have q := ins_pw f l x h hx
  have hp2 := hp.trans (ins_perm (fun y => decide (f y < f x)) l x).symm
  refine List.Perm.eq_of_pairwise (le := fun a b => f a ≤ f b) ?_ hr (q.imp (fun h => Int.le_of_lt h)) hp2
  intro a b ha hb h1 h2
  exact pw_inj f q a b (hp2.mem_iff.1 ha) hb (Int.le_antisymm h1 h2)
theorem seeL_of {l r : List Sn} {id code : Int} (h : (l.map Sn.id).Pairwise (· < ·)) (hx : ∀ y ∈ l, y.id ≠ id) (hp : r.Perm (l ++ [⟨id, code⟩])) (hr : r.Pairwise (fun a b => a.id ≤ b.id)) : r = seeL l id code :=
  ins_is Sn.id (x := ⟨id, code⟩) (List.pairwise_map.1 h) hx hp hr
theorem insH_of {l r : List Hld} {x : Hld} (h : (l.map Hld.id).Pairwise (· < ·)) (hx : ∀ y ∈ l, y.id ≠ x.id) (hp : r.Perm (l ++ [x])) (hr : r.Pairwise (fun a b => a.id ≤ b.id)) : r = insH l x :=
  ins_is Hld.id (List.pairwise_map.1 h) hx hp hr
end Go.Proofs.YtjjoeajnhblacaaGreatDoor
