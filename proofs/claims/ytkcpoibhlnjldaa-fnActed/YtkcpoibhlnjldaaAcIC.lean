/- The contracts of the program's once, with what is spent and what is earned. -/
import Derived.Test.YtkcpoibhlnjldaaAcIB
import Derived.Test.YtkcpoibhlnjldaaAcS6
namespace Go.Proofs.Ytkcpoibhlnjldaa
open Go.Value renaming int → J, slice → V
open Go.IntKind renaming i64 → Z
open Go.ChangeShapes Go.WideShapes Go.ChangeAt Go.RowKit
set_option linter.unusedVariables false
set_option maxRecDepth 100000
theorem risesB_all {l : List Int} (h : ∀ k, k < l.length → risesB l k = true) : ∀ i j (hi : i < l.length) (hj : j < l.length), i < j → l[i] < l[j] := by
 intro i j hi hj hij
 induction j with
 | zero => omega
 | succ j ih =>
  have h1 := h (j + 1) hj
  rw [rises_at hj] at h1
  have h2 : l[j] < l[j + 1] := of_decide_eq_true h1
  rcases Nat.lt_or_ge i j with q | q
  ·have := ih (by omega) q; omega
  ·obtain rfl : i = j := by omega
   exact h2
theorem seen_ok {n : Nd} (h : nodeB n.d = true) : Rises n.seen ∧ ∀ x ∈ n.seen, 0 ≤ x.code := by
 simp only [nodeB, Bool.and_eq_true] at h
 have h1 : ∀ k, k < n.seen.length → snB nodeCd n.seen k = true := allTo_iff.1 h.1.2
 refine ⟨fun i j hi hj hij => ?_, fun x hx => ?_⟩
 ·have := risesB_all (l := n.seen.map Sn.id) (fun k hk => by
   have hk' : k < n.seen.length := by simpa using hk
   have := h1 k hk'
   rw [snB_at hk'] at this
   simp only [Bool.and_eq_true] at this
   exact this.1.2) i j (by simpa using hi) (by simpa using hj) hij
  simpa using this
 ·obtain ⟨k, hk, rfl⟩ := List.mem_iff_getElem.1 hx
  have := h1 k hk
  rw [snB_at hk] at this
  simp only [Bool.and_eq_true, nodeCd, Bool.or_eq_true, beq_iff_eq] at this
  omega
theorem found_some {l : List Sn} {t : Int} {k : Nat} (hr : Rises l) (hp : PlaceAt l t k) (hf : foundB l t k = true) : ∃ hk : k < l.length, l[k].id = t ∧ seenV l t = l[k].code := by
 rcases Nat.lt_or_ge k l.length with hk | hk
 ·have e : l[k].id = t := by
   simp only [foundB, List.getElem?_eq_getElem hk, beq_iff_eq] at hf
   exact hf
  refine ⟨hk, e, seenV_hit hk (fi_hit (by simpa using hk) (by simpa using e) (fun j hj hjk => ?_))⟩
  have := hp.lo j (by simpa using hj) hjk
  simp only [List.getElem_map]
  omega
 ·simp [foundB, List.getElem?_eq_none hk] at hf
theorem found_none {l : List Sn} {t : Int} {k : Nat} (hr : Rises l) (hp : PlaceAt l t k) (hf : foundB l t k = false) : seenV l t = -1 := by
 refine seenV_miss (fi_miss (fun j hj => ?_))
 have hj' : j < l.length := by simpa using hj
 simp only [List.getElem_map]
 intro e
 rcases Nat.lt_or_ge j k with q | q
 ·have := hp.lo j hj' q; omega
 ·rcases Nat.lt_or_ge k j with q2 | q2
  ·have hk : k < l.length := by omega
   have h1 := hr k j hk hj' q2
   have h2 := hp.hi k hk (Nat.le_refl _)
   omega
  ·obtain rfl : j = k := by omega
   simp only [foundB, List.getElem?_eq_getElem hj', beq_eq_false_iff_ne] at hf
   exact hf e
theorem ins_see {l : List Sn} {t c : Int} {k : Nat} (hp : PlaceAt l t k) : insL l k ⟨t, c⟩ = seeL l t c := by
 rw [see_is hp.le hp.lo (fun hj => by have := hp.hi k hj (Nat.le_refl _); omega)]
 simp [insL]
/-- what once leaves -/
def OnceEnd (B P0 P1 : Nat) (n : Nd) (a : Ac) (w : World) (e : Ending) (w' : World) : Prop := ∃ (sa2 : Option Addr) (sc2 : Nat), e = .returned (J Z (moneyM n.d a).2) ∧ Pool (B :: (V n.sa n.seen.length n.sc).ownBlock.toList ++ [P0, P1]) w [[blk B [J Z (moneyM n.d a).1.id, J Z (moneyM n.d a).1.has, J Z (moneyM n.d a).1.spent, J Z (moneyM n.d a).1.earned, V sa2 (moneyM n.d a).1.seen.length sc2, V n.pa n.peers.length n.pc]], [row 70 2 (V sa2 (moneyM n.d a).1.seen.length sc2) (moneyM n.d a).1.seen.length ((moneyM n.d a).1.seen.flatMap snCells)], [blk P0 [.pointer (some ⟨B, 0, none⟩)]], [blk P1 [J Z a.id, J Z a.amt]]] w'
theorem Pool.ofL {rs : List Rs} {F : List Nat} {w : World} (h : Star rs w) (e : fps rs = F) : Pool F w [rs] w := by rw [← e]; exact Pool.of h
set_option maxHeartbeats 2000000 in
theorem do1_any (B P0 P1 : Nat) (id has spent earned aid amt : Int) (sv pv : Value) (w : World) (K0 : Blk P0 [.pointer (some ⟨B, 0, none⟩)] w) (K1 : Blk P1 [J Z aid, J Z amt] w) (K : Blk B [J Z id, J Z has, J Z spent, J Z earned, sv, pv] w) (h1 : 0 ≤ has ∧ has ≤ 10000000000000) (h2 : 0 ≤ spent ∧ spent ≤ 1000000000000) (h3 : 0 ≤ amt ∧ amt ≤ 1000000000000) :
  Calls Try.prog 39 #[.pointer (some ⟨P0, 0, none⟩), .pointer (some ⟨P1, 0, none⟩)] w fun e w' => SpEnd B id has spent earned amt sv pv w e w' := by
 have c0 := K0.c 0 _ rfl
 have c1 := K1.c 1 _ rfl
 have HK : Hid _ := hide K
 clear K0 K1 K
 go_enter Try.func39, Try.ntmps39
 go_wp2_with fail
 refine (spend_any B id has spent earned amt sv pv w HK.out h1 h2 h3).mono ?_
 rintro e w1 ⟨rfl, ht, hk⟩
 have HT : Hid _ := hide ht
 have HK2 : Hid _ := hide hk
 clear ht hk
 go_wp2
 go_ret
 exact ⟨rfl, HT.out, HK2.out⟩
set_option maxHeartbeats 4000000 in
theorem onceM1_any (B P0 P1 : Nat) (n : Nd) (aid amt : Int) (w : World) (hl : n.seen.length ≤ 40) (hr : Rises n.seen) (hcd : ∀ x ∈ n.seen, 0 ≤ x.code) (hn : InN n) (ha : 1 ≤ amt ∧ amt ≤ 1000000000000) (st : Star [blk B [J Z n.id, J Z n.has, J Z n.spent, J Z n.earned, V n.sa n.seen.length n.sc, V n.pa n.peers.length n.pc], row 70 2 (V n.sa n.seen.length n.sc) n.seen.length (n.seen.flatMap snCells), blk P0 [.pointer (some ⟨B, 0, none⟩)], blk P1 [J Z aid, J Z amt]] w)  :
  Calls Try.prog 38 #[.pointer (some ⟨B, 0, none⟩), J Z aid, .func (.func 39) #[] #[.pointer (some ⟨P0, 0, none⟩), .pointer (some ⟨P1, 0, none⟩)]] w fun e w' => OnceEnd B P0 P1 n (⟨1, aid, 0, amt, ⟨0, 0, 0, 0, 0⟩⟩ : Ac) w e w' := by
 obtain ⟨⟨r1, r2⟩, ⟨r3, r4⟩, ⟨r5, r6⟩⟩ := hn
 obtain ⟨a1, a2⟩ := ha
 have HP : Hid (Pool (B :: (V n.sa n.seen.length n.sc).ownBlock.toList ++ [P0, P1]) w [[blk B [J Z n.id, J Z n.has, J Z n.spent, J Z n.earned, V n.sa n.seen.length n.sc, V n.pa n.peers.length n.pc]], [row 70 2 (V n.sa n.seen.length n.sc) n.seen.length (n.seen.flatMap snCells)], [blk P0 [.pointer (some ⟨B, 0, none⟩)]], [blk P1 [J Z aid, J Z amt]], []] w) := hide ((Pool.ofL st (by simp [fps, blk, row])).cast (by simp))
 have HR : Hid _ := hide hr
 have HC : Hid _ := hide hcd
 clear st hr hcd
 have c4 : w.cell? ⟨B, 4, none⟩ = some (V n.sa n.seen.length n.sc) := (HP.out.blkAt (i := 0) rfl).c 4 _ rfl
 obtain ⟨g0, sa0, cap0, _, es0, hown0⟩ := own_of_row snLen (HP.out.rowAt (i := 1) rfl)
 simp only [Value.slice.injEq, true_and] at es0
 obtain ⟨rfl, rfl⟩ := es0
 have HO : Hid _ := hide hown0.rows
 clear hown0
 go_enter Try.func38, Try.ntmps38
 go_wp2_with fail
 refine (search_any n.sa n.seen n.sc aid w (by omega) HR.out HO.out).mono ?_
 rintro e w1 ⟨hb1, k, hpl, rfl⟩
 have HPL : Hid _ := hide hpl
 have HP1 : Hid (Pool (B :: (V n.sa n.seen.length n.sc).ownBlock.toList ++ [P0, P1]) w [[blk B [J Z n.id, J Z n.has, J Z n.spent, J Z n.earned, V n.sa n.seen.length n.sc, V n.pa n.peers.length n.pc]], [row 70 2 (V n.sa n.seen.length n.sc) n.seen.length (n.seen.flatMap snCells)], [blk P0 [.pointer (some ⟨B, 0, none⟩)]], [blk P1 [J Z aid, J Z amt]], []] w1) := hide (HP.out.keep hb1)
 have HO1 : Hid _ := hide (HO.out.below hb1)
 have hkl := hpl.le
 clear hb1 hpl HP c4
 have c4 : w1.cell? ⟨B, 4, none⟩ = some (V n.sa n.seen.length n.sc) := (HP1.out.blkAt (i := 0) rfl).c 4 _ rfl
 cases hfd : foundB n.seen aid k
 ·have hsv := found_none HR.out HPL.out hfd
  by_cases q40 : n.seen.length = 40
  ·have HM : Hid (moneyM n.d (⟨1, aid, 0, amt, ⟨0, 0, 0, 0, 0⟩⟩ : Ac) = (n.d, 5)) := hide (by
    have q2 : ¬ 0 ≤ seenV n.d.seen aid := by rw [show seenV n.d.seen aid = -1 from hsv]; omega
    unfold moneyM
    rw [if_neg q2, if_pos (show n.d.seen.length = 40 from q40)])
   have q40i : ((n.seen.length : Int) == 40) = true := by simp; omega
   clear q40 hsv hfd
   go_wp2
   go_ret
   refine ⟨n.sa, n.sc, by rw [HM.out] <;> rfl, ?_⟩
   rw [HM.out]
   exact (HP1.out.cast rfl)
  ·have q40i : ((n.seen.length : Int) == 40) = false := by simp; omega
   have HQ40 : Hid _ := hide q40
   have HSV : Hid _ := hide hsv
   clear q40 hsv hfd
   go_wp2_with fail
   refine (do1_any B P0 P1 n.id n.has n.spent n.earned aid amt _ _ w1 (HP1.out.blkAt (i := 2) rfl) (HP1.out.blkAt (i := 3) rfl) (HP1.out.blkAt (i := 0) rfl) ⟨by omega, by omega⟩ ⟨by omega, by omega⟩ ⟨by omega, by omega⟩).mono ?_
   rintro e w2 ⟨rfl, ht2, hk2⟩
   obtain ⟨RR, hRR⟩ : ∃ RR, RR = spendM n.has n.spent amt := ⟨_, rfl⟩
   rw [← hRR] at hk2 ⊢
   have HM : Hid (moneyM n.d (⟨1, aid, 0, amt, ⟨0, 0, 0, 0, 0⟩⟩ : Ac) = (⟨n.id, RR.2.1, RR.2.2, n.earned, seeL n.seen aid RR.1, n.peers.map Pr.d⟩, RR.1)) := hide (by
    have q2 : ¬ 0 ≤ seenV n.d.seen aid := by rw [show seenV n.d.seen aid = -1 from HSV.out]; omega
    unfold moneyM
    rw [if_neg q2, if_neg (show ¬ n.d.seen.length = 40 from HQ40.out), if_pos rfl, hRR]
    rfl)
   clear hRR HSV HQ40
   have HP2 : Hid (Pool (B :: (V n.sa n.seen.length n.sc).ownBlock.toList ++ [P0, P1]) w [[blk B [J Z n.id, J Z RR.2.1, J Z RR.2.2, J Z n.earned, V n.sa n.seen.length n.sc, V n.pa n.peers.length n.pc]], [row 70 2 (V n.sa n.seen.length n.sc) n.seen.length (n.seen.flatMap snCells)], [blk P0 [.pointer (some ⟨B, 0, none⟩)]], [blk P1 [J Z aid, J Z amt]], []] w2) := hide (HP1.out.step (i := 0) rfl (by rw [fps_one, blk_fp]; exact Fr.turned ht2) (Star.ofBlk hk2) (fun b hb => .inl hb))
   clear ht2 hk2 HP1 c4
   have c4 : w2.cell? ⟨B, 4, none⟩ = some (V n.sa n.seen.length n.sc) := (HP2.out.blkAt (i := 0) rfl).c 4 _ rfl
   have HP3 := HP2.out.newBlk (i := 4) rfl [J Z aid, J Z RR.1] 70
   obtain ⟨VB, hVB⟩ : ∃ VB, VB = w2.heap.size := ⟨_, rfl⟩
   obtain ⟨w3, hw3⟩ : ∃ w3, w3 = w2.alloc (.cells #[J Z aid, J Z RR.1] 70) := ⟨_, rfl⟩
   have HP4 : Hid (Pool (B :: (V n.sa n.seen.length n.sc).ownBlock.toList ++ [P0, P1]) w [[blk B [J Z n.id, J Z RR.2.1, J Z RR.2.2, J Z n.earned, V n.sa n.seen.length n.sc, V n.pa n.peers.length n.pc]], [row 70 2 (V n.sa n.seen.length n.sc) n.seen.length (n.seen.flatMap snCells)], [blk P0 [.pointer (some ⟨B, 0, none⟩)]], [blk P1 [J Z aid, J Z amt]], [blk VB [J Z aid, J Z RR.1]]] w3) := hide (by rw [hVB, hw3]; exact HP3)
   have HV : Hid (w3.heap[VB]? = some (.cells #[J Z aid, J Z RR.1] 70 (0, 0))) := hide (by rw [hw3, hVB]; exact heap_alloc_new w2 _)
   have HVB : Hid _ := hide hVB
   have HW3 : Hid _ := hide hw3
   clear HP3 hVB hw3
   go_wp2_with fail
   rw [← HW3.out, ← HVB.out]
   have hap := HP4.out.st.apart (a := [_, row 70 2 (V n.sa n.seen.length n.sc) n.seen.length (n.seen.flatMap snCells), _, _]) (b := [_])
   refine (insert_any _ n.seen k ⟨aid, RR.1⟩ VB w3 (by omega) hkl (HP4.out.rowAt (i := 1) rfl) (fun e => hap VB (by simp [fps, row, blk, e]) (by simp [fps, blk])) HV.out).mono ?_
   rintro e w4 ⟨v4, rfl, ho4, hg4, hl4⟩
   clear hap
   rw [ins_see HPL.out, ← see_len n.seen aid RR.1] at ho4
   have hP5 := HP4.out.grow (i := 1) rfl ho4 hg4 hl4
   obtain ⟨sa4, sc4, rfl⟩ := row_shape ho4
   have HP6 := hP5.setBlk (i := 0) rfl 4 (V sa4 (seeL n.seen aid RR.1).length sc4) (by simp)
   have x4 := (hP5.blkAt (i := 0) rfl).c 4 _ rfl
   have y4 := (hP5.blkAt (i := 0) rfl).f 4
   have HP7 : Hid _ := hide HP6
   clear ho4 hg4 hl4 hP5 HP6 HP4
   go_wp2
   go_ret
   refine ⟨sa4, sc4, by rw [HM.out] <;> rfl, ?_⟩
   rw [HM.out]
   exact ((HP7.out.drop (i := 4) rfl).cast rfl)
 ·obtain ⟨hk', hid, hsv⟩ := found_some HR.out HPL.out hfd
  have h0 := HC.out _ (List.getElem_mem hk')
  have HM : Hid (moneyM n.d (⟨1, aid, 0, amt, ⟨0, 0, 0, 0, 0⟩⟩ : Ac) = (n.d, n.seen[k].code)) := hide (by
   have q2 : 0 ≤ seenV n.d.seen aid := by rw [show seenV n.d.seen aid = _ from hsv]; exact h0
   unfold moneyM
   rw [if_pos q2, show seenV n.d.seen aid = _ from hsv])
  obtain ⟨b, off, hsa, hb, d0, d1⟩ := sn_row HO1.out k hk'
  have c4' : w1.cell? ⟨B, 4, none⟩ = some (V (some ⟨b, off, none⟩) n.seen.length n.sc) := by rw [← hsa]; exact c4
  have hk2 : (k : Int) < (n.seen.length : Int) := by omega
  clear hsv hid h0 hfd c4 hsa
  go_wp2
  go_ret
  refine ⟨n.sa, n.sc, by rw [HM.out] <;> rfl, ?_⟩
  rw [HM.out]
  exact (HP1.out.cast rfl)
set_option maxHeartbeats 2000000 in
theorem do2_any (B P0 P1 : Nat) (id has spent earned aid amt : Int) (sv pv : Value) (w : World) (K0 : Blk P0 [.pointer (some ⟨B, 0, none⟩)] w) (K1 : Blk P1 [J Z aid, J Z amt] w) (K : Blk B [J Z id, J Z has, J Z spent, J Z earned, sv, pv] w) (h1 : 0 ≤ has ∧ has ≤ 10000000000000) (h2 : 0 ≤ earned ∧ earned ≤ 1000000000000) (h3 : 0 ≤ amt ∧ amt ≤ 1000000000000) :
  Calls Try.prog 41 #[.pointer (some ⟨P0, 0, none⟩), .pointer (some ⟨P1, 0, none⟩)] w fun e w' => EaEnd B id has spent earned amt sv pv w e w' := by
 have c0 := K0.c 0 _ rfl
 have c1 := K1.c 1 _ rfl
 have HK : Hid _ := hide K
 clear K0 K1 K
 go_enter Try.func41, Try.ntmps41
 go_wp2_with fail
 refine (earn_any B id has spent earned amt sv pv w HK.out h1 h2 h3).mono ?_
 rintro e w1 ⟨rfl, ht, hk⟩
 have HT : Hid _ := hide ht
 have HK2 : Hid _ := hide hk
 clear ht hk
 go_wp2
 go_ret
 exact ⟨rfl, HT.out, HK2.out⟩
set_option maxHeartbeats 4000000 in
theorem onceM2_any (B P0 P1 : Nat) (n : Nd) (aid amt : Int) (w : World) (hl : n.seen.length ≤ 40) (hr : Rises n.seen) (hcd : ∀ x ∈ n.seen, 0 ≤ x.code) (hn : InN n) (ha : 1 ≤ amt ∧ amt ≤ 1000000000000) (st : Star [blk B [J Z n.id, J Z n.has, J Z n.spent, J Z n.earned, V n.sa n.seen.length n.sc, V n.pa n.peers.length n.pc], row 70 2 (V n.sa n.seen.length n.sc) n.seen.length (n.seen.flatMap snCells), blk P0 [.pointer (some ⟨B, 0, none⟩)], blk P1 [J Z aid, J Z amt]] w)  :
  Calls Try.prog 38 #[.pointer (some ⟨B, 0, none⟩), J Z aid, .func (.func 41) #[] #[.pointer (some ⟨P0, 0, none⟩), .pointer (some ⟨P1, 0, none⟩)]] w fun e w' => OnceEnd B P0 P1 n (⟨2, aid, 0, amt, ⟨0, 0, 0, 0, 0⟩⟩ : Ac) w e w' := by
 obtain ⟨⟨r1, r2⟩, ⟨r3, r4⟩, ⟨r5, r6⟩⟩ := hn
 obtain ⟨a1, a2⟩ := ha
 have HP : Hid (Pool (B :: (V n.sa n.seen.length n.sc).ownBlock.toList ++ [P0, P1]) w [[blk B [J Z n.id, J Z n.has, J Z n.spent, J Z n.earned, V n.sa n.seen.length n.sc, V n.pa n.peers.length n.pc]], [row 70 2 (V n.sa n.seen.length n.sc) n.seen.length (n.seen.flatMap snCells)], [blk P0 [.pointer (some ⟨B, 0, none⟩)]], [blk P1 [J Z aid, J Z amt]], []] w) := hide ((Pool.ofL st (by simp [fps, blk, row])).cast (by simp))
 have HR : Hid _ := hide hr
 have HC : Hid _ := hide hcd
 clear st hr hcd
 have c4 : w.cell? ⟨B, 4, none⟩ = some (V n.sa n.seen.length n.sc) := (HP.out.blkAt (i := 0) rfl).c 4 _ rfl
 obtain ⟨g0, sa0, cap0, _, es0, hown0⟩ := own_of_row snLen (HP.out.rowAt (i := 1) rfl)
 simp only [Value.slice.injEq, true_and] at es0
 obtain ⟨rfl, rfl⟩ := es0
 have HO : Hid _ := hide hown0.rows
 clear hown0
 go_enter Try.func38, Try.ntmps38
 go_wp2_with fail
 refine (search_any n.sa n.seen n.sc aid w (by omega) HR.out HO.out).mono ?_
 rintro e w1 ⟨hb1, k, hpl, rfl⟩
 have HPL : Hid _ := hide hpl
 have HP1 : Hid (Pool (B :: (V n.sa n.seen.length n.sc).ownBlock.toList ++ [P0, P1]) w [[blk B [J Z n.id, J Z n.has, J Z n.spent, J Z n.earned, V n.sa n.seen.length n.sc, V n.pa n.peers.length n.pc]], [row 70 2 (V n.sa n.seen.length n.sc) n.seen.length (n.seen.flatMap snCells)], [blk P0 [.pointer (some ⟨B, 0, none⟩)]], [blk P1 [J Z aid, J Z amt]], []] w1) := hide (HP.out.keep hb1)
 have HO1 : Hid _ := hide (HO.out.below hb1)
 have hkl := hpl.le
 clear hb1 hpl HP c4
 have c4 : w1.cell? ⟨B, 4, none⟩ = some (V n.sa n.seen.length n.sc) := (HP1.out.blkAt (i := 0) rfl).c 4 _ rfl
 cases hfd : foundB n.seen aid k
 ·have hsv := found_none HR.out HPL.out hfd
  by_cases q40 : n.seen.length = 40
  ·have HM : Hid (moneyM n.d (⟨2, aid, 0, amt, ⟨0, 0, 0, 0, 0⟩⟩ : Ac) = (n.d, 5)) := hide (by
    have q2 : ¬ 0 ≤ seenV n.d.seen aid := by rw [show seenV n.d.seen aid = -1 from hsv]; omega
    unfold moneyM
    rw [if_neg q2, if_pos (show n.d.seen.length = 40 from q40)])
   have q40i : ((n.seen.length : Int) == 40) = true := by simp; omega
   clear q40 hsv hfd
   go_wp2
   go_ret
   refine ⟨n.sa, n.sc, by rw [HM.out] <;> rfl, ?_⟩
   rw [HM.out]
   exact (HP1.out.cast rfl)
  ·have q40i : ((n.seen.length : Int) == 40) = false := by simp; omega
   have HQ40 : Hid _ := hide q40
   have HSV : Hid _ := hide hsv
   clear q40 hsv hfd
   go_wp2_with fail
   refine (do2_any B P0 P1 n.id n.has n.spent n.earned aid amt _ _ w1 (HP1.out.blkAt (i := 2) rfl) (HP1.out.blkAt (i := 3) rfl) (HP1.out.blkAt (i := 0) rfl) ⟨by omega, by omega⟩ ⟨by omega, by omega⟩ ⟨by omega, by omega⟩).mono ?_
   rintro e w2 ⟨rfl, ht2, hk2⟩
   obtain ⟨RR, hRR⟩ : ∃ RR, RR = earnM n.has n.earned amt := ⟨_, rfl⟩
   rw [← hRR] at hk2 ⊢
   have HM : Hid (moneyM n.d (⟨2, aid, 0, amt, ⟨0, 0, 0, 0, 0⟩⟩ : Ac) = (⟨n.id, RR.2.1, n.spent, RR.2.2, seeL n.seen aid RR.1, n.peers.map Pr.d⟩, RR.1)) := hide (by
    have q2 : ¬ 0 ≤ seenV n.d.seen aid := by rw [show seenV n.d.seen aid = -1 from HSV.out]; omega
    unfold moneyM
    rw [if_neg q2, if_neg (show ¬ n.d.seen.length = 40 from HQ40.out), if_neg (show ¬ (2 : Int) = 1 by omega), hRR]
    rfl)
   clear hRR HSV HQ40
   have HP2 : Hid (Pool (B :: (V n.sa n.seen.length n.sc).ownBlock.toList ++ [P0, P1]) w [[blk B [J Z n.id, J Z RR.2.1, J Z n.spent, J Z RR.2.2, V n.sa n.seen.length n.sc, V n.pa n.peers.length n.pc]], [row 70 2 (V n.sa n.seen.length n.sc) n.seen.length (n.seen.flatMap snCells)], [blk P0 [.pointer (some ⟨B, 0, none⟩)]], [blk P1 [J Z aid, J Z amt]], []] w2) := hide (HP1.out.step (i := 0) rfl (by rw [fps_one, blk_fp]; exact Fr.turned ht2) (Star.ofBlk hk2) (fun b hb => .inl hb))
   clear ht2 hk2 HP1 c4
   have c4 : w2.cell? ⟨B, 4, none⟩ = some (V n.sa n.seen.length n.sc) := (HP2.out.blkAt (i := 0) rfl).c 4 _ rfl
   have HP3 := HP2.out.newBlk (i := 4) rfl [J Z aid, J Z RR.1] 70
   obtain ⟨VB, hVB⟩ : ∃ VB, VB = w2.heap.size := ⟨_, rfl⟩
   obtain ⟨w3, hw3⟩ : ∃ w3, w3 = w2.alloc (.cells #[J Z aid, J Z RR.1] 70) := ⟨_, rfl⟩
   have HP4 : Hid (Pool (B :: (V n.sa n.seen.length n.sc).ownBlock.toList ++ [P0, P1]) w [[blk B [J Z n.id, J Z RR.2.1, J Z n.spent, J Z RR.2.2, V n.sa n.seen.length n.sc, V n.pa n.peers.length n.pc]], [row 70 2 (V n.sa n.seen.length n.sc) n.seen.length (n.seen.flatMap snCells)], [blk P0 [.pointer (some ⟨B, 0, none⟩)]], [blk P1 [J Z aid, J Z amt]], [blk VB [J Z aid, J Z RR.1]]] w3) := hide (by rw [hVB, hw3]; exact HP3)
   have HV : Hid (w3.heap[VB]? = some (.cells #[J Z aid, J Z RR.1] 70 (0, 0))) := hide (by rw [hw3, hVB]; exact heap_alloc_new w2 _)
   have HVB : Hid _ := hide hVB
   have HW3 : Hid _ := hide hw3
   clear HP3 hVB hw3
   go_wp2_with fail
   rw [← HW3.out, ← HVB.out]
   have hap := HP4.out.st.apart (a := [_, row 70 2 (V n.sa n.seen.length n.sc) n.seen.length (n.seen.flatMap snCells), _, _]) (b := [_])
   refine (insert_any _ n.seen k ⟨aid, RR.1⟩ VB w3 (by omega) hkl (HP4.out.rowAt (i := 1) rfl) (fun e => hap VB (by simp [fps, row, blk, e]) (by simp [fps, blk])) HV.out).mono ?_
   rintro e w4 ⟨v4, rfl, ho4, hg4, hl4⟩
   clear hap
   rw [ins_see HPL.out, ← see_len n.seen aid RR.1] at ho4
   have hP5 := HP4.out.grow (i := 1) rfl ho4 hg4 hl4
   obtain ⟨sa4, sc4, rfl⟩ := row_shape ho4
   have HP6 := hP5.setBlk (i := 0) rfl 4 (V sa4 (seeL n.seen aid RR.1).length sc4) (by simp)
   have x4 := (hP5.blkAt (i := 0) rfl).c 4 _ rfl
   have y4 := (hP5.blkAt (i := 0) rfl).f 4
   have HP7 : Hid _ := hide HP6
   clear ho4 hg4 hl4 hP5 HP6 HP4
   go_wp2
   go_ret
   refine ⟨sa4, sc4, by rw [HM.out] <;> rfl, ?_⟩
   rw [HM.out]
   exact ((HP7.out.drop (i := 4) rfl).cast rfl)
 ·obtain ⟨hk', hid, hsv⟩ := found_some HR.out HPL.out hfd
  have h0 := HC.out _ (List.getElem_mem hk')
  have HM : Hid (moneyM n.d (⟨2, aid, 0, amt, ⟨0, 0, 0, 0, 0⟩⟩ : Ac) = (n.d, n.seen[k].code)) := hide (by
   have q2 : 0 ≤ seenV n.d.seen aid := by rw [show seenV n.d.seen aid = _ from hsv]; exact h0
   unfold moneyM
   rw [if_pos q2, show seenV n.d.seen aid = _ from hsv])
  obtain ⟨b, off, hsa, hb, d0, d1⟩ := sn_row HO1.out k hk'
  have c4' : w1.cell? ⟨B, 4, none⟩ = some (V (some ⟨b, off, none⟩) n.seen.length n.sc) := by rw [← hsa]; exact c4
  have hk2 : (k : Int) < (n.seen.length : Int) := by omega
  clear hsv hid h0 hfd c4 hsa
  go_wp2
  go_ret
  refine ⟨n.sa, n.sc, by rw [HM.out] <;> rfl, ?_⟩
  rw [HM.out]
  exact (HP1.out.cast rfl)
end Go.Proofs.Ytkcpoibhlnjldaa
