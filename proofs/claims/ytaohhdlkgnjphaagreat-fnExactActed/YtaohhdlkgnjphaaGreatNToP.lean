/- The laws' copies of nodes own their memory. -/
import Derived.Test.YtaohhdlkgnjphaaGreatPoolN
import Derived.Test.YtaohhdlkgnjphaaGreatNEq
namespace Go.Proofs.YtaohhdlkgnjphaaGreat
open Go.Value renaming int → J, slice → V
open Go.IntKind renaming i64 → Z
open Go.ChangeShapes Go.WideShapes Go.ChangeAt Go.RowKit
set_option linter.unusedVariables false
set_option maxRecDepth 100000
def ToSnsO (l : List Sn) (w : World) (e : Ending) (w' : World) : Prop := Below w.heap.size w w' ∧ ∃ g, e = .returned (V (some ⟨g, 0, none⟩) l.length l.length) ∧ (w.heap.size ≤ g ∧ g < w'.heap.size) ∧ OwnRow 2 snCells w' g (some ⟨g, 0, none⟩) l.length l
set_option maxRecDepth 100000 in
set_option maxHeartbeats 4000000 in
theorem toAnsweredS_own (a : Option Addr) (l : List Sn) (cap : Nat) (w : World) (hn : l.length ≤ 1048576) (h : RowAt 2 snCells w a l) :
  Calls Tryz.prog 25 #[V a l.length cap] w fun e w' => ToSnsO l w e w' := by
 obtain ⟨i0, hi, hz0, hz1, hz2⟩ := info_parts infoSn
 have HL : Hid _ := hide h
 clear h
 have uS : Tryz.prog.underlying 31 = some (.slice 89) := by kernel_rfl
 go_enter Tryz.func25, Tryz.ntmps25
 go_wp2_with (first | (at_make; refine Shut2.mk ?_) | go_in)
 refine Shut2.mk' ?_
 refine wpList_make_full _ rfl _ _ 31 rfl w.heap.size 89 i0 _ 2 uS hi hz0 hz1 .i64 .i64 _ _ l.length rfl rfl rfl rfl (by rw [hz2]; omega) (by unfold maxLen; omega) (Nat.le_refl _) ?_
 intro w0 hown hgrow
 have HB0 : Hid (Below w.heap.size w w0) := hide ((Below.refl _ _).grown hgrow (Nat.le_refl _) (fun j hj => by cases hj))
 have HM0 : Hid _ := hide (rowMid_made (cells := (fun i => (l[i]?).elim [] snCells)) hown)
 clear hown hgrow
 go_wp2
 go_loopw [4] (fun i wr => ∃ k : Nat, k ≤ l.length ∧ i = J Z (k : Int) ∧ Below w.heap.size w wr ∧ Hid (RowMid w.heap.size l.length 2 (fun i => (l[i]?).elim [] snCells) k wr)) (fun i wr => l.length - (intOf i).toNat)
 case atStart => exact ⟨0, Nat.zero_le _, rfl, HB0.out, HM0⟩
 case round =>
  obtain ⟨k, hk, rfl, HB, HM⟩ := hrel
  by_cases hlt : k < l.length
  ·obtain ⟨b, off, rfl, hb, d0, d1⟩ := sn_row (HL.out.below HB) k hlt
   have hlt' : (k : Int) < (l.length : Int) := by omega
   go_wp2_with fail
   refine (toAnswered_any _ _ wr).mono ?_
   rintro e w1 ⟨rfl, hb1⟩
   have hM1 := HM.out.below hb1
   have HP : Hid _ := hide ((((HM.out.below hb1).put).set hlt (by decide) (v := J Z (l[k]).id) (by simp [List.getElem?_eq_getElem hlt, snCells]) rfl).set hlt (by decide) (v := J Z (l[k]).code) (by simp [List.getElem?_eq_getElem hlt, snCells]) rfl).whole
   have HB1 : Hid _ := hide (below_trans HB hb1)
   obtain ⟨v0, f0⟩ := hM1.there (k * 2 + 0) (by omega)
   obtain ⟨v1, f1⟩ := hM1.there (k * 2 + 1) (by omega)
   have z0 := hM1.free (k * 2 + 0)
   have z1 := hM1.free (k * 2 + 1)
   simp only [Nat.add_zero] at f0 z0
   clear hM1 hb1
   go_wp2
   exact ⟨⟨k + 1, by omega, by go_num, ((HB1.out.setCell (Nat.le_refl _) _).setCell (Nat.le_refl _) _), HP⟩, by simp [intOf]; omega⟩
  ·have hk' : ¬ (k : Int) < (l.length : Int) := by omega
   have HE : Hid (ToSnsO l w (.returned (V (some ⟨w.heap.size, 0, none⟩) l.length l.length)) wr) := hide (by
    have M := HM.out
    rw [show k = l.length by omega] at M
    have O := own_of_mid snLen M (Nat.le_refl _)
    exact ⟨HB, w.heap.size, rfl, ⟨Nat.le_refl _, M.lt⟩, O⟩)
   go_wp2
   go_ret
   exact HE.out
theorem name_post0 {P : Program} {f : Func} {Q : Ending → World → Prop} {e : Exit} {a : Act} {w : World} (h : ∀ W, W = w → bodyPost P f Q e a W) : bodyPost P f Q e a w := h w rfl
/-- a row that is being written -/
def mid (g n size : Nat) (cells : Nat → List Value) (k : Nat) : Rs := ⟨[g], RowMid g n size cells k, fun x y e h => by
 have e := e g (by simp)
 have hlt : g < y.heap.size := by
  rcases Nat.lt_or_ge g y.heap.size with q | q
  ·exact q
  ·rw [Array.getElem?_eq_none q, Array.getElem?_eq_getElem h.lt] at e
   cases e
 exact ⟨hlt, fun j hj => by obtain ⟨v, hv⟩ := h.there j hj; exact ⟨v, (World.cell?_of_block (a := ⟨g, j, none⟩) e).trans hv⟩, fun j => (World.frozen?_of_block (a := ⟨g, j, none⟩) e).trans (h.free j), fun i r hi hr => (World.cell?_of_block (a := ⟨g, i * size + r, none⟩) e).trans (h.done i r hi hr)⟩⟩
theorem Star.ofMid {g n size k : Nat} {cells : Nat → List Value} {x : World} (h : RowMid g n size cells k x) : Star [mid g n size cells k] x := Star.one (r := mid g n size cells k) h (by simp [mid]) (fun c hc => by simp only [mid, List.mem_singleton] at hc; subst hc; exact h.lt)
theorem own_star {A : Type} {sz : Nat} {f : A → List Value} {w x : World} {g : Nat} {l : List A} {cap : Nat} (hg : w.heap.size ≤ g) (h : OwnRow sz f x g (some ⟨g, 0, none⟩) cap l) : Star [orow sz f (some ⟨g, 0, none⟩) cap l] x ∧ ∀ b ∈ fps [orow sz f (some ⟨g, 0, none⟩) cap l], w.heap.size ≤ b := by
 obtain ⟨st, hb⟩ := Star.ofOrow h
 exact ⟨st, fun b q => by rw [hb b q]; exact hg⟩
set_option maxHeartbeats 4000000 in
theorem toPeer_own (id : Int) (a : Option Addr) (cap : Nat) (E : En) (w : World) (hn : E.out.length ≤ 1048576) (h : RowAt 2 prcCells w a E.out) :
  Calls Tryz.prog 49 #[.agg #[J Z id, V a E.out.length cap, J Z E.sent, J Z E.got]] w fun e w' => ∃ g, e = .returned (.agg #[J Z id, V (some ⟨g, 0, none⟩) E.out.length E.out.length, J Z E.sent, J Z E.got]) ∧ Pool [] w [[orow 2 prcCells (some ⟨g, 0, none⟩) E.out.length E.out]] w' := by
 have HL : Hid _ := hide h
 clear h
 obtain ⟨W, hW⟩ : ∃ W, W = ((w.alloc (.cells #[J Z id, V a E.out.length cap, J Z E.sent, J Z E.got] 86)).alloc (.cells #[J Z 0, V none 0 0, J Z 0, J Z 0] 60)).alloc (.cells #[J Z id, V none 0 0, J Z 0, J Z 0] 60) := ⟨_, rfl⟩
 have s1 : (w.alloc (.cells #[J Z id, V a E.out.length cap, J Z E.sent, J Z E.got] 86)).heap.size = w.heap.size + 1 := by simp
 have s2 : ((w.alloc (.cells #[J Z id, V a E.out.length cap, J Z E.sent, J Z E.got] 86)).alloc (.cells #[J Z 0, V none 0 0, J Z 0, J Z 0] 60)).heap.size = w.heap.size + 1 + 1 := by simp
 have HP : Hid (Pool [] w [[blk w.heap.size [J Z id, V a E.out.length cap, J Z E.sent, J Z E.got]], [blk (w.heap.size + 1) [J Z 0, V none 0 0, J Z 0, J Z 0]], [blk (w.heap.size + 1 + 1) [J Z id, V none 0 0, J Z 0, J Z 0]], []] W) := hide (by
  rw [hW, ← s2, ← s1]
  exact (((Pool.start w [[], [], [], []] rfl).newBlk (i := 0) rfl [J Z id, V a E.out.length cap, J Z E.sent, J Z E.got] 86).newBlk (i := 1) rfl [J Z 0, V none 0 0, J Z 0, J Z 0] 60).newBlk (i := 2) rfl [J Z id, V none 0 0, J Z 0, J Z 0] 60)
 have HW : Hid (((w.alloc (.cells #[J Z id, V a E.out.length cap, J Z E.sent, J Z E.got] 86)).alloc (.cells #[J Z 0, V none 0 0, J Z 0, J Z 0] 60)).alloc (.cells #[J Z id, V none 0 0, J Z 0, J Z 0] 60) = W) := hide hW.symm
 clear hW s1 s2
 go_enter Tryz.func49, Tryz.ntmps49
 go_wp2_with fail
 rw [HW.out]
 refine (toEnd_any _ E.out _ _ _ W hn (HL.out.below HP.out.below)).mono ?_
 rintro e w1 ⟨hb1, g, rfl, ⟨hg, hgl⟩, ho⟩
 obtain ⟨st, hi⟩ := own_star hg ho
 have p1 := HP.out.new (i := 3) rfl hb1 st hi
 have p2 := ((p1.setBlk (i := 2) rfl 1 (V (some ⟨g, 0, none⟩) E.out.length E.out.length) (by simp)).setBlk (i := 2) rfl 2 (J Z E.sent) (by simp)).setBlk (i := 2) rfl 3 (J Z E.got) (by simp)
 have p3 := (((p2.setBlk (i := 1) rfl 0 (J Z id) (by simp)).setBlk (i := 1) rfl 1 (V (some ⟨g, 0, none⟩) E.out.length E.out.length) (by simp)).setBlk (i := 1) rfl 2 (J Z E.sent) (by simp)).setBlk (i := 1) rfl 3 (J Z E.got) (by simp)
 have HQ : Hid _ := hide p3
 have jO := p1.blkAt (i := 2) rfl
 have jR := p2.blkAt (i := 1) rfl
 have jP := p2.blkAt (i := 2) rfl
 have t0 := jO.c 0 _ rfl
 have ft0 := jO.f 0
 have u0 := jR.c 0 _ rfl
 have fu0 := jR.f 0
 have q0 := jP.c 0 _ rfl
 have t1 := jO.c 1 _ rfl
 have ft1 := jO.f 1
 have u1 := jR.c 1 _ rfl
 have fu1 := jR.f 1
 have q1 := jP.c 1 _ rfl
 have t2 := jO.c 2 _ rfl
 have ft2 := jO.f 2
 have u2 := jR.c 2 _ rfl
 have fu2 := jR.f 2
 have q2 := jP.c 2 _ rfl
 have t3 := jO.c 3 _ rfl
 have ft3 := jO.f 3
 have u3 := jR.c 3 _ rfl
 have fu3 := jR.f 3
 have q3 := jP.c 3 _ rfl
 clear jO jR jP p1 p2 p3 st hi hb1 ho hg hgl HP
 go_wp2
 refine name_post0 (fun W9 hW9 => ?_)
 have hq := HQ.out
 rw [← hW9] at hq
 have z_ := hq.blkAt (i := 1) rfl
 have g0_ := z_.c 0 _ rfl
 have g1_ := z_.c 1 _ rfl
 have g2_ := z_.c 2 _ rfl
 have g3_ := z_.c 3 _ rfl
 exact bodyPost_ret (v := .agg #[J Z id, V (some ⟨g, 0, none⟩) E.out.length E.out.length, J Z E.sent, J Z E.got]) (by simp [results, Tryz.results49, go_sem, g0_, g1_, g2_, g3_]) rfl ⟨g, rfl, (((hq.drop (i := 2) rfl).drop (i := 1) rfl).drop (i := 0) rfl).cast (by simp)⟩
theorem Pool.putPeer {F : List Nat} {w x : World} {S : List (List Rs)} (h : Pool F w S x) {i g n k : Nat} {L : List Pr} (hi : S[i]? = some [mid g n 4 (fun i => (L[i]?).elim [] prCells) k]) (hk : k < n) (hL : L.length = k) (p : Pr) :
  Pool F w (S.set i [mid g n 4 (fun i => ((L ++ [p])[i]?).elim [] prCells) (k + 1)]) ((((x.setCell ⟨g, k * 4, none⟩ (J Z p.id)).setCell ⟨g, k * 4 + 1, none⟩ (V p.a p.E.out.length p.cap)).setCell ⟨g, k * 4 + 2, none⟩ (J Z p.E.sent)).setCell ⟨g, k * 4 + 3, none⟩ (J Z p.E.got)) := by
 have hm : RowMid g n 4 (fun i => (L[i]?).elim [] prCells) k x := (h.get hi).get (r := mid g n 4 _ k) (by simp)
 have hc := hm.congr (c' := fun i => ((L ++ [p])[i]?).elim [] prCells) (fun i hi => by show (L[i]?).elim [] prCells = ((L ++ [p])[i]?).elim [] prCells; rw [List.getElem?_append_left (by omega)])
 have e : ((L ++ [p])[k]?).elim [] prCells = prCells p := by rw [← hL]; simp
 have h4 := ((((hc.put).set hk (by decide) (v := J Z p.id) (by simp only [e]; rfl) (o := k * 4) rfl).set hk (by decide) (v := V p.a p.E.out.length p.cap) (by simp only [e]; rfl) (o := k * 4 + 1) rfl).set hk (by decide) (v := J Z p.E.sent) (by simp only [e]; rfl) (o := k * 4 + 2) rfl).set hk (by decide) (v := J Z p.E.got) (by simp only [e]; rfl) (o := k * 4 + 3) rfl
 have hg : g ∈ fps [mid g n 4 (fun i => (L[i]?).elim [] prCells) k] := by simp [fps, mid]
 exact h.step hi (((((Fr.refl _ _).set (.inl hg)).set (.inl hg)).set (.inl hg)).set (.inl hg)) (Star.ofMid h4.whole) (fun b q => .inl (by simpa [fps, mid] using q))
theorem Pool.midOwn {F : List Nat} {w x : World} {S : List (List Rs)} (h : Pool F w S x) {i g : Nat} {L : List Pr} (hi : S[i]? = some [mid g L.length 4 (fun i => (L[i]?).elim [] prCells) L.length]) : Pool F w (S.set i [orow 4 prCells (some ⟨g, 0, none⟩) L.length L]) x := by
 have hm : RowMid g L.length 4 (fun i => (L[i]?).elim [] prCells) L.length x := (h.get hi).get (r := mid g L.length 4 _ L.length) (by simp)
 obtain ⟨st, hb⟩ := Star.ofOrow (own_of_mid prLen hm (Nat.le_refl _))
 exact h.step hi (Fr.refl _ _) st (fun b q => .inl (by rw [hb b q]; simp [fps, mid]))
set_option maxHeartbeats 4000000 in
theorem toPeerS_own (a : Option Addr) (l : List Pr) (cap : Nat) (w : World) (hn : l.length ≤ 1048576) (hsm : SmP l) (h : PeersAt w a l) :
  Calls Tryz.prog 26 #[V a l.length cap] w fun e w' => ∃ (g : Nat) (L : List Pr), e = .returned (V (some ⟨g, 0, none⟩) L.length L.length) ∧ L.map Pr.d = l.map Pr.d ∧ (∀ p ∈ L, p.a ≠ none) ∧ Pool [] w [orow 4 prCells (some ⟨g, 0, none⟩) L.length L :: endsL L] w' := by
 obtain ⟨i0, hi, hz0, hz1, hz2⟩ := info_parts infoPr
 have HL : Hid _ := hide h
 clear h
 have uS : Tryz.prog.underlying 32 = some (.slice 60) := by kernel_rfl
 go_enter Tryz.func26, Tryz.ntmps26
 go_wp2_with (first | (at_make; refine Shut2.mk ?_) | go_in)
 refine Shut2.mk' ?_
 refine wpList_make_full _ rfl _ _ 32 rfl w.heap.size 60 i0 _ 4 uS hi hz0 hz1 .i64 .i64 _ _ l.length rfl rfl rfl rfl (by rw [hz2]; omega) (by unfold maxLen; omega) (Nat.le_refl _) ?_
 intro w0 hown hgrow
 have hb0 : Below w.heap.size w w0 := (Below.refl _ _).grown hgrow (Nat.le_refl _) (fun j hj => by cases hj)
 obtain ⟨G, hG⟩ : ∃ G, G = w.heap.size := ⟨_, rfl⟩
 have HP0 : Hid (Pool [] w [[mid G l.length 4 (fun i => (([] : List Pr)[i]?).elim [] prCells) 0], endsL []] w0) := hide (by
  rw [hG]
  exact (Pool.start w [[], []] rfl).new (i := 0) rfl hb0 (Star.ofMid (rowMid_made hown)) (fun c hc => by simp only [fps, mid, List.flatMap_cons, List.flatMap_nil, List.append_nil, List.mem_singleton] at hc; omega))
 rw [← hG]
 clear hown hgrow hb0 hG
 go_wp2
 go_loopw [4] (fun i wr => ∃ L : List Pr, L.length ≤ l.length ∧ i = J Z (L.length : Int) ∧ L.map Pr.d = (l.take L.length).map Pr.d ∧ (∀ p ∈ L, p.a ≠ none) ∧ Hid (Pool [] w [[mid G l.length 4 (fun i => (L[i]?).elim [] prCells) L.length], endsL L] wr)) (fun i wr => l.length - (intOf i).toNat)
 case atStart => exact ⟨[], Nat.zero_le _, rfl, by simp, fun p hp => by simp at hp, HP0⟩
 case round =>
  clear HP0
  obtain ⟨L, hk, rfl, hD, hA, HM⟩ := hrel
  have HD : Hid _ := hide hD
  have HA : Hid _ := hide hA
  clear hD hA
  by_cases hlt : L.length < l.length
  ·obtain ⟨b, off, rfl, hb, d0, d1, d2, d3⟩ := pr_row (HL.out.row.below HM.out.below) L.length hlt
   have hlt' : (L.length : Int) < (l.length : Int) := by omega
   go_wp2_with fail
   refine (toPeer_own _ _ _ _ wr (hsm _ (List.getElem_mem hlt)) ((HL.out.ends _ (List.getElem_mem hlt)).below HM.out.below)).mono ?_
   rintro e w1 ⟨g1, rfl, hP1⟩
   have p1 := ((HM.out.cast (S' := [[mid G l.length 4 (fun i => (L[i]?).elim [] prCells) L.length], endsL L, []]) (by simp)).call (i := 2) (rs := []) rfl hP1)
   have hM1 : RowMid G l.length 4 (fun i => (L[i]?).elim [] prCells) L.length w1 := (p1.get (i := 0) rfl).get (r := mid G l.length 4 _ L.length) (by simp)
   have p2 := (p1.putPeer (i := 0) rfl hlt rfl (⟨l[L.length].id, some ⟨g1, 0, none⟩, l[L.length].E.out.length, l[L.length].E⟩ : Pr)).merge (i := 1) (j := 2) (by decide) rfl rfl
   have HP : Hid _ := hide p2
   obtain ⟨v0, f0⟩ := hM1.there (L.length * 4 + 0) (by omega)
   obtain ⟨v1, f1⟩ := hM1.there (L.length * 4 + 1) (by omega)
   obtain ⟨v2, f2⟩ := hM1.there (L.length * 4 + 2) (by omega)
   obtain ⟨v3, f3⟩ := hM1.there (L.length * 4 + 3) (by omega)
   have z0 := hM1.free (L.length * 4 + 0)
   have z1 := hM1.free (L.length * 4 + 1)
   have z2 := hM1.free (L.length * 4 + 2)
   have z3 := hM1.free (L.length * 4 + 3)
   simp only [Nat.add_zero] at f0 z0
   clear hM1 p1 p2 hP1
   go_wp2
   refine ⟨⟨L ++ [⟨l[L.length].id, some ⟨g1, 0, none⟩, l[L.length].E.out.length, l[L.length].E⟩], by simp; omega, by simp, ?_, ?_, hide ?_⟩, by simp [intOf]; omega⟩
   ·rw [List.length_append, List.length_singleton, List.take_succ_eq_append_getElem hlt, List.map_append, List.map_append, HD.out]
    rfl
   ·intro p hp
    rcases List.mem_append.1 hp with q | q
    ·exact HA.out p q
    ·simp only [List.mem_singleton] at q
     rw [q]
     simp
   ·rw [List.length_append, List.length_singleton, endsL_app]
    exact HP.out.cast (by simp)
  ·have hk' : ¬ (L.length : Int) < (l.length : Int) := by omega
   have hle : l.length = L.length := by omega
   have HE : Hid (Pool [] w [orow 4 prCells (some ⟨G, 0, none⟩) L.length L :: endsL L] wr) := hide (by
    have := HM.out
    rw [hle] at this
    exact (this.midOwn (i := 0) rfl).cast (by simp))
   have HDD : Hid (L.map Pr.d = l.map Pr.d) := hide (by
    have := HD.out
    rw [← hle, List.take_length] at this
    exact this)
   have HLE : Hid _ := hide hle
   clear hle
   go_wp2
   go_ret
   exact ⟨G, L, by rw [← HLE.out]; rfl, HDD.out, HA.out, HE.out⟩
/-- a copy of a node that a law makes -/
def ToNd (n : Nd) (w : World) (e : Ending) (w' : World) : Prop := ∃ n2 : Nd, e = .returned (ndV n2) ∧ n2.d = n.d ∧ (n2.sa ≠ none ∧ n2.pa ≠ none ∧ ∀ p ∈ n2.peers, p.a ≠ none) ∧ Pool [] w [ndL n2] w'
set_option maxHeartbeats 4000000 in
theorem toNode_own (n : Nd) (w : World) (hsm : SmN n) (h : NodeAt w n) :
  Calls Tryz.prog 6 #[.agg #[J Z n.id, J Z n.has, J Z n.spent, J Z n.earned, V n.sa n.seen.length n.sc, V n.pa n.peers.length n.pc]] w fun e w' => ToNd n w e w' := by
 have HL : Hid _ := hide h
 have HM : Hid _ := hide hsm
 clear h hsm
 obtain ⟨W, hW⟩ : ∃ W, W = ((w.alloc (.cells #[J Z n.id, J Z n.has, J Z n.spent, J Z n.earned, V n.sa n.seen.length n.sc, V n.pa n.peers.length n.pc] 25)).alloc (.cells #[J Z 0, J Z 0, J Z 0, J Z 0, V none 0 0, V none 0 0] 34)).alloc (.cells #[J Z n.id, J Z n.has, J Z n.spent, J Z n.earned, V none 0 0, V none 0 0] 34) := ⟨_, rfl⟩
 have s1 : (w.alloc (.cells #[J Z n.id, J Z n.has, J Z n.spent, J Z n.earned, V n.sa n.seen.length n.sc, V n.pa n.peers.length n.pc] 25)).heap.size = w.heap.size + 1 := by simp
 have s2 : ((w.alloc (.cells #[J Z n.id, J Z n.has, J Z n.spent, J Z n.earned, V n.sa n.seen.length n.sc, V n.pa n.peers.length n.pc] 25)).alloc (.cells #[J Z 0, J Z 0, J Z 0, J Z 0, V none 0 0, V none 0 0] 34)).heap.size = w.heap.size + 1 + 1 := by simp
 have HP : Hid (Pool [] w [[blk w.heap.size [J Z n.id, J Z n.has, J Z n.spent, J Z n.earned, V n.sa n.seen.length n.sc, V n.pa n.peers.length n.pc]], [blk (w.heap.size + 1) [J Z 0, J Z 0, J Z 0, J Z 0, V none 0 0, V none 0 0]], [blk (w.heap.size + 1 + 1) [J Z n.id, J Z n.has, J Z n.spent, J Z n.earned, V none 0 0, V none 0 0]], [], []] W) := hide (by
  rw [hW, ← s2, ← s1]
  exact (((Pool.start w [[], [], [], [], []] rfl).newBlk (i := 0) rfl [J Z n.id, J Z n.has, J Z n.spent, J Z n.earned, V n.sa n.seen.length n.sc, V n.pa n.peers.length n.pc] 25).newBlk (i := 1) rfl [J Z 0, J Z 0, J Z 0, J Z 0, V none 0 0, V none 0 0] 34).newBlk (i := 2) rfl [J Z n.id, J Z n.has, J Z n.spent, J Z n.earned, V none 0 0, V none 0 0] 34)
 have HW : Hid (((w.alloc (.cells #[J Z n.id, J Z n.has, J Z n.spent, J Z n.earned, V n.sa n.seen.length n.sc, V n.pa n.peers.length n.pc] 25)).alloc (.cells #[J Z 0, J Z 0, J Z 0, J Z 0, V none 0 0, V none 0 0] 34)).alloc (.cells #[J Z n.id, J Z n.has, J Z n.spent, J Z n.earned, V none 0 0, V none 0 0] 34) = W) := hide hW.symm
 clear hW s1 s2
 go_enter Tryz.func6, Tryz.ntmps6
 go_wp2_with fail
 rw [HW.out]
 refine (toAnsweredS_own _ n.seen _ W HM.out.1 (HL.out.seen.below HP.out.below)).mono ?_
 rintro e w1 ⟨hb1, g1, rfl, ⟨hg1, hgl1⟩, ho1⟩
 obtain ⟨st1, hi1⟩ := own_star hg1 ho1
 have p1 := HP.out.new (i := 3) rfl hb1 st1 hi1
 have p2 := p1.setBlk (i := 2) rfl 4 (V (some ⟨g1, 0, none⟩) n.seen.length n.seen.length) (by simp)
 have t4 := (p1.blkAt (i := 2) rfl).c 4 _ rfl
 have ft4 := (p1.blkAt (i := 2) rfl).f 4
 have y5 := (p1.blkAt (i := 0) rfl).c 5 _ rfl
 have HP2 : Hid _ := hide p2
 clear p1 p2 st1 hi1 hb1 ho1 hg1 hgl1 HP
 go_wp2_with fail
 refine (toPeerS_own _ n.peers _ _ HM.out.2.1 HM.out.2.2 (HL.out.peers.below HP2.out.below)).mono ?_
 rintro e w2 ⟨g2, L, rfl, hd, ha, hP2⟩
 have HD : Hid _ := hide hd
 have HA : Hid _ := hide ha
 have p3 := HP2.out.call (i := 4) (rs := []) rfl hP2
 have p4 := p3.setBlk (i := 2) rfl 5 (V (some ⟨g2, 0, none⟩) L.length L.length) (by simp)
 have p5 := p4.set6 (i := 1) rfl (J Z n.id) (J Z n.has) (J Z n.spent) (J Z n.earned) (V (some ⟨g1, 0, none⟩) n.seen.length n.seen.length) (V (some ⟨g2, 0, none⟩) L.length L.length)
 have HQ : Hid _ := hide p5
 have jO := p3.blkAt (i := 2) rfl
 have jR := p4.blkAt (i := 1) rfl
 have jP := p4.blkAt (i := 2) rfl
 clear t4 ft4 y5
 have t0 := jO.c 0 _ rfl
 have ft0 := jO.f 0
 have u0 := jR.c 0 _ rfl
 have fu0 := jR.f 0
 have q0 := jP.c 0 _ rfl
 have t1 := jO.c 1 _ rfl
 have ft1 := jO.f 1
 have u1 := jR.c 1 _ rfl
 have fu1 := jR.f 1
 have q1 := jP.c 1 _ rfl
 have t2 := jO.c 2 _ rfl
 have ft2 := jO.f 2
 have u2 := jR.c 2 _ rfl
 have fu2 := jR.f 2
 have q2 := jP.c 2 _ rfl
 have t3 := jO.c 3 _ rfl
 have ft3 := jO.f 3
 have u3 := jR.c 3 _ rfl
 have fu3 := jR.f 3
 have q3 := jP.c 3 _ rfl
 have t4 := jO.c 4 _ rfl
 have ft4 := jO.f 4
 have u4 := jR.c 4 _ rfl
 have fu4 := jR.f 4
 have q4 := jP.c 4 _ rfl
 have t5 := jO.c 5 _ rfl
 have ft5 := jO.f 5
 have u5 := jR.c 5 _ rfl
 have fu5 := jR.f 5
 have q5 := jP.c 5 _ rfl
 clear jO jR jP p3 p4 p5 hd ha hP2 HP2
 go_wp2
 refine name_post0 (fun W9 hW9 => ?_)
 have hq := HQ.out
 rw [← hW9] at hq
 have z_ := hq.blkAt (i := 1) rfl
 have g0_ := z_.c 0 _ rfl
 have g1_ := z_.c 1 _ rfl
 have g2_ := z_.c 2 _ rfl
 have g3_ := z_.c 3 _ rfl
 have g4_ := z_.c 4 _ rfl
 have g5_ := z_.c 5 _ rfl
 exact bodyPost_ret (v := ndV ⟨n.id, n.has, n.spent, n.earned, some ⟨g1, 0, none⟩, n.seen.length, n.seen, some ⟨g2, 0, none⟩, L.length, L⟩) (by simp [results, Tryz.results6, go_sem, g0_, g1_, g2_, g3_, g4_, g5_, ndV]) rfl ⟨⟨n.id, n.has, n.spent, n.earned, some ⟨g1, 0, none⟩, n.seen.length, n.seen, some ⟨g2, 0, none⟩, L.length, L⟩, rfl, (by simp only [Nd.d, HD.out]), ⟨by simp, by simp, HA.out⟩, (((hq.drop (i := 2) rfl).drop (i := 1) rfl).drop (i := 0) rfl).cast (by simp [ndL])⟩
end Go.Proofs.YtaohhdlkgnjphaaGreat
