/- slices.Clone of a node's rows, the program's nodeCopy. -/
import Derived.Test.YtkcpoibhlnjldaaAcIA
import Derived.Test.YtkcpoibhlnjldaaAcS5
namespace Go.Proofs.Ytkcpoibhlnjldaa
open Go.Value renaming int → J, slice → V
open Go.IntKind renaming i64 → Z
open Go renaming undef → U
open Go.ChangeShapes Go.WideShapes Go.ChangeAt Go.RowKit
set_option linter.unusedVariables false
set_option maxRecDepth 100000
theorem infoPrc : (Try.prog.info? 61).map (fun i => (i.zero, i.size, i.bytes)) = some (some (.agg #[J Z 0, J Z 0]), 2, 16) := by kernel_rfl
set_option maxHeartbeats 2000000 in
theorem cloneS_own (a : Option Addr) (l : List Sn) (cap : Nat) (w : World) (hl : l.length ≤ 1048576) (hc : a = none → cap = 0) (h : RowAt 2 snCells w a l) :
  Calls Try.prog 34 #[V a l.length cap] w fun e w' => Below w.heap.size w w' ∧ ∃ v, e = .returned v ∧ w'.ownsRow w.heap.size 70 2 v l.length (l.flatMap snCells) := by
 obtain ⟨i0, hi0, hz0, hz1, hz2⟩ := info_parts infoSn
 have hu : Try.prog.underlying 24 = some (.slice 70) := by kernel_rfl
 have HN : Hid _ := hide (h.news_any snLen (by decide))
 cases a with
 | none =>
  have e0 : l = [] := List.eq_nil_of_length_eq_zero (row_none h rfl)
  subst e0
  obtain rfl := hc rfl
  clear h
  have he : ∀ w : World, (binOp .eql 24 (V none 0 0) (V none 0 0)).run Try.prog w = .ok (.bool true) w := fun _ => rfl
  go_enter Try.func34, Try.ntmps34
  go_wp2
  go_ret
  exact ⟨Below.refl _ _, _, rfl, ⟨by simp, .inl ⟨rfl, rfl⟩⟩⟩
 | some ad =>
  clear h
  have he : ∀ w : World, (binOp .eql 24 (V (some ad) l.length cap) (V none 0 0)).run Try.prog w = .ok (.bool false) w := fun _ => rfl
  go_enter Try.func34, Try.ntmps34
  go_wp2_with (first | (at_builtin; refine Shut2.mk ?_) | go_in)
  refine Shut2.mk' ?_
  refine wpList_append_own_at _ rfl _ _ 24 rfl w.heap.size 70 i0 _ 2 16 hu hi0 hz0 hz1 hz2 rfl (by decide) _ 0 [] rfl ?own ad l.length cap (l.flatMap snCells) rfl (flat_len snCells 2 snLen l) ?news (sn_one l) (by unfold maxLen; omega) (by omega) ?base ?_
  case own => exact World.ownsRow_made w #[] 0 (Nat.le_refl _) (by unfold maxLen; omega) rfl
  case news => exact fun j u hj => (World.grownBy_alloc w _ none).cell (HN.out ad rfl j u hj) (by simp)
  case base => simp
  intro v' w1 hown' hgrow hnil hloc
  have HB : Hid (Below w.heap.size w w1) := hide (below_grown hgrow (below_alloc (Below.refl _ _) _) (fun j hj => by cases hj; exact Nat.le_refl _))
  have HO : Hid _ := hide hown'
  clear hown' hgrow hnil hloc
  go_wp2
  go_ret
  have ho := HO.out
  rw [List.nil_append, Nat.zero_add] at ho
  exact ⟨HB.out, v', rfl, ho⟩
set_option maxHeartbeats 2000000 in
theorem cloneP_own (a : Option Addr) (l : List Pr) (cap : Nat) (w : World) (hl : l.length ≤ 1048576) (hc : a = none → cap = 0) (h : RowAt 4 prCells w a l) :
  Calls Try.prog 35 #[V a l.length cap] w fun e w' => Below w.heap.size w w' ∧ ∃ v, e = .returned v ∧ w'.ownsRow w.heap.size 41 4 v l.length (l.flatMap prCells) := by
 obtain ⟨i0, hi0, hz0, hz1, hz2⟩ := info_parts infoPr
 have hu : Try.prog.underlying 25 = some (.slice 41) := by kernel_rfl
 have HN : Hid _ := hide (h.news_any prLen (by decide))
 cases a with
 | none =>
  have e0 : l = [] := List.eq_nil_of_length_eq_zero (row_none h rfl)
  subst e0
  obtain rfl := hc rfl
  clear h
  have he : ∀ w : World, (binOp .eql 25 (V none 0 0) (V none 0 0)).run Try.prog w = .ok (.bool true) w := fun _ => rfl
  go_enter Try.func35, Try.ntmps35
  go_wp2
  go_ret
  exact ⟨Below.refl _ _, _, rfl, ⟨by simp, .inl ⟨rfl, rfl⟩⟩⟩
 | some ad =>
  clear h
  have he : ∀ w : World, (binOp .eql 25 (V (some ad) l.length cap) (V none 0 0)).run Try.prog w = .ok (.bool false) w := fun _ => rfl
  go_enter Try.func35, Try.ntmps35
  go_wp2_with (first | (at_builtin; refine Shut2.mk ?_) | go_in)
  refine Shut2.mk' ?_
  refine wpList_append_own_at _ rfl _ _ 25 rfl w.heap.size 41 i0 _ 4 48 hu hi0 hz0 hz1 hz2 rfl (by decide) _ 0 [] rfl ?own ad l.length cap (l.flatMap prCells) rfl (flat_len prCells 4 prLen l) ?news (fun u hu => by obtain ⟨p, _, hp⟩ := List.mem_flatMap.1 hu; exact pr_one p u hp) (by unfold maxLen; omega) (by omega) ?base ?_
  case own => exact World.ownsRow_made w #[] 0 (Nat.le_refl _) (by unfold maxLen; omega) rfl
  case news => exact fun j u hj => (World.grownBy_alloc w _ none).cell (HN.out ad rfl j u hj) (by simp)
  case base => simp
  intro v' w1 hown' hgrow hnil hloc
  have HB : Hid (Below w.heap.size w w1) := hide (below_grown hgrow (below_alloc (Below.refl _ _) _) (fun j hj => by cases hj; exact Nat.le_refl _))
  have HO : Hid _ := hide hown'
  clear hown' hgrow hnil hloc
  go_wp2
  go_ret
  have ho := HO.out
  rw [List.nil_append, Nat.zero_add] at ho
  exact ⟨HB.out, v', rfl, ho⟩
set_option maxHeartbeats 2000000 in
theorem cloneC_own (a : Option Addr) (l : List Prc) (cap : Nat) (w : World) (hl : l.length ≤ 1048576) (hc : a = none → cap = 0) (h : RowAt 2 prcCells w a l) :
  Calls Try.prog 36 #[V a l.length cap] w fun e w' => Below w.heap.size w w' ∧ ∃ v, e = .returned v ∧ w'.ownsRow w.heap.size 61 2 v l.length (l.flatMap prcCells) := by
 obtain ⟨i0, hi0, hz0, hz1, hz2⟩ := info_parts infoPrc
 have hu : Try.prog.underlying 37 = some (.slice 61) := by kernel_rfl
 have HN : Hid _ := hide (h.news_any prcLen (by decide))
 cases a with
 | none =>
  have e0 : l = [] := List.eq_nil_of_length_eq_zero (row_none h rfl)
  subst e0
  obtain rfl := hc rfl
  clear h
  have he : ∀ w : World, (binOp .eql 37 (V none 0 0) (V none 0 0)).run Try.prog w = .ok (.bool true) w := fun _ => rfl
  go_enter Try.func36, Try.ntmps36
  go_wp2
  go_ret
  exact ⟨Below.refl _ _, _, rfl, ⟨by simp, .inl ⟨rfl, rfl⟩⟩⟩
 | some ad =>
  clear h
  have he : ∀ w : World, (binOp .eql 37 (V (some ad) l.length cap) (V none 0 0)).run Try.prog w = .ok (.bool false) w := fun _ => rfl
  go_enter Try.func36, Try.ntmps36
  go_wp2_with (first | (at_builtin; refine Shut2.mk ?_) | go_in)
  refine Shut2.mk' ?_
  refine wpList_append_own_at _ rfl _ _ 37 rfl w.heap.size 61 i0 _ 2 16 hu hi0 hz0 hz1 hz2 rfl (by decide) _ 0 [] rfl ?own ad l.length cap (l.flatMap prcCells) rfl (flat_len prcCells 2 prcLen l) ?news (prc_one l) (by unfold maxLen; omega) (by omega) ?base ?_
  case own => exact World.ownsRow_made w #[] 0 (Nat.le_refl _) (by unfold maxLen; omega) rfl
  case news => exact fun j u hj => (World.grownBy_alloc w _ none).cell (HN.out ad rfl j u hj) (by simp)
  case base => simp
  intro v' w1 hown' hgrow hnil hloc
  have HB : Hid (Below w.heap.size w w1) := hide (below_grown hgrow (below_alloc (Below.refl _ _) _) (fun j hj => by cases hj; exact Nat.le_refl _))
  have HO : Hid _ := hide hown'
  clear hown' hgrow hnil hloc
  go_wp2
  go_ret
  have ho := HO.out
  rw [List.nil_append, Nat.zero_add] at ho
  exact ⟨HB.out, v', rfl, ho⟩
/-- the rows of a node whose list of what was answered may grow -/
def ndR (n : Nd) : List Rs := row 70 2 (V n.sa n.seen.length n.sc) n.seen.length (n.seen.flatMap snCells) :: orow 4 prCells n.pa n.pc n.peers :: endsL n.peers
/-- a copy of the call's own -/
def CopyR (D : NdD) (w : World) (e : Ending) (w' : World) : Prop := ∃ n : Nd, e = .returned (ndV n) ∧ n.d = D ∧ Pool [] w [ndR n] w'
theorem cloneC_pool (a : Option Addr) (l : List Prc) (cap : Nat) (w : World) (hl : l.length ≤ 1048576) (hc : a = none → cap = 0) (h : RowAt 2 prcCells w a l) :
  Calls Try.prog 36 #[V a l.length cap] w fun e w' => ∃ a5 c5, e = .returned (V a5 l.length c5) ∧ Below w.heap.size w w' ∧ Star [orow 2 prcCells a5 c5 l] w' ∧ ∀ b ∈ fps [orow 2 prcCells a5 c5 l], w.heap.size ≤ b := by
 refine (cloneC_own a l cap w hl hc h).mono ?_
 rintro e w1 ⟨hb, v, rfl, ho⟩
 obtain ⟨a5, c5, rfl, st, hm⟩ := Star.of_row prcLen ho
 exact ⟨a5, c5, rfl, hb, st, fun b hb => (ho.lt b (by have := hm b hb; rwa [Option.mem_toList] at this)).1⟩
/-- the first k ends are rows of the copy's own -/
def mixP (l L : List Pr) : List Pr := L ++ l.drop L.length
theorem mixP_len {l L : List Pr} (h : L.length ≤ l.length) : (mixP l L).length = l.length := by simp [mixP]; omega
theorem mixP_at {l L : List Pr} (h : L.length < l.length) (h' : L.length < (mixP l L).length) : (mixP l L)[L.length] = l[L.length] := by simp [mixP]
theorem mixP_set {l L : List Pr} (h : L.length < l.length) (p : Pr) : (mixP l L).set L.length p = mixP l (L ++ [p]) := by
 simp only [mixP]
 rw [List.set_append_right _ _ (Nat.le_refl _), Nat.sub_self]
 obtain ⟨a, t, e⟩ : ∃ a t, l.drop L.length = a :: t := by
  cases hd : l.drop L.length with
  | nil => have := congrArg List.length hd; simp at this; omega
  | cons a t => exact ⟨a, t, rfl⟩
 have e2 : l.drop (L.length + 1) = t := by rw [← List.drop_drop, e]; rfl
 rw [e]
 simp [e2]
theorem mixP_all {l L : List Pr} (h : L.length = l.length) : mixP l L = L := by simp [mixP, h]
/-- one cell of a row of peers written: where the end's row lies -/
theorem own_setRow {x : World} {g : Nat} {a : Option Addr} {cap k : Nat} {l : List Pr} (h : OwnRow 4 prCells x g a cap l) (hk : k < l.length) (p : Pr) (hp : p.id = l[k].id) (hE : p.E = l[k].E) :
  OwnRow 4 prCells (x.setCell ⟨g, k * 4 + 1, none⟩ (V p.a p.E.out.length p.cap)) g a cap (l.set k p) :=
 own_turn prLen h hk (r := 1) (u := V p.a p.E.out.length p.cap) p (by decide) (fun r v hv => by
  match r, hv with
  | 0, hv => simp [prCells] at hv; exact .inr ⟨by omega, by simp [prCells, ← hp, hv]⟩
  | 1, hv => simp [prCells] at hv; exact .inl ⟨rfl, hv.symm⟩
  | 2, hv => simp [prCells] at hv; exact .inr ⟨by omega, by simp [prCells, ← hE, hv]⟩
  | 3, hv => simp [prCells] at hv; exact .inr ⟨by omega, by simp [prCells, ← hE, hv]⟩)
theorem Pool.setRowP {F : List Nat} {w x : World} {S : List (List Rs)} (h : Pool F w S x) {i k g : Nat} {a : Option Addr} {cap : Nat} {l : List Pr} (hi : S[i]? = some [orow 4 prCells a cap l]) (hk : k < l.length) (p : Pr) (hp : p.id = l[k].id) (hE : p.E = l[k].E) (hg : gOf a = g) :
  Pool F w (S.set i [orow 4 prCells a cap (l.set k p)]) (x.setCell ⟨g, k * 4 + 1, none⟩ (V p.a p.E.out.length p.cap)) := by
 subst hg
 have o := own_setRow (h.orowAt hi) hk p hp hE
 obtain ⟨st, _⟩ := Star.ofOrow o
 have hm : gOf a ∈ fps [orow 4 prCells a cap l] := by rw [fps_one, orow_fp, if_neg (by omega)]; simp
 refine h.step hi ((Fr.refl _ _).set (.inl hm)) st (fun b hb => .inl ?_)
 rw [fps_one] at hb ⊢
 obtain ⟨_, rfl⟩ := orow_mem hb
 rw [fps_one] at hm
 exact hm
structure NcpF (n : Nd) (w : World) (sa2 : Option Addr) (sc2 pc2 G Q : Nat) (PL : List Pr) (hlt : PL.length < n.peers.length) (l0 l1 l2 l3 l4 l5 l6 l7 l8 l9 l10 : Bool) (u21 u22 u23 u24 u25 u26 u27 u28 u29 u30 : Value) (x : World) : Prop where
 pool : Pool [] w [[row 70 2 (V sa2 n.seen.length sc2) n.seen.length (n.seen.flatMap snCells)], cond l10 [orow 4 prCells (some ⟨G, 0, none⟩) pc2 ((mixP n.peers PL).set PL.length (⟨n.peers[PL.length].id, slA u27, slC u27, n.peers[PL.length].E⟩ : Pr))] [orow 4 prCells (some ⟨G, 0, none⟩) pc2 (mixP n.peers PL)], endsL PL, [blk w.heap.size [J Z n.id, J Z n.has, J Z n.spent, J Z n.earned, V sa2 n.seen.length sc2, V (some ⟨G, 0, none⟩) n.peers.length pc2]], [blk (w.heap.size + 1) [J Z 0, J Z 0, J Z 0, J Z 0, V none 0 0, V none 0 0]], [blk Q (prCells n.peers[PL.length])], cond l6 [orow 2 prcCells (slA u27) (slC u27) n.peers[PL.length].E.out] [], []] x
 q27 : l6 = true → u27 = V (slA u27) n.peers[PL.length].E.out.length (slC u27)
 d10_6 : l10 = true → l6 = true
 p21 : l0 = true → u21 = .pointer (some ⟨w.heap.size, 5, none⟩)
 p22 : l1 = true → u22 = V (some ⟨G, 0, none⟩) n.peers.length pc2
 p23 : l2 = true → u23 = J Z ↑PL.length
 p24 : l3 = true → u24 = .pointer (some ⟨Q, 1, none⟩)
 p25 : l4 = true → u25 = .pointer (some ⟨Q, 1, none⟩)
 p26 : l5 = true → u26 = V n.peers[PL.length].a n.peers[PL.length].E.out.length n.peers[PL.length].cap
 p28 : l7 = true → u28 = .pointer (some ⟨G, PL.length * 4, none⟩)
 p29 : l8 = true → u29 = .pointer (some ⟨G, PL.length * 4 + 1, none⟩)
 p30 : l9 = true → u30 = .pointer (some ⟨G, PL.length * 4 + 1, none⟩)
set_option maxHeartbeats 4000000 in
theorem nodeCopy_any (n : Nd) (w : World) (hs : SmN n) (hn0 : n.sa = none → n.sc = 0) (hq0 : n.pa = none → n.pc = 0) (hp0 : ∀ p ∈ n.peers, p.a = none → p.cap = 0) (h : NodeAt w n) :
  Calls Try.prog 14 #[.agg #[J Z n.id, J Z n.has, J Z n.spent, J Z n.earned, V n.sa n.seen.length n.sc, V n.pa n.peers.length n.pc]] w fun e w' => CopyR n.d w e w' := by
 have HL : Hid _ := hide h
 obtain ⟨hs1, hs2, hs3⟩ := hs
 clear h
 obtain ⟨W, hW⟩ : ∃ W, W = (w.alloc (.cells #[J Z n.id, J Z n.has, J Z n.spent, J Z n.earned, V n.sa n.seen.length n.sc, V n.pa n.peers.length n.pc] 27)).alloc (.cells #[J Z 0, J Z 0, J Z 0, J Z 0, V none 0 0, V none 0 0] 27) := ⟨_, rfl⟩
 have s1 : (w.alloc (.cells #[J Z n.id, J Z n.has, J Z n.spent, J Z n.earned, V n.sa n.seen.length n.sc, V n.pa n.peers.length n.pc] 27)).heap.size = w.heap.size + 1 := by simp
 have HP : Hid (Pool [] w [[], [], [], [blk w.heap.size [J Z n.id, J Z n.has, J Z n.spent, J Z n.earned, V n.sa n.seen.length n.sc, V n.pa n.peers.length n.pc]], [blk (w.heap.size + 1) [J Z 0, J Z 0, J Z 0, J Z 0, V none 0 0, V none 0 0]], [], [], []] W) := hide (by
  rw [hW, ← s1]
  exact ((Pool.start w [[], [], [], [], [], [], [], []] rfl).newBlk (i := 3) rfl [J Z n.id, J Z n.has, J Z n.spent, J Z n.earned, V n.sa n.seen.length n.sc, V n.pa n.peers.length n.pc] 27).newBlk (i := 4) rfl [J Z 0, J Z 0, J Z 0, J Z 0, V none 0 0, V none 0 0] 27)
 have HW : Hid ((w.alloc (.cells #[J Z n.id, J Z n.has, J Z n.spent, J Z n.earned, V n.sa n.seen.length n.sc, V n.pa n.peers.length n.pc] 27)).alloc (.cells #[J Z 0, J Z 0, J Z 0, J Z 0, V none 0 0, V none 0 0] 27) = W) := hide hW.symm
 clear hW s1
 have c4 : W.cell? ⟨w.heap.size, 4, none⟩ = some (V n.sa n.seen.length n.sc) := (HP.out.blkAt (i := 3) rfl).c 4 _ rfl
 go_enter Try.func14, Try.ntmps14
 go_wp2_with fail
 rw [HW.out]
 refine (cloneS_own n.sa n.seen n.sc W hs1 hn0 (HL.out.seen.below HP.out.below)).mono ?_
 rintro e w1 ⟨hb1, v1, rfl, ho1⟩
 obtain ⟨sa2, sc2, rfl⟩ := row_shape ho1
 have HP1 := HP.out.new (i := 0) (rs' := [row 70 2 (V sa2 n.seen.length sc2) n.seen.length (n.seen.flatMap snCells)]) rfl hb1 (Star.ofRow ho1) (fun c hc => by
  rw [fps_one, row_fp, Option.mem_toList] at hc
  exact (ho1.lt c hc).1)
 have HP2 : Hid (Pool [] w [[row 70 2 (V sa2 n.seen.length sc2) n.seen.length (n.seen.flatMap snCells)], [], [], [blk w.heap.size [J Z n.id, J Z n.has, J Z n.spent, J Z n.earned, V sa2 n.seen.length sc2, V n.pa n.peers.length n.pc]], [blk (w.heap.size + 1) [J Z 0, J Z 0, J Z 0, J Z 0, V none 0 0, V none 0 0]], [], [], []] (w1.setCell ⟨w.heap.size, 4, none⟩ (V sa2 n.seen.length sc2))) := hide (HP1.setBlk (i := 3) rfl 4 (V sa2 n.seen.length sc2) (by simp))
 have y4 := (HP1.blkAt (i := 3) rfl).c 4 _ rfl
 have z4 := (HP1.blkAt (i := 3) rfl).f 4
 have y5 : (w1.setCell ⟨w.heap.size, 4, none⟩ (V sa2 n.seen.length sc2)).cell? ⟨w.heap.size, 5, none⟩ = some (V n.pa n.peers.length n.pc) := (HP2.out.blkAt (i := 3) rfl).c 5 _ rfl
 clear HP1 hb1 ho1 c4 HP
 go_wp2_with fail
 refine (cloneP_own n.pa n.peers n.pc _ hs2 hq0 (HL.out.peers.row.below HP2.out.below)).mono ?_
 rintro e w2 ⟨hb2, v2, rfl, ho2⟩
 obtain ⟨pa2, pc2, e2, st2, hm2⟩ := Star.of_row prLen ho2
 subst e2
 have HP3 := HP2.out.new (i := 1) (rs' := [orow 4 prCells pa2 pc2 n.peers]) rfl hb2 st2 (fun c hc => by
  have := hm2 c hc
  rw [Option.mem_toList] at this
  exact (ho2.lt c this).1)
 have HP4 : Hid (Pool [] w [[row 70 2 (V sa2 n.seen.length sc2) n.seen.length (n.seen.flatMap snCells)], [orow 4 prCells pa2 pc2 n.peers], [], [blk w.heap.size [J Z n.id, J Z n.has, J Z n.spent, J Z n.earned, V sa2 n.seen.length sc2, V pa2 n.peers.length pc2]], [blk (w.heap.size + 1) [J Z 0, J Z 0, J Z 0, J Z 0, V none 0 0, V none 0 0]], [], [], []] (w2.setCell ⟨w.heap.size, 5, none⟩ (V pa2 n.peers.length pc2))) := hide (HP3.setBlk (i := 3) rfl 5 (V pa2 n.peers.length pc2) (by simp))
 have y5 := (HP3.blkAt (i := 3) rfl).c 5 _ rfl
 have z5 := (HP3.blkAt (i := 3) rfl).f 5
 have x5 : (w2.setCell ⟨w.heap.size, 5, none⟩ (V pa2 n.peers.length pc2)).cell? ⟨w.heap.size, 5, none⟩ = some (V pa2 n.peers.length pc2) := (HP4.out.blkAt (i := 3) rfl).c 5 _ rfl
 clear HP3 hb2 ho2 st2 hm2 HP2 y4 z4
 go_wp2
 go_loopw [16] (fun i wr => ∃ (PL : List Pr), PL.length ≤ n.peers.length ∧ i = J Z (PL.length : Int) ∧ PL.map Pr.d = (n.peers.take PL.length).map Pr.d ∧ Hid (Pool [] w [[row 70 2 (V sa2 n.seen.length sc2) n.seen.length (n.seen.flatMap snCells)], [orow 4 prCells pa2 pc2 (mixP n.peers PL)], endsL PL, [blk w.heap.size [J Z n.id, J Z n.has, J Z n.spent, J Z n.earned, V sa2 n.seen.length sc2, V pa2 n.peers.length pc2]], [blk (w.heap.size + 1) [J Z 0, J Z 0, J Z 0, J Z 0, V none 0 0, V none 0 0]], [], [], []] wr)) (fun i wr => n.peers.length - (intOf i).toNat)
 case atStart => exact ⟨[], Nat.zero_le _, rfl, by simp, hide (by rw [show mixP n.peers [] = n.peers from by simp [mixP]]; exact HP4.out)⟩
 case round =>
  clear HP4 y5 z5 x5
  obtain ⟨PL, hk, rfl, hD, HM⟩ := hrel
  have HD : Hid _ := hide hD
  clear hD
  by_cases hlt : PL.length < n.peers.length
  ·have hlt' : (PL.length : Int) < (n.peers.length : Int) := by omega
   have hml : PL.length < (mixP n.peers PL).length := by rw [mixP_len hk]; exact hlt
   obtain ⟨G, hG⟩ : ∃ G, G = gOf pa2 := ⟨_, rfl⟩
   have hpa : pa2 = some ⟨G, 0, none⟩ := by rw [hG]; exact own_off (HM.out.orowAt (i := 1) rfl) hml
   clear hG
   subst hpa
   obtain ⟨p0, p1, p2, p3⟩ := peer_at (g := G) (HM.out.orowAt (i := 1) rfl) hml
   rw [mixP_at hlt hml] at p0 p1 p2 p3
   have hbx := HM.out.newBlk (i := 5) rfl (prCells n.peers[PL.length]) 41
   go_wp2_with fail
   refine name_world (fun W6 hW6 => ?_)
   obtain ⟨Q, hQ⟩ : ∃ Q, Q = wr.heap.size := ⟨_, rfl⟩
   have HM2 : Hid (Pool [] w [[row 70 2 (V sa2 n.seen.length sc2) n.seen.length (n.seen.flatMap snCells)], [orow 4 prCells (some ⟨G, 0, none⟩) pc2 (mixP n.peers PL)], endsL PL, [blk w.heap.size [J Z n.id, J Z n.has, J Z n.spent, J Z n.earned, V sa2 n.seen.length sc2, V (some ⟨G, 0, none⟩) n.peers.length pc2]], [blk (w.heap.size + 1) [J Z 0, J Z 0, J Z 0, J Z 0, V none 0 0, V none 0 0]], [blk Q (prCells n.peers[PL.length])], [], []] W6) := hide (by rw [hW6, hQ]; exact hbx)
   rw [← hQ]
   clear hbx hW6 hQ p0 p1 p2 p3
   rename_i K6 hK6
   refine wp_region_inv (by kernel_rfl) (fun L act x => ∃ l0 l1 l2 l3 l4 l5 l6 l7 l8 l9 l10 : Bool, ∃ u21 u22 u23 u24 u25 u26 u27 u28 u29 u30 : Value, L = #[l0, l1, l2, l3, l4, l5, l6, l7, l8, l9, l10] ∧ act = { tmps := #[Value.agg #[J Z n.id, J Z n.has, J Z n.spent, J Z n.earned, V n.sa n.seen.length n.sc, V n.pa n.peers.length n.pc], Value.pointer (some { block := w.heap.size, off := 0 }), Value.pointer (some { block := w.heap.size + 1, off := 0 }), J Z ↑PL.length, Value.pointer (some { block := Q, off := 0 }), Value.pointer (some { block := w.heap.size, off := 4 }), V n.sa n.seen.length n.sc, V sa2 n.seen.length sc2, Value.pointer (some { block := w.heap.size, off := 4 }), Value.pointer (some { block := w.heap.size, off := 5 }), V n.pa n.peers.length n.pc, V (some { block := G, off := 0 }) n.peers.length pc2, Value.pointer (some { block := w.heap.size, off := 5 }), Value.pointer (some { block := w.heap.size, off := 5 }), V (some { block := G, off := 0 }) n.peers.length pc2, J Z ↑n.peers.length, J Z ↑PL.length, Value.bool true, J Z ↑PL.length, Value.pointer (some { block := G, off := PL.length * 4 }), Value.agg #[J Z n.peers[PL.length].id, V n.peers[PL.length].a n.peers[PL.length].E.out.length n.peers[PL.length].cap, J Z n.peers[PL.length].E.sent, J Z n.peers[PL.length].E.got], u21, u22, u23, u24, u25, u26, u27, u28, u29, u30, u31, U], defers := [] } ∧ NcpF n w sa2 sc2 pc2 G Q PL hlt l0 l1 l2 l3 l4 l5 l6 l7 l8 l9 l10 u21 u22 u23 u24 u25 u26 u27 u28 u29 u30 x) ?_ ?_ ?_
   rotate_left 2
   ·exact ⟨false, false, false, false, false, false, false, false, false, false, false, (u21), (u22), (u23), (u24), (u25), (u26), (u27), (u28), (u29), (u30), rfl, rfl, ⟨HM2.out.drew, nofun, nofun, nofun, nofun, nofun, nofun, nofun, nofun, nofun, nofun, nofun⟩⟩
   ·rintro L act x i ⟨l0, l1, l2, l3, l4, l5, l6, l7, l8, l9, l10, u21, u22, u23, u24, u25, u26, u27, u28, u29, u30, rfl, rfl, h⟩ hi K hK
    have hi15 : i < 11 := by
     obtain ⟨_, o, ho, _⟩ := mem_ready.1 hi
     exact (Array.getElem?_eq_some_iff.1 ho).1
    have hl := (mem_ready.1 hi).1
    obtain rfl | rfl | rfl | rfl | rfl | rfl | rfl | rfl | rfl | rfl | rfl := (by omega : i = 0 ∨ i = 1 ∨ i = 2 ∨ i = 3 ∨ i = 4 ∨ i = 5 ∨ i = 6 ∨ i = 7 ∨ i = 8 ∨ i = 9 ∨ i = 10)
    ·have e : l0 = false := hl
     subst e
     refine wpOp_run (v := .pointer (some ⟨w.heap.size, 5, none⟩)) (w' := x) (by rfl) (by rfl) ?_ (hK _ _ ⟨true, l1, l2, l3, l4, l5, l6, l7, l8, l9, l10, (.pointer (some ⟨w.heap.size, 5, none⟩)), u22, u23, u24, u25, u26, u27, u28, u29, u30, rfl, rfl, { h with p21 := fun _ => rfl }⟩)
     go_simp
    ·have e : l1 = false := hl
     subst e
     have d0 : l0 = true := ready_on hi 0 (by kernel_rfl)
     subst d0
     have c5_ : x.cell? ⟨w.heap.size, 5, none⟩ = some (V (some ⟨G, 0, none⟩) n.peers.length pc2) := (h.pool.blkAt (i := 3) rfl).c 5 _ rfl
     refine wpOp_run (v := V (some ⟨G, 0, none⟩) n.peers.length pc2) (w' := x) (by rfl) (by rfl) ?_ (hK _ _ ⟨true, true, l2, l3, l4, l5, l6, l7, l8, l9, l10, u21, (V (some ⟨G, 0, none⟩) n.peers.length pc2), u23, u24, u25, u26, u27, u28, u29, u30, rfl, rfl, { h with p22 := fun _ => rfl }⟩)
     rw [h.p21 rfl]
     go_simp
    ·have e : l2 = false := hl
     subst e
     refine wpOp_run (v := J Z ↑PL.length) (w' := x) (by rfl) (by rfl) ?_ (hK _ _ ⟨l0, l1, true, l3, l4, l5, l6, l7, l8, l9, l10, u21, u22, (J Z ↑PL.length), u24, u25, u26, u27, u28, u29, u30, rfl, rfl, { h with p23 := fun _ => rfl }⟩)
     go_simp
    ·have e : l3 = false := hl
     subst e
     refine wpOp_run (v := .pointer (some ⟨Q, 1, none⟩)) (w' := x) (by rfl) (by rfl) ?_ (hK _ _ ⟨l0, l1, l2, true, l4, l5, l6, l7, l8, l9, l10, u21, u22, u23, (.pointer (some ⟨Q, 1, none⟩)), u25, u26, u27, u28, u29, u30, rfl, rfl, { h with p24 := fun _ => rfl }⟩)
     go_simp
    ·have e : l4 = false := hl
     subst e
     have d3 : l3 = true := ready_on hi 3 (by kernel_rfl)
     subst d3
     refine wpOp_run (v := .pointer (some ⟨Q, 1, none⟩)) (w' := x) (by rfl) (by rfl) ?_ (hK _ _ ⟨l0, l1, l2, true, true, l5, l6, l7, l8, l9, l10, u21, u22, u23, u24, (.pointer (some ⟨Q, 1, none⟩)), u26, u27, u28, u29, u30, rfl, rfl, { h with p25 := fun _ => rfl }⟩)
     rw [h.p24 rfl]
     go_simp
    ·have e : l5 = false := hl
     subst e
     have d4 : l4 = true := ready_on hi 4 (by kernel_rfl)
     subst d4
     have c1_ : x.cell? ⟨Q, 1, none⟩ = some (V n.peers[PL.length].a n.peers[PL.length].E.out.length n.peers[PL.length].cap) := (h.pool.blkAt (i := 5) rfl).c 1 _ rfl
     refine wpOp_run (v := V n.peers[PL.length].a n.peers[PL.length].E.out.length n.peers[PL.length].cap) (w' := x) (by rfl) (by rfl) ?_ (hK _ _ ⟨l0, l1, l2, l3, true, true, l6, l7, l8, l9, l10, u21, u22, u23, u24, u25, (V n.peers[PL.length].a n.peers[PL.length].E.out.length n.peers[PL.length].cap), u27, u28, u29, u30, rfl, rfl, { h with p26 := fun _ => rfl }⟩)
     rw [h.p25 rfl]
     go_simp
    ·have e : l6 = false := hl
     subst e
     have d5 : l5 = true := ready_on hi 5 (by kernel_rfl)
     subst d5
     have z10 : l10 = false := by
      cases hz : l10
      ·rfl
      ·exact absurd (h.d10_6 hz) (by simp)
     subst z10
     refine wpOp_call (by rfl) (by rfl) ?_ (cloneC_pool n.peers[PL.length].a n.peers[PL.length].E.out n.peers[PL.length].cap x (hs3 _ (List.getElem_mem hlt)) (hp0 _ (List.getElem_mem hlt)) ((HL.out.peers.ends _ (List.getElem_mem hlt)).below h.pool.below)) ?_
     ·rw [h.p26 rfl]; go_simp
     ·rintro e w' ⟨a5, c5, rfl, hb5, st5, hi5⟩
      exact ⟨_, rfl, hK _ _ ⟨l0, l1, l2, l3, l4, true, true, l7, l8, l9, false, u21, u22, u23, u24, u25, u26, (V a5 n.peers[PL.length].E.out.length c5), u28, u29, u30, rfl, rfl, { h with q27 := (fun _ => rfl), pool := (h.pool.new (i := 6) rfl hb5 st5 hi5), d10_6 := fun _ => rfl }⟩⟩
    ·have e : l7 = false := hl
     subst e
     have d0 : l0 = true := ready_on hi 0 (by kernel_rfl)
     subst d0
     have d1 : l1 = true := ready_on hi 1 (by kernel_rfl)
     subst d1
     have d2 : l2 = true := ready_on hi 2 (by kernel_rfl)
     subst d2
     have d3 : l3 = true := ready_on hi 3 (by kernel_rfl)
     subst d3
     have d4 : l4 = true := ready_on hi 4 (by kernel_rfl)
     subst d4
     have d5 : l5 = true := ready_on hi 5 (by kernel_rfl)
     subst d5
     have d6 : l6 = true := ready_on hi 6 (by kernel_rfl)
     subst d6
     refine wpOp_run (v := .pointer (some ⟨G, PL.length * 4, none⟩)) (w' := x) (by rfl) (by rfl) ?_ (hK _ _ ⟨true, true, true, true, true, true, true, true, l8, l9, l10, u21, u22, u23, u24, u25, u26, u27, (.pointer (some ⟨G, PL.length * 4, none⟩)), u29, u30, rfl, rfl, { h with p28 := fun _ => rfl }⟩)
     rw [h.p22 rfl, h.p23 rfl]
     go_simp
    ·have e : l8 = false := hl
     subst e
     have d0 : l0 = true := ready_on hi 0 (by kernel_rfl)
     subst d0
     have d1 : l1 = true := ready_on hi 1 (by kernel_rfl)
     subst d1
     have d2 : l2 = true := ready_on hi 2 (by kernel_rfl)
     subst d2
     have d3 : l3 = true := ready_on hi 3 (by kernel_rfl)
     subst d3
     have d4 : l4 = true := ready_on hi 4 (by kernel_rfl)
     subst d4
     have d5 : l5 = true := ready_on hi 5 (by kernel_rfl)
     subst d5
     have d6 : l6 = true := ready_on hi 6 (by kernel_rfl)
     subst d6
     have d7 : l7 = true := ready_on hi 7 (by kernel_rfl)
     subst d7
     refine wpOp_run (v := .pointer (some ⟨G, PL.length * 4 + 1, none⟩)) (w' := x) (by rfl) (by rfl) ?_ (hK _ _ ⟨true, true, true, true, true, true, true, true, true, l9, l10, u21, u22, u23, u24, u25, u26, u27, u28, (.pointer (some ⟨G, PL.length * 4 + 1, none⟩)), u30, rfl, rfl, { h with p29 := fun _ => rfl }⟩)
     rw [h.p28 rfl]
     go_simp
    ·have e : l9 = false := hl
     subst e
     have d0 : l0 = true := ready_on hi 0 (by kernel_rfl)
     subst d0
     have d1 : l1 = true := ready_on hi 1 (by kernel_rfl)
     subst d1
     have d2 : l2 = true := ready_on hi 2 (by kernel_rfl)
     subst d2
     have d3 : l3 = true := ready_on hi 3 (by kernel_rfl)
     subst d3
     have d4 : l4 = true := ready_on hi 4 (by kernel_rfl)
     subst d4
     have d5 : l5 = true := ready_on hi 5 (by kernel_rfl)
     subst d5
     have d6 : l6 = true := ready_on hi 6 (by kernel_rfl)
     subst d6
     have d8 : l8 = true := ready_on hi 8 (by kernel_rfl)
     subst d8
     refine wpOp_run (v := .pointer (some ⟨G, PL.length * 4 + 1, none⟩)) (w' := x) (by rfl) (by rfl) ?_ (hK _ _ ⟨true, true, true, true, true, true, true, l7, true, true, l10, u21, u22, u23, u24, u25, u26, u27, u28, u29, (.pointer (some ⟨G, PL.length * 4 + 1, none⟩)), rfl, rfl, { h with p30 := fun _ => rfl }⟩)
     rw [h.p29 rfl]
     go_simp
    ·have e : l10 = false := hl
     subst e
     have d0 : l0 = true := ready_on hi 0 (by kernel_rfl)
     subst d0
     have d1 : l1 = true := ready_on hi 1 (by kernel_rfl)
     subst d1
     have d2 : l2 = true := ready_on hi 2 (by kernel_rfl)
     subst d2
     have d3 : l3 = true := ready_on hi 3 (by kernel_rfl)
     subst d3
     have d4 : l4 = true := ready_on hi 4 (by kernel_rfl)
     subst d4
     have d5 : l5 = true := ready_on hi 5 (by kernel_rfl)
     subst d5
     have d6 : l6 = true := ready_on hi 6 (by kernel_rfl)
     subst d6
     have d9 : l9 = true := ready_on hi 9 (by kernel_rfl)
     subst d9
     refine wpOp_skip (w' := x.setCell ⟨G, PL.length * 4 + 1, none⟩ (V (slA u27) n.peers[PL.length].E.out.length (slC u27))) (by rfl) (by rfl) ?_ (hK _ _ ⟨true, true, true, true, true, true, true, l7, l8, true, true, u21, u22, u23, u24, u25, u26, u27, u28, u29, u30, rfl, rfl, { h with pool := (h.pool.setRowP (i := 1) rfl hml (⟨n.peers[PL.length].id, slA u27, slC u27, n.peers[PL.length].E⟩ : Pr) (by rw [mixP_at hlt hml]) (by rw [mixP_at hlt hml]) rfl), d10_6 := fun _ => rfl }⟩)
     obtain ⟨p0, p1, p2, p3⟩ := peer_at (g := G) (h.pool.orowAt (i := 1) rfl) hml
     have fz : x.frozen? ⟨G, PL.length * 4 + 1, none⟩ = false := ((h.pool.orowAt (i := 1) rfl).own (by omega)).2 _
     have p1 : x.cell? ⟨G, PL.length * 4 + 1, none⟩ = _ := p1
     rw [h.p30 rfl]
     obtain ⟨a5, c5, e27⟩ : ∃ a c, a = slA u27 ∧ c = slC u27 := ⟨_, _, rfl, rfl⟩
     rw [← e27.1, ← e27.2]
     have e28 := h.q27 rfl
     rw [← e27.1, ← e27.2] at e28
     clear h p0 p2 p3 e27
     rw [e28]
     go_simp
   ·rintro L act x ⟨l0, l1, l2, l3, l4, l5, l6, l7, l8, l9, l10, u21, u22, u23, u24, u25, u26, u27, u28, u29, u30, rfl, rfl, h⟩ hr
    have hall := ready_all hr rfl (by decide)
    have t0 : l0 = true := hall 0 (by decide)
    have t1 : l1 = true := hall 1 (by decide)
    have t2 : l2 = true := hall 2 (by decide)
    have t3 : l3 = true := hall 3 (by decide)
    have t4 : l4 = true := hall 4 (by decide)
    have t5 : l5 = true := hall 5 (by decide)
    have t6 : l6 = true := hall 6 (by decide)
    have t7 : l7 = true := hall 7 (by decide)
    have t8 : l8 = true := hall 8 (by decide)
    have t9 : l9 = true := hall 9 (by decide)
    have t10 : l10 = true := hall 10 (by decide)
    subst t0 t1 t2 t3 t4 t5 t6 t7 t8 t9 t10
    clear hall hr
    have e27 := h.q27 rfl
    obtain ⟨a5, c5, ha5⟩ : ∃ a c, a = slA u27 ∧ c = slC u27 := ⟨_, _, rfl, rfl⟩
    have hp := (h.pool.merge (i := 2) (j := 6) (by decide) rfl rfl).drop (i := 5) rfl
    have HM3 : Hid (Pool [] w [[row 70 2 (V sa2 n.seen.length sc2) n.seen.length (n.seen.flatMap snCells)], [orow 4 prCells (some ⟨G, 0, none⟩) pc2 (mixP n.peers (PL ++ [⟨n.peers[PL.length].id, a5, c5, n.peers[PL.length].E⟩]))], endsL (PL ++ [⟨n.peers[PL.length].id, a5, c5, n.peers[PL.length].E⟩]), [blk w.heap.size [J Z n.id, J Z n.has, J Z n.spent, J Z n.earned, V sa2 n.seen.length sc2, V (some ⟨G, 0, none⟩) n.peers.length pc2]], [blk (w.heap.size + 1) [J Z 0, J Z 0, J Z 0, J Z 0, V none 0 0, V none 0 0]], [], [], []] x) := hide (by
     rw [endsL_app, ← mixP_set hlt, ha5.1, ha5.2]
     exact hp)
    clear h hp e27 ha5
    refine hK6 _ _ ?_
    clear hK6 HM2 HM
    go_wp2
    exact ⟨⟨PL ++ [⟨n.peers[PL.length].id, a5, c5, n.peers[PL.length].E⟩], by simp; omega, (by simp), by rw [List.length_append, List.length_singleton, List.take_succ_eq_append_getElem hlt, List.map_append, List.map_append, HD.out]; rfl, HM3⟩, by simp [intOf]; omega⟩
  ·have hlt' : ¬ (PL.length : Int) < (n.peers.length : Int) := by omega
   have hle : PL.length = n.peers.length := by omega
   have HM2 : Hid (Pool [] w [[row 70 2 (V sa2 n.seen.length sc2) n.seen.length (n.seen.flatMap snCells)], [orow 4 prCells pa2 pc2 PL], endsL PL, [blk w.heap.size [J Z n.id, J Z n.has, J Z n.spent, J Z n.earned, V sa2 n.seen.length sc2, V pa2 n.peers.length pc2]], [blk (w.heap.size + 1) [J Z 0, J Z 0, J Z 0, J Z 0, V none 0 0, V none 0 0]], [], [], []] wr) := hide (by
    have := HM.out
    rw [mixP_all hle] at this
    exact this)
   have HDD : Hid (Nd.d ⟨n.id, n.has, n.spent, n.earned, sa2, sc2, n.seen, pa2, pc2, PL⟩ = n.d) := hide (by
    have := HD.out
    rw [hle, List.take_length] at this
    simp only [Nd.d, this])
   have HQ : Hid _ := hide (HM2.out.set6 (i := 4) rfl (J Z n.id) (J Z n.has) (J Z n.spent) (J Z n.earned) (V sa2 n.seen.length sc2) (V pa2 n.peers.length pc2))
   have b0 : wr.cell? ⟨w.heap.size, 0, none⟩ = some (J Z n.id) := (HM2.out.blkAt (i := 3) rfl).c 0 _ rfl
   have r0 := (HM2.out.blkAt (i := 4) rfl).c 0 _ rfl
   have z0 := (HM2.out.blkAt (i := 4) rfl).f 0
   have b1 : wr.cell? ⟨w.heap.size, 1, none⟩ = some (J Z n.has) := (HM2.out.blkAt (i := 3) rfl).c 1 _ rfl
   have r1 := (HM2.out.blkAt (i := 4) rfl).c 1 _ rfl
   have z1 := (HM2.out.blkAt (i := 4) rfl).f 1
   have b2 : wr.cell? ⟨w.heap.size, 2, none⟩ = some (J Z n.spent) := (HM2.out.blkAt (i := 3) rfl).c 2 _ rfl
   have r2 := (HM2.out.blkAt (i := 4) rfl).c 2 _ rfl
   have z2 := (HM2.out.blkAt (i := 4) rfl).f 2
   have b3 : wr.cell? ⟨w.heap.size, 3, none⟩ = some (J Z n.earned) := (HM2.out.blkAt (i := 3) rfl).c 3 _ rfl
   have r3 := (HM2.out.blkAt (i := 4) rfl).c 3 _ rfl
   have z3 := (HM2.out.blkAt (i := 4) rfl).f 3
   have b4 : wr.cell? ⟨w.heap.size, 4, none⟩ = some (V sa2 n.seen.length sc2) := (HM2.out.blkAt (i := 3) rfl).c 4 _ rfl
   have r4 := (HM2.out.blkAt (i := 4) rfl).c 4 _ rfl
   have z4 := (HM2.out.blkAt (i := 4) rfl).f 4
   have b5 : wr.cell? ⟨w.heap.size, 5, none⟩ = some (V pa2 n.peers.length pc2) := (HM2.out.blkAt (i := 3) rfl).c 5 _ rfl
   have r5 := (HM2.out.blkAt (i := 4) rfl).c 5 _ rfl
   have z5 := (HM2.out.blkAt (i := 4) rfl).f 5
   have e5 : (V pa2 n.peers.length pc2 : Value) = V pa2 PL.length pc2 := by rw [hle]
   have HE5 : Hid _ := hide e5
   clear e5 hle
   go_wp2
   refine name_post (fun W9 hW9 => ?_)
   have hq := HQ.out
   rw [← hW9] at hq
   have z_ := hq.blkAt (i := 4) rfl
   have g0_ := z_.c 0 _ rfl
   have g1_ := z_.c 1 _ rfl
   have g2_ := z_.c 2 _ rfl
   have g3_ := z_.c 3 _ rfl
   have g4_ := z_.c 4 _ rfl
   have g5_ := z_.c 5 _ rfl
   exact bodyPost_ret (v := ndV ⟨n.id, n.has, n.spent, n.earned, sa2, sc2, n.seen, pa2, pc2, PL⟩) (by simp [results, Try.results14, go_sem, g0_, g1_, g2_, g3_, g4_, g5_, ndV, HE5.out]) rfl ⟨_, rfl, HDD.out, ((hq.drop (i := 4) rfl).drop (i := 3) rfl).cast (by simp [ndR])⟩
end Go.Proofs.Ytkcpoibhlnjldaa
