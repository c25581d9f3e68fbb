/- The contracts of the laws' helpers over nodes: comparisons. -/
import Derived.Test.YtaohhdlkgnjphaaGreatBa
namespace Go.Proofs.YtaohhdlkgnjphaaGreat
open Go.Value renaming int → J, slice → V
open Go.IntKind renaming i64 → Z
open Go.ChangeShapes Go.WideShapes Go.ChangeAt Go.RowKit
set_option linter.unusedVariables false

set_option maxHeartbeats 1000000 in
theorem eqAnswered_any (x0 x1 : Int) (w : World) :
  Calls Tryz.prog 68 #[.agg #[J Z x0, J Z x1], .agg #[J Z x0, J Z x1]] w fun e w' => YesEnd w e w' := by
 have h0 : (x0 != x0) = false := by simp
 have h1 : (x1 != x1) = false := by simp
 go_enter Tryz.func68, Tryz.ntmps68
 go_wp2
 go_ret
 exact ⟨rfl, below_alloc (below_alloc (Below.refl _ _) _) _⟩
set_option maxHeartbeats 4000000 in
theorem eqAnsweredS_any (a c : Option Addr) (l : List Sn) (ca cc : Nat) (w : World) (hn : l.length ≤ 1048576) (h : RowAt 2 snCells w a l) (h' : RowAt 2 snCells w c l) :
  Calls Tryz.prog 32 #[V a l.length ca, V c l.length cc] w fun e w' => YesEnd w e w' := by
 have HL : Hid _ := hide h
 have HL' : Hid _ := hide h'
 clear h h'
 have hln : ((l.length : Int) != (l.length : Int)) = false := by simp
 go_enter Tryz.func32, Tryz.ntmps32
 go_wp2
 go_loopw [5] (fun i wr => ∃ k : Nat, k ≤ l.length ∧ i = J Z (k : Int) ∧ Below w.heap.size w wr) (fun i wr => l.length - (intOf i).toNat)
 case atStart => exact ⟨0, Nat.zero_le _, rfl, Below.refl _ _⟩
 case round =>
  obtain ⟨k, hk, rfl, HB⟩ := hrel
  by_cases hlt : k < l.length
  ·obtain ⟨b, off, rfl, hb, d0, d1⟩ := sn_row (HL.out.below HB) k hlt
   obtain ⟨b2, off2, rfl, hc, e0, e1⟩ := sn_row (HL'.out.below HB) k hlt
   have hlt' : (k : Int) < (l.length : Int) := by omega
   have d0' := later_cell d0
   have d1' := later_cell d1
   have e0' := later_cell e0
   have e1' := later_cell e1
   clear d0 d1 e0 e1
   have hne : Nonempty (Later wr) := later_there _
   go_wp2_with fail
   refine wp_region_later wr (by kernel_rfl) (by kernel_rfl) ((Below.refl _ _).drew) ?_
   repeat (go_big_quiet_step (first | (go_at_call 68; exact later_of (eqAnswered_any _ _ _))))
   refine wpQuiet_nil ?_
   intro _ hw'
   obtain ⟨nx, rfl⟩ := hw'
   go_wp2
   exact ⟨⟨k + 1, by omega, by go_num, below_trans HB nx.below⟩, by simp [intOf]; omega⟩
  ·have hk' : ¬ (k : Int) < (l.length : Int) := by omega
   go_wp2
   go_ret
   exact ⟨rfl, HB⟩

set_option maxHeartbeats 1000000 in
theorem eqMsg_any (x0 x1 x2 x3 x4 : Int) (w : World) :
  Calls Tryz.prog 34 #[.agg #[J Z x0, J Z x1, J Z x2, J Z x3, J Z x4], .agg #[J Z x0, J Z x1, J Z x2, J Z x3, J Z x4]] w fun e w' => YesEnd w e w' := by
 have h0 : (x0 != x0) = false := by simp
 have h1 : (x1 != x1) = false := by simp
 have h2 : (x2 != x2) = false := by simp
 have h3 : (x3 != x3) = false := by simp
 have h4 : (x4 != x4) = false := by simp
 go_enter Tryz.func34, Tryz.ntmps34
 go_wp2
 go_ret
 exact ⟨rfl, below_alloc (below_alloc (Below.refl _ _) _) _⟩
set_option maxHeartbeats 4000000 in
theorem eqMsgS_any (a c : Option Addr) (l : List Mg) (ca cc : Nat) (w : World) (hn : l.length ≤ 1048576) (h : RowAt 5 mgCells w a l) (h' : RowAt 5 mgCells w c l) :
  Calls Tryz.prog 10 #[V a l.length ca, V c l.length cc] w fun e w' => YesEnd w e w' := by
 have HL : Hid _ := hide h
 have HL' : Hid _ := hide h'
 clear h h'
 have hln : ((l.length : Int) != (l.length : Int)) = false := by simp
 go_enter Tryz.func10, Tryz.ntmps10
 go_wp2
 go_loopw [5] (fun i wr => ∃ k : Nat, k ≤ l.length ∧ i = J Z (k : Int) ∧ Below w.heap.size w wr) (fun i wr => l.length - (intOf i).toNat)
 case atStart => exact ⟨0, Nat.zero_le _, rfl, Below.refl _ _⟩
 case round =>
  obtain ⟨k, hk, rfl, HB⟩ := hrel
  by_cases hlt : k < l.length
  ·obtain ⟨b, off, rfl, hb, d0, d1, d2, d3, d4⟩ := mg_row (HL.out.below HB) k hlt
   obtain ⟨b2, off2, rfl, hc, e0, e1, e2, e3, e4⟩ := mg_row (HL'.out.below HB) k hlt
   have hlt' : (k : Int) < (l.length : Int) := by omega
   have d0' := later_cell d0
   have d1' := later_cell d1
   have d2' := later_cell d2
   have d3' := later_cell d3
   have d4' := later_cell d4
   have e0' := later_cell e0
   have e1' := later_cell e1
   have e2' := later_cell e2
   have e3' := later_cell e3
   have e4' := later_cell e4
   clear d0 d1 d2 d3 d4 e0 e1 e2 e3 e4
   have hne : Nonempty (Later wr) := later_there _
   go_wp2_with fail
   refine wp_region_later wr (by kernel_rfl) (by kernel_rfl) ((Below.refl _ _).drew) ?_
   repeat (go_big_quiet_step (first | (go_at_call 34; exact later_of (eqMsg_any _ _ _ _ _ _))))
   refine wpQuiet_nil ?_
   intro _ hw'
   obtain ⟨nx, rfl⟩ := hw'
   go_wp2
   exact ⟨⟨k + 1, by omega, by go_num, below_trans HB nx.below⟩, by simp [intOf]; omega⟩
  ·have hk' : ¬ (k : Int) < (l.length : Int) := by omega
   go_wp2
   go_ret
   exact ⟨rfl, HB⟩

set_option maxHeartbeats 2000000 in
theorem eqPeer_any (id : Int) (a c : Option Addr) (ca cc : Nat) (E : En) (w : World) (hn : E.out.length ≤ 1048576) (h : RowAt 2 prcCells w a E.out) (h' : RowAt 2 prcCells w c E.out) :
  Calls Tryz.prog 69 #[.agg #[J Z id, V a E.out.length ca, J Z E.sent, J Z E.got], .agg #[J Z id, V c E.out.length cc, J Z E.sent, J Z E.got]] w fun e w' => YesEnd w e w' := by
 have HL : Hid _ := hide h
 have HL' : Hid _ := hide h'
 clear h h'
 have h1 : (id != id) = false := by simp
 go_enter Tryz.func69, Tryz.ntmps69
 go_wp2_with fail
 refine (eqEnd_any _ _ E.out _ _ _ _ _ hn (HL.out.below (below_alloc (below_alloc (Below.refl _ _) _) _)) (HL'.out.below (below_alloc (below_alloc (Below.refl _ _) _) _))).mono ?_
 rintro e w1 ⟨rfl, hb1⟩
 have HB : Hid (Below w.heap.size w w1) := hide (below_trans (below_alloc (below_alloc (Below.refl _ _) _) _) hb1)
 clear hb1
 go_wp2
 go_ret
 exact ⟨rfl, HB.out⟩
theorem same_at {l l' : List Pr} (h : l'.map Pr.d = l.map Pr.d) {k : Nat} (hk : k < l.length) : ∃ hk' : k < l'.length, (l'[k]).id = (l[k]).id ∧ (l'[k]).E = (l[k]).E := by
 have hl : l'.length = l.length := by have := congrArg List.length h; simpa using this
 have hk' : k < l'.length := by omega
 have e := congrArg (fun m => m[k]?) h
 simp only [List.getElem?_map, List.getElem?_eq_getElem hk, List.getElem?_eq_getElem hk', Option.map_some, Option.some.injEq] at e
 exact ⟨hk', congrArg PD.id e, congrArg PD.E e⟩
set_option maxHeartbeats 4000000 in
theorem eqPeerS_any (a c : Option Addr) (l l' : List Pr) (ca cc : Nat) (w : World) (hn : l.length ≤ 1048576) (hsm : SmP l) (hd : l'.map Pr.d = l.map Pr.d) (h : PeersAt w a l) (h' : PeersAt w c l') :
  Calls Tryz.prog 33 #[V a l.length ca, V c l.length cc] w fun e w' => YesEnd w e w' := by
 have HL : Hid _ := hide h
 have HL' : Hid _ := hide h'
 have HD : Hid _ := hide hd
 clear h h' hd
 have hln : ((l.length : Int) != (l.length : Int)) = false := by simp
 go_enter Tryz.func33, Tryz.ntmps33
 go_wp2
 go_loopw [5] (fun i wr => ∃ k : Nat, k ≤ l.length ∧ i = J Z (k : Int) ∧ Below w.heap.size w wr) (fun i wr => l.length - (intOf i).toNat)
 case atStart => exact ⟨0, Nat.zero_le _, rfl, Below.refl _ _⟩
 case round =>
  obtain ⟨k, hk, rfl, HB⟩ := hrel
  by_cases hlt : k < l.length
  ·obtain ⟨hk2, hid, hE⟩ := same_at HD.out hlt
   obtain ⟨b, off, rfl, hb, d0, d1, d2, d3⟩ := pr_row (HL.out.row.below HB) k hlt
   obtain ⟨b2, off2, rfl, hc, e0, e1, e2, e3⟩ := pr_row (HL'.out.row.below HB) k hk2
   have HR : Hid _ := hide ((HL.out.ends (l[k]) (List.getElem_mem hlt)).below HB)
   have HR' : Hid _ := hide ((HL'.out.ends (l'[k]) (List.getElem_mem hk2)).below HB)
   rw [hid] at e0
   rw [hE] at e1 e2 e3 HR'
   have HSm : Hid _ := hide (hsm _ (List.getElem_mem hlt))
   have hlt' : (k : Int) < (l.length : Int) := by omega
   have d0' := later_cell d0
   have d1' := later_cell d1
   have d2' := later_cell d2
   have d3' := later_cell d3
   have e0' := later_cell e0
   have e1' := later_cell e1
   have e2' := later_cell e2
   have e3' := later_cell e3
   clear d0 d1 d2 d3 e0 e1 e2 e3 hid hE
   have hne : Nonempty (Later wr) := later_there _
   go_wp2_with fail
   refine wp_region_later wr (by kernel_rfl) (by kernel_rfl) ((Below.refl _ _).drew) ?_
   repeat (go_big_quiet_step (first | (go_at_call 69; exact later_of (eqPeer_any _ _ _ _ _ _ _ HSm.out (HR.out.below (Later.below _)) (HR'.out.below (Later.below _))))))
   refine wpQuiet_nil ?_
   intro _ hw'
   obtain ⟨nx, rfl⟩ := hw'
   go_wp2
   exact ⟨⟨k + 1, by omega, by go_num, below_trans HB nx.below⟩, by simp [intOf]; omega⟩
  ·have hk' : ¬ (k : Int) < (l.length : Int) := by omega
   go_wp2
   go_ret
   exact ⟨rfl, HB⟩

set_option maxRecDepth 100000 in
set_option maxHeartbeats 4000000 in
theorem eqNode_any (id has spent earned : Int) (seen : List Sn) (l l' : List Pr) (sa sa' pa pa' : Option Addr) (sc sc' pc pc' : Nat) (w : World) (hn : seen.length ≤ 1048576) (hm : SmL l) (hd : l'.map Pr.d = l.map Pr.d) (h1 : RowAt 2 snCells w sa seen) (h1' : RowAt 2 snCells w sa' seen) (h2 : PeersAt w pa l) (h2' : PeersAt w pa' l') :
  Calls Tryz.prog 9 #[.agg #[J Z id, J Z has, J Z spent, J Z earned, V sa seen.length sc, V pa l.length pc], .agg #[J Z id, J Z has, J Z spent, J Z earned, V sa' seen.length sc', V pa' l.length pc']] w fun e w' => YesEnd w e w' := by
 have H1 : Hid _ := hide (And.intro h1 h1')
 have H2 : Hid _ := hide (And.intro h2 h2')
 have HD : Hid _ := hide hd
 have HM : Hid _ := hide hm
 clear h1 h1' h2 h2' hd hm
 have i0 : (id != id) = false := by simp
 have i1 : (has != has) = false := by simp
 have i2 : (spent != spent) = false := by simp
 have i3 : (earned != earned) = false := by simp
 obtain ⟨wa, hwa⟩ : ∃ wa, wa = w.alloc (.cells #[J Z id, J Z has, J Z spent, J Z earned, V sa seen.length sc, V pa l.length pc] 34) := ⟨_, rfl⟩
 obtain ⟨wb, hwb⟩ : ∃ wb, wb = wa.alloc (.cells #[J Z id, J Z has, J Z spent, J Z earned, V sa' seen.length sc', V pa' l.length pc'] 34) := ⟨_, rfl⟩
 have sa0 : wa.heap.size = w.heap.size + 1 := by rw [hwa]; simp
 have kA : Blk w.heap.size [J Z id, J Z has, J Z spent, J Z earned, V sa seen.length sc, V pa l.length pc] wb := by rw [hwb, hwa]; exact Blk.new.alloc _
 have kB : Blk (w.heap.size + 1) [J Z id, J Z has, J Z spent, J Z earned, V sa' seen.length sc', V pa' l.length pc'] wb := by rw [← sa0, hwb]; exact Blk.new
 have b2 : Below w.heap.size w wb := by rw [hwb, hwa]; exact below_alloc (below_alloc (Below.refl _ _) _) _
 have HW : Hid ((w.alloc (.cells #[J Z id, J Z has, J Z spent, J Z earned, V sa seen.length sc, V pa l.length pc] 34)).alloc (.cells #[J Z id, J Z has, J Z spent, J Z earned, V sa' seen.length sc', V pa' l.length pc'] 34) = wb) := hide (by rw [hwb, hwa])
 clear hwa hwb sa0
 have HB2 : Hid _ := hide b2
 have KA : Hid _ := hide kA
 have KB : Hid _ := hide kB
 clear kA kB b2
 go_enter Tryz.func9, Tryz.ntmps9
 go_wp2_with fail
 rw [HW.out]
 refine (eqAnsweredS_any _ _ seen _ _ wb hn (H1.out.1.below HB2.out) (H1.out.2.below HB2.out)).mono ?_
 rintro e w1 ⟨rfl, hb1⟩
 have y5 := (KA.out.below hb1).c 5 _ rfl
 have z5 := (KB.out.below hb1).c 5 _ rfl
 have HB : Hid (Below w.heap.size w w1) := hide (below_trans HB2.out hb1)
 clear hb1
 go_wp2_with fail
 refine (eqPeerS_any _ _ l l' _ _ w1 HM.out.1 HM.out.2 HD.out (H2.out.1.below HB.out) (H2.out.2.below HB.out)).mono ?_
 rintro e w2 ⟨rfl, hb2⟩
 have HB3 : Hid (Below w.heap.size w w2) := hide (below_trans HB.out hb2)
 clear hb2 y5 z5
 go_wp2
 go_ret
 exact ⟨rfl, HB3.out⟩
end Go.Proofs.YtaohhdlkgnjphaaGreat
