/- The contract of the model's l7Links. -/
import Derived.Test.YtpfghmghlklhgaaSW1
namespace Go.Proofs.Ytpfghmghlklhgaa
open Go.ChangeShapes Go.WideShapes Go.ChangeAt Go.RowKit
set_option linter.unusedVariables false
set_option maxRecDepth 100000
theorem later_int {P : Program} {f : FuncId} {args : Array Value} {W : World} {x : Later W} {b b' : Int} (e : b = b') (h : Calls P f args x.w fun e w'' => e = .returned (.int .i64 b) ∧ ∃ y : Later W, w'' = y.w) : Calls P f args x.w fun e w'' => e = .returned (.int .i64 b') ∧ ∃ y : Later W, w'' = y.w := by rw [← e]; exact h
abbrev S6c (A B C O : Nat) (p0 p1 p2 q0 q5 r0 : Value) (W0 x : World) : Prop := x.cell? ⟨A, 0, none⟩ = some p0 ∧ x.cell? ⟨A, 1, none⟩ = some p1 ∧ x.cell? ⟨A, 2, none⟩ = some p2 ∧ x.cell? ⟨B, 0, none⟩ = some q0 ∧ x.cell? ⟨B, 5, none⟩ = some q5 ∧ x.cell? ⟨C, O, none⟩ = some r0 ∧ Hid (Below W0.heap.size W0 x)
theorem S6c.on {A B C O : Nat} {p0 p1 p2 q0 q5 r0 : Value} {W0 x y : World} (h : S6c A B C O p0 p1 p2 q0 q5 r0 W0 x) (b : Below x.heap.size x y) : S6c A B C O p0 p1 p2 q0 q5 r0 W0 y :=
  ⟨below_keeps b _ _ h.1, below_keeps b _ _ h.2.1, below_keeps b _ _ h.2.2.1, below_keeps b _ _ h.2.2.2.1, below_keeps b _ _ h.2.2.2.2.1, below_keeps b _ _ h.2.2.2.2.2.1, hide (below_trans h.2.2.2.2.2.2.out b)⟩
theorem S6c.old {A B C O : Nat} {p0 p1 p2 q0 q5 r0 : Value} {W0 x : World} (h : S6c A B C O p0 p1 p2 q0 q5 r0 W0 x) : Below W0.heap.size W0 x := h.2.2.2.2.2.2.out
theorem S6c.set3 {A B C O g : Nat} {p0 p1 p2 q0 q5 r0 v0 v1 v2 : Value} {W0 x : World} (h : S6c A B C O p0 p1 p2 q0 q5 r0 W0 x) (hA : A < g ∧ B < g ∧ C < g) (hg : W0.heap.size ≤ g) : S6c A B C O p0 p1 p2 q0 q5 r0 W0 (((x.setCell ⟨g, 0, none⟩ v0).setCell ⟨g, 1, none⟩ v1).setCell ⟨g, 2, none⟩ v2) := by
  have k : ∀ b o u, b < g → x.cell? ⟨b, o, none⟩ = some u → (((x.setCell ⟨g, 0, none⟩ v0).setCell ⟨g, 1, none⟩ v1).setCell ⟨g, 2, none⟩ v2).cell? ⟨b, o, none⟩ = some u := fun b o u hb hu => by
    rw [cell_set_other (.inl (by omega)), cell_set_other (.inl (by omega)), cell_set_other (.inl (by omega))]
    exact hu
  exact ⟨k _ _ _ hA.1 h.1, k _ _ _ hA.1 h.2.1, k _ _ _ hA.1 h.2.2.1, k _ _ _ hA.2.1 h.2.2.2.1, k _ _ _ hA.2.1 h.2.2.2.2.1, k _ _ _ hA.2.2 h.2.2.2.2.2.1, hide (((h.2.2.2.2.2.2.out.setCell (p := ⟨g, 0, none⟩) hg _).setCell (p := ⟨g, 1, none⟩) hg _).setCell (p := ⟨g, 2, none⟩) hg _)⟩
/-- the end that was found lies in a block of its own -/
def EndBox (z : List Value) (W0 : World) (s : Value) (x : World) : Prop := ∃ B, s = .pointer (some ⟨B, 0, none⟩) ∧ W0.heap.size ≤ B ∧ Blk B z x ∧ Below W0.heap.size W0 x
theorem endBox_new {z0 z1 z2 : Value} {W0 x : World} (h : Below W0.heap.size W0 x) {T : TypeId} : EndBox [z0, z1, z2] W0 (.pointer (some ⟨x.heap.size, 0, none⟩)) (x.alloc (.cells #[z0, z1, z2] T)) :=
  ⟨x.heap.size, rfl, h.size, Blk.new, below_alloc h _⟩
theorem endBox_set {z0 z1 z2 y0 y1 y2 : Value} {W0 x : World} {B : Nat} (hB : W0.heap.size ≤ B) (hk : Blk B [y0, y1, y2] x) (h : Below W0.heap.size W0 x) : EndBox [z0, z1, z2] W0 (.pointer (some ⟨B, 0, none⟩)) (((x.setCell ⟨B, 0, none⟩ z0).setCell ⟨B, 1, none⟩ z1).setCell ⟨B, 2, none⟩ z2) :=
  ⟨B, rfl, hB, ((hk.set 0 _ (by simp)).set 1 _ (by simp)).set 2 _ (by simp), ((h.setCell (p := ⟨B, 0, none⟩) hB _).setCell (p := ⟨B, 1, none⟩) hB _).setCell (p := ⟨B, 2, none⟩) hB _⟩
set_option maxHeartbeats 4000000 in
theorem l7Links_any (st : Int) (na : Option Addr) (l : List Nd) (nc : Nat) (ma : Option Addr) (nm mc : Nat) (n : Nd) (w : World) (hl : l.length ≤ 8) (hok : NdsOk l) (hn0 : nodeB n.d = true) (hn : NodeAt w n) (h : NodesAt w na l) :
    Calls Try.prog 39 #[.agg #[.int .i64 st, .slice na l.length nc, .slice ma nm mc], .agg #[.int .i64 n.id, .int .i64 n.has, .int .i64 n.spent, .int .i64 n.earned, .slice n.sa n.seen.length n.sc, .slice n.pa n.peers.length n.pc]] w fun e w' => e = .returned (.bool (allTo (lnkAt (l.map Nd.d) n.d) n.peers.length)) ∧ Below w.heap.size w w' := by
  have HL : Hid _ := hide h
  have HA : Hid _ := hide hn
  have HQ : Hid _ := hide (fun n hn => Nat.le_trans (nodeB_len (hok n hn)).1 (by decide : (8 : Nat) ≤ 1048576))
  have hp8 := (nodeB_len hn0).1
  clear h hn
  obtain ⟨w2, hw2⟩ : ∃ w2, w2 = (w.alloc (.cells #[.int .i64 st, .slice na l.length nc, .slice ma nm mc] 44)).alloc (.cells #[.int .i64 n.id, .int .i64 n.has, .int .i64 n.spent, .int .i64 n.earned, .slice n.sa n.seen.length n.sc, .slice n.pa n.peers.length n.pc] 31) := ⟨_, rfl⟩
  have sz1 : (w.alloc (.cells #[.int .i64 st, .slice na l.length nc, .slice ma nm mc] 44)).heap.size = w.heap.size + 1 := by simp
  have sz2 : w2.heap.size = w.heap.size + 2 := by rw [hw2]; simp
  have KW : Hid (Blk w.heap.size [.int .i64 st, .slice na l.length nc, .slice ma nm mc] w2) := hide (by rw [hw2]; exact Blk.new.alloc _)
  have KN : Hid (Blk (w.heap.size + 1) [.int .i64 n.id, .int .i64 n.has, .int .i64 n.spent, .int .i64 n.earned, .slice n.sa n.seen.length n.sc, .slice n.pa n.peers.length n.pc] w2) := hide (by rw [hw2, ← sz1]; exact Blk.new)
  have HB2 : Hid (Below w.heap.size w w2) := hide (by rw [hw2]; exact below_alloc (below_alloc (Below.refl _ _) _) _)
  have HW : Hid ((w.alloc (.cells #[.int .i64 st, .slice na l.length nc, .slice ma nm mc] 44)).alloc (.cells #[.int .i64 n.id, .int .i64 n.has, .int .i64 n.spent, .int .i64 n.earned, .slice n.sa n.seen.length n.sc, .slice n.pa n.peers.length n.pc] 31) = w2) := hide hw2.symm
  have HS : Hid _ := hide sz2
  clear hw2 sz1 sz2
  go_enter Try.func39, Try.ntmps39
  go_wp2
  rw [HW.out]
  go_loopw [5] (fun i wr => ∃ k : Nat, k ≤ n.peers.length ∧ i = .int .i64 (k : Int) ∧ Below w2.heap.size w2 wr ∧ Hid (allTo (lnkAt (l.map Nd.d) n.d) k = true)) (fun i wr => n.peers.length - (intOf i).toNat)
  case atStart => exact ⟨0, Nat.zero_le _, rfl, Below.refl _ _, hide rfl⟩
  case round =>
    obtain ⟨k, hk, rfl, HB, HS1⟩ := hrel
    have HBo : Hid (Below w.heap.size w wr) := hide (below_trans HB2.out HB)
    have x0 := (KW.out.below HB).c 0 _ rfl
    have x1 := (KW.out.below HB).c 1 _ rfl
    have x2 := (KW.out.below HB).c 2 _ rfl
    have y0 := (KN.out.below HB).c 0 _ rfl
    have y5 := (KN.out.below HB).c 5 _ rfl
    by_cases hlt : k < n.peers.length
    · obtain ⟨pb, poff, hpa, hpb, d0, d1, d2, d3⟩ := pr_row (HA.out.peers.row.below HBo.out) k hlt
      have hlt' : (k : Int) < (n.peers.length : Int) := by omega
      have HNL : Hid (NodesAt wr na l) := hide (HL.out.below HBo.out)
      rw [hpa] at y5
      have x0' := later_cell x0
      have x1' := later_cell x1
      have x2' := later_cell x2
      have y0' := later_cell y0
      have y5' := later_cell y5
      have d0' := later_cell d0
      have hne : Nonempty (Later wr) := later_there _
      cases e1 : fi (l.map Nd.id) (n.peers[k]).id with
      | none =>
        have HI : Hid (ixV (fi (l.map Nd.id) (n.peers[k]).id) = -1) := hide (by rw [e1]; rfl)
        have HR : Hid (allTo (lnkAt (l.map Nd.d) n.d) n.peers.length = false) := hide (allTo_false hlt (by rw [lnkAt_at hlt]; show lnkB (l.map Nd.d) n.id ⟨(n.peers[k]).id, (n.peers[k]).E⟩ = false; simp only [lnkB, endBet_miss e1]))
        go_wp2_with fail
        refine wp_region_later wr (by kernel_rfl) (by kernel_rfl) ((Below.refl _ _).drew) ?_
        repeat (go_big_quiet_step (first | (go_at_call 61; exact later_int HI.out (later_of (l7Node_any _ _ l _ _ _ _ _ _ (by omega) (HNL.out.row.below (Later.below _)))))))
        refine wpQuiet_nil ?_
        intro _ hw'
        obtain ⟨nx, rfl⟩ := hw'
        go_wp2_with fail
        go_quiet (fail)
        go_wp2
        go_ret
        exact ⟨by rw [HR.out]; rfl, below_drewN (below_trans HBo.out nx.below) _⟩
      | some k2 =>
        obtain ⟨hk2', hid2⟩ := fi_some e1
        have hk2 : k2 < l.length := by simpa using hk2'
        have HI : Hid (ixV (fi (l.map Nd.id) (n.peers[k]).id) = (k2 : Int)) := hide (by rw [e1]; rfl)
        obtain ⟨lb, loff, rfl, hlb, m0, m1, m2, m3, m4, m5⟩ := nd_row HNL.out.row k2 hk2
        have hk20 : decide ((k2 : Int) < 0) = false := by simp
        have hk21 : (k2 : Int) < (l.length : Int) := by omega
        have hk22 : (0 : Int) ≤ (k2 : Int) := by omega
        have HN2 : Hid (NodeAt wr l[k2]) := hide (HNL.out.each _ (List.getElem_mem hk2))
        go_wp2_with fail
        refine wp_region_later wr (by kernel_rfl) (by kernel_rfl) ((Below.refl _ _).drew) ?_
        repeat (go_big_quiet_step (first | (go_at_call 61; exact later_int HI.out (later_of (l7Node_any _ _ l _ _ _ _ _ _ (by omega) (HNL.out.row.below (Later.below _)))))))
        refine wpQuiet_nil ?_
        intro _ hw'
        obtain ⟨nx, rfl⟩ := hw'
        have HBn : Hid (Below w2.heap.size w2 nx.w) := hide (below_trans HB nx.below)
        have x0 := x0' nx
        have x1 := x1' nx
        have x2 := x2' nx
        have y0 := y0' nx
        have y5 := y5' nx
        have d0 := d0' nx
        have d1 := later_cell d1 nx
        have d2 := later_cell d2 nx
        have d3 := later_cell d3 nx
        have m0 := later_cell m0 nx
        have m1 := later_cell m1 nx
        have m2 := later_cell m2 nx
        have m3 := later_cell m3 nx
        have m4 := later_cell m4 nx
        have m5 := later_cell m5 nx
        have HN3 : Hid _ := hide (HN2.out.below nx.below)
        have HNL3 : Hid _ := hide (HNL.out.below nx.below)
        have hpb3 : pb < nx.w.heap.size := Nat.lt_of_lt_of_le hpb nx.below.size
        clear x0' x1' x2' y0' y5' d0' hne HN2 HNL
        obtain ⟨wx, hwx⟩ : ∃ wx, wx = nx.w := ⟨_, rfl⟩
        rw [← hwx] at HBn x0 x1 x2 y0 y5 d0 d1 d2 d3 m0 m1 m2 m3 m4 m5 HN3 HNL3 hpb3 ⊢
        clear hwx nx
        have hne : Nonempty (Later wx) := later_there _
        have x1' := later_cell x1
        have y0' := later_cell y0
        have m0' := later_cell m0
        have m1' := later_cell m1
        have m2' := later_cell m2
        have m3' := later_cell m3
        have m4' := later_cell m4
        have m5' := later_cell m5
        cases e2 : fi ((l[k2]).peers.map Pr.id) n.id with
        | none =>
          have HI2 : Hid (ixV (fi ((l[k2]).peers.map Pr.id) n.id) = -1) := hide (by rw [e2]; rfl)
          have HR : Hid (allTo (lnkAt (l.map Nd.d) n.d) n.peers.length = false) := hide (allTo_false hlt (by rw [lnkAt_at hlt]; show lnkB (l.map Nd.d) n.id ⟨(n.peers[k]).id, (n.peers[k]).E⟩ = false; simp only [lnkB]; rw [endBet_hit e1 hk2, e2]))
          go_wp2_with fail
          refine wp_region_later wx (by kernel_rfl) (by kernel_rfl) ((Below.refl _ _).drew) ?_
          repeat (go_big_quiet_step (first | (go_at_call 62; exact later_int HI2.out (later_of (l6Peer_any l[k2] _ _ (HQ.out _ (List.getElem_mem hk2)) (HN3.out.peers.row.below (Later.below _)))))))
          refine wpQuiet_nil ?_
          intro _ hw'
          obtain ⟨nx, rfl⟩ := hw'
          go_wp2
          go_ret
          exact ⟨by rw [HR.out]; rfl, below_trans HB2.out (below_trans HBn.out nx.below)⟩
        | some i2 =>
          obtain ⟨hi2', _⟩ := fi_some e2
          have hi2 : i2 < (l[k2]).peers.length := by simpa using hi2'
          have HI2 : Hid (ixV (fi ((l[k2]).peers.map Pr.id) n.id) = (i2 : Int)) := hide (by rw [e2]; rfl)
          have hi20 : decide ((i2 : Int) < 0) = false := by simp
          have hi22 : (0 : Int) ≤ (i2 : Int) := by omega
          have HEQ : Hid (endB ((l[k2]).peers[i2]).E = true) := hide (nodeB_peer (hok _ (List.getElem_mem hk2)) _ (List.getElem_mem hi2))
          obtain ⟨q8, ⟨qs0, qs1⟩, _, _⟩ := endB_parts HEQ.out
          have HK : Hid (lnkAt (l.map Nd.d) n.d k = inB (((l[k2]).peers[i2]).E.sent - (((l[k2]).peers[i2]).E.out.length : Int)) ((l[k2]).peers[i2]).E.sent (n.peers[k]).E.got) := hide (by rw [lnkAt_at hlt]; show lnkB (l.map Nd.d) n.id ⟨(n.peers[k]).id, (n.peers[k]).E⟩ = _; simp only [lnkB]; rw [endBet_hit e1 hk2, e2]; simp only [List.getElem?_eq_getElem hi2, Option.map_some])
          go_wp2_with fail
          refine wp_region_later wx (by kernel_rfl) (by kernel_rfl) ((Below.refl _ _).drew) ?_
          repeat (go_big_quiet_step (first | (go_at_call 62; exact later_int HI2.out (later_of (l6Peer_any l[k2] _ _ (HQ.out _ (List.getElem_mem hk2)) (HN3.out.peers.row.below (Later.below _)))))))
          refine wpQuiet_nil ?_
          intro _ hw'
          obtain ⟨nx, rfl⟩ := hw'
          have HBn2 : Hid (Below w2.heap.size w2 nx.w) := hide (below_trans HBn.out nx.below)
          have x0 := later_cell x0 nx
          have x1 := later_cell x1 nx
          have x2 := later_cell x2 nx
          have y0 := later_cell y0 nx
          have y5 := later_cell y5 nx
          have d0 := later_cell d0 nx
          have d1 := later_cell d1 nx
          have d2 := later_cell d2 nx
          have d3 := later_cell d3 nx
          have HNL4 : Hid _ := hide (HNL3.out.below nx.below)
          have hpb4 : pb < nx.w.heap.size := Nat.lt_of_lt_of_le hpb3 nx.below.size
          clear x1' y0' m0' m1' m2' m3' m4' m5' m0 m1 m2 m3 m4 m5 hne HN3 HNL3
          obtain ⟨wy, hwy⟩ : ∃ wy, wy = nx.w := ⟨_, rfl⟩
          rw [← hwy] at HBn2 x0 x1 x2 y0 y5 d0 d1 d2 d3 HNL4 hpb4 ⊢
          clear hwy nx
          have hsz : w.heap.size + 2 ≤ wy.heap.size := by have := HBn2.out.size; rw [HS.out] at this; exact this
          obtain ⟨wz, hwz⟩ : ∃ wz, wz = wy.alloc (.cells #[.slice (n.peers[k]).a (n.peers[k]).E.out.length (n.peers[k]).cap, .int .i64 (n.peers[k]).E.sent, .int .i64 (n.peers[k]).E.got] 56) := ⟨_, rfl⟩
          have KM : Hid (Blk wy.heap.size [.slice (n.peers[k]).a (n.peers[k]).E.out.length (n.peers[k]).cap, .int .i64 (n.peers[k]).E.sent, .int .i64 (n.peers[k]).E.got] wz) := hide (by rw [hwz]; exact Blk.new)
          have bz : Below wy.heap.size wy wz := by rw [hwz]; exact below_alloc (Below.refl _ _) _
          have HBz : Hid (Below w2.heap.size w2 wz) := hide (below_trans HBn2.out bz)
          have HSZ : Hid (S6c w.heap.size (w.heap.size + 1) pb (poff + k * 4) (.int .i64 st) (.slice (some ⟨lb, loff, none⟩) l.length nc) (.slice ma nm mc) (.int .i64 n.id) (.slice (some ⟨pb, poff, none⟩) n.peers.length n.pc) (.int .i64 (n.peers[k]).id) wz wz) := hide ⟨below_keeps bz _ _ x0, below_keeps bz _ _ x1, below_keeps bz _ _ x2, below_keeps bz _ _ y0, below_keeps bz _ _ y5, below_keeps bz _ _ d0, hide (Below.refl _ _)⟩
          have HSZd : Hid (S6c w.heap.size (w.heap.size + 1) pb (poff + k * 4) (.int .i64 st) (.slice (some ⟨lb, loff, none⟩) l.length nc) (.slice ma nm mc) (.int .i64 n.id) (.slice (some ⟨pb, poff, none⟩) n.peers.length n.pc) (.int .i64 (n.peers[k]).id) wz wz.drew) := hide (S6c.on HSZ.out (Below.refl _ _).drew)
          have HNL5 : Hid _ := hide (HNL4.out.below bz)
          have HAB : Hid (w.heap.size < wz.heap.size ∧ w.heap.size + 1 < wz.heap.size ∧ pb < wz.heap.size) := hide (by have := bz.size; omega)
          have HMZ : Hid (wy.heap.size < wz.heap.size) := hide (by rw [hwz]; simp)
          have HWz : Hid (wy.alloc (.cells #[.slice (n.peers[k]).a (n.peers[k]).E.out.length (n.peers[k]).cap, .int .i64 (n.peers[k]).E.sent, .int .i64 (n.peers[k]).E.got] 56) = wz) := hide hwz.symm
          clear bz hwz HNL4
          go_wp2_with fail
          rw [HWz.out]
          clear x0 x1 x2 y0 y5 d0 d1 d2 d3
          rw [hpa]
          have HPA : Hid _ := hide hpa
          clear hpa
          go_cut [8] from 9 to 68 (fun s8 wq => Hid (EndBox [.slice ((l[k2]).peers[i2]).a ((l[k2]).peers[i2]).E.out.length ((l[k2]).peers[i2]).cap, .int .i64 ((l[k2]).peers[i2]).E.sent, .int .i64 ((l[k2]).peers[i2]).E.got] wz s8 wq))
          case first =>
            go_region_held3 (fun x => x.cell? ⟨w.heap.size, 0, none⟩ = some (.int .i64 st) ∧ x.cell? ⟨w.heap.size, 1, none⟩ = some (.slice (some ⟨lb, loff, none⟩) l.length nc) ∧ x.cell? ⟨w.heap.size, 2, none⟩ = some (.slice ma nm mc) ∧ x.cell? ⟨w.heap.size + 1, 0, none⟩ = some (.int .i64 n.id) ∧ x.cell? ⟨w.heap.size + 1, 5, none⟩ = some (.slice (some ⟨pb, poff, none⟩) n.peers.length n.pc) ∧ x.cell? ⟨pb, poff + k * 4, none⟩ = some (.int .i64 (n.peers[k]).id) ∧ Hid (Below wz.heap.size wz x))
              (first | with_reducible exact S6c.set3 HS6.out HAB.out (Nat.le_refl _) | with_reducible exact HSZd.out | with_reducible exact HS6.out | with_reducible exact S6c.on HSZ.out ((below_alloc (Below.refl _ _) _).drew) | with_reducible exact S6c.on HS6.out (below_alloc (Below.refl _ _) _) | with_reducible assumption)
              (first | (go_at_call 63; refine (l7Out_any _ _ l _ _ _ _ _ _ _ (by omega) HQ.out (HNL5.out.below (S6c.old (by with_reducible assumption : S6c w.heap.size (w.heap.size + 1) pb (poff + k * 4) (.int .i64 st) (.slice (some ⟨lb, loff, none⟩) l.length nc) (.slice ma nm mc) (.int .i64 n.id) (.slice (some ⟨pb, poff, none⟩) n.peers.length n.pc) (.int .i64 (n.peers[k]).id) wz _))) k2 i2 hk2 hi2 e1 e2).mono ?_; rintro e w6 ⟨rfl, hb6⟩; have HS6 : Hid (S6c w.heap.size (w.heap.size + 1) pb (poff + k * 4) (.int .i64 st) (.slice (some ⟨lb, loff, none⟩) l.length nc) (.slice ma nm mc) (.int .i64 n.id) (.slice (some ⟨pb, poff, none⟩) n.peers.length n.pc) (.int .i64 (n.peers[k]).id) wz w6) := hide (S6c.on (by with_reducible assumption) hb6); try (have KZ : Blk wz.heap.size [.slice none 0 0, .int .i64 0, .int .i64 0] w6 := (by with_reducible exact blk_drew hb6); have HKZ : Hid _ := hide KZ; have z0 := KZ.c 0 _ rfl; have z1 := KZ.c 1 _ rfl; have z2 := KZ.c 2 _ rfl; have f0 := KZ.f 0; have f1 := KZ.f 1; have f2 := KZ.f 2; clear KZ)))
            all_goals (go_wp2_with fail; go_meet)
            all_goals first
              | exact hide (endBox_new (S6c.old HS6.out))
              | exact hide (endBox_set (Nat.le_refl _) HKZ.out (S6c.old HS6.out))
          case rest =>
            rename World => wq
            obtain ⟨B8, rfl, hB8, kB8, bB8⟩ := hcut.out
            have HBq : Hid (Below w2.heap.size w2 wq) := hide (below_trans HBz.out bB8)
            have u2 := (KM.out.below bB8).c 2 _ rfl
            have v0 := kB8.c 0 _ rfl
            have v1 := kB8.c 1 _ rfl
            clear kB8 bB8 hcut
            have hn8 : ((((l[k2]).peers[i2]).E.out.length : Nat) : Int) ≤ 8 := by omega
            have hQ0 : (0 : Int) ≤ (((l[k2]).peers[i2]).E.out.length : Int) := by omega
            by_cases g1 : ((l[k2]).peers[i2]).E.sent < (n.peers[k]).E.got
            · have HR : Hid (allTo (lnkAt (l.map Nd.d) n.d) n.peers.length = false) := hide (allTo_false hlt (by rw [HK.out]; simp only [inB]; exact decide_eq_false (by omega)))
              go_wp2
              go_ret
              exact ⟨by rw [HR.out]; rfl, below_trans HB2.out HBq.out⟩
            · by_cases g2 : (n.peers[k]).E.got < ((l[k2]).peers[i2]).E.sent - (((l[k2]).peers[i2]).E.out.length : Int)
              · have HR : Hid (allTo (lnkAt (l.map Nd.d) n.d) n.peers.length = false) := hide (allTo_false hlt (by rw [HK.out]; simp only [inB]; exact decide_eq_false (by omega)))
                go_wp2
                go_ret
                exact ⟨by rw [HR.out]; rfl, below_trans HB2.out HBq.out⟩
              · have HS3 : Hid (allTo (lnkAt (l.map Nd.d) n.d) (k + 1) = true) := hide (allTo_step HS1.out (by rw [HK.out]; simp only [inB]; exact decide_eq_true (by omega)))
                go_wp2
                exact ⟨⟨_, _, ⟨k + 1, by omega, by go_num, HBq.out, HS3⟩, HPA.out.symm, rfl, rfl⟩, by simp [intOf]; omega⟩
    · have hk' : ¬ (k : Int) < (n.peers.length : Int) := by omega
      have HR : Hid (allTo (lnkAt (l.map Nd.d) n.d) n.peers.length = true) := hide (by
        have hs := HS1.out
        rw [show k = n.peers.length by omega] at hs
        exact hs)
      go_wp2
      go_ret
      exact ⟨by rw [HR.out]; rfl, HBo.out⟩
end Go.Proofs.Ytpfghmghlklhgaa
