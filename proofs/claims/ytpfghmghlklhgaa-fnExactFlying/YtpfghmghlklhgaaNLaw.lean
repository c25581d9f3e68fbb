/- The walk of the law FnExactNodeOk. -/
import Derived.Test.YtpfghmghlklhgaaSNode
import Derived.Test.YtpfghmghlklhgaaNEq
import Derived.Deep.RegionHeld
namespace Go.Proofs.Ytpfghmghlklhgaa
open Go.ChangeShapes Go.WideShapes Go.ChangeAt Go.RowKit
set_option linter.unusedVariables false
theorem bne_bool (b : Bool) : (b != b) = false := by simp
theorem bne_int (n : Int) : (n != n) = false := by simp
def S12 (A B : Nat) (p0 p1 p2 p3 p4 p5 q0 q1 q2 q3 q4 q5 : Value) (W0 x : World) : Prop := x.cell? ⟨A, 0, none⟩ = some (p0) ∧ x.cell? ⟨A, 1, none⟩ = some (p1) ∧ x.cell? ⟨A, 2, none⟩ = some (p2) ∧ x.cell? ⟨A, 3, none⟩ = some (p3) ∧ x.cell? ⟨A, 4, none⟩ = some (p4) ∧ x.cell? ⟨A, 5, none⟩ = some (p5) ∧ x.cell? ⟨B, 0, none⟩ = some (q0) ∧ x.cell? ⟨B, 1, none⟩ = some (q1) ∧ x.cell? ⟨B, 2, none⟩ = some (q2) ∧ x.cell? ⟨B, 3, none⟩ = some (q3) ∧ x.cell? ⟨B, 4, none⟩ = some (q4) ∧ x.cell? ⟨B, 5, none⟩ = some (q5) ∧ Hid (Below W0.heap.size W0 x)
theorem S12.of {A B : Nat} {p0 p1 p2 p3 p4 p5 q0 q1 q2 q3 q4 q5 : Value} {W0 x : World} (h : Blk A [p0, p1, p2, p3, p4, p5] W0) (k : Blk B [q0, q1, q2, q3, q4, q5] W0) (b : Below W0.heap.size W0 x) : S12 A B p0 p1 p2 p3 p4 p5 q0 q1 q2 q3 q4 q5 W0 x :=
  ⟨(h.below b).c 0 _ rfl, (h.below b).c 1 _ rfl, (h.below b).c 2 _ rfl, (h.below b).c 3 _ rfl, (h.below b).c 4 _ rfl, (h.below b).c 5 _ rfl, (k.below b).c 0 _ rfl, (k.below b).c 1 _ rfl, (k.below b).c 2 _ rfl, (k.below b).c 3 _ rfl, (k.below b).c 4 _ rfl, (k.below b).c 5 _ rfl, hide b⟩
theorem S12.on {A B : Nat} {p0 p1 p2 p3 p4 p5 q0 q1 q2 q3 q4 q5 : Value} {W0 x y : World} (h : S12 A B p0 p1 p2 p3 p4 p5 q0 q1 q2 q3 q4 q5 W0 x) (b : Below x.heap.size x y) : S12 A B p0 p1 p2 p3 p4 p5 q0 q1 q2 q3 q4 q5 W0 y :=
  ⟨below_keeps b _ _ h.1, below_keeps b _ _ h.2.1, below_keeps b _ _ h.2.2.1, below_keeps b _ _ h.2.2.2.1, below_keeps b _ _ h.2.2.2.2.1, below_keeps b _ _ h.2.2.2.2.2.1, below_keeps b _ _ h.2.2.2.2.2.2.1, below_keeps b _ _ h.2.2.2.2.2.2.2.1, below_keeps b _ _ h.2.2.2.2.2.2.2.2.1, below_keeps b _ _ h.2.2.2.2.2.2.2.2.2.1, below_keeps b _ _ h.2.2.2.2.2.2.2.2.2.2.1, below_keeps b _ _ h.2.2.2.2.2.2.2.2.2.2.2.1, hide (below_trans h.2.2.2.2.2.2.2.2.2.2.2.2.out b)⟩
theorem S12.old {A B : Nat} {p0 p1 p2 p3 p4 p5 q0 q1 q2 q3 q4 q5 : Value} {W0 x : World} (h : S12 A B p0 p1 p2 p3 p4 p5 q0 q1 q2 q3 q4 q5 W0 x) : Below W0.heap.size W0 x := h.2.2.2.2.2.2.2.2.2.2.2.2.out
theorem node_same {n : Nd} {l' : List Pr} (h : l'.map Pr.d = n.peers.map Pr.d) : nodeB ⟨n.id, n.has, n.spent, n.earned, n.seen, l'.map Pr.d⟩ = nodeB n.d := by rw [h]; rfl
theorem same_len {l l' : List Pr} (h : l'.map Pr.d = l.map Pr.d) : l'.length = l.length := by have := congrArg List.length h; simpa using this
theorem same_small {l l' : List Pr} (h : l'.map Pr.d = l.map Pr.d) (hs : SmP l) : SmP l' := fun p hp => by
  obtain ⟨k, hk, rfl⟩ := List.mem_iff_getElem.1 hp
  obtain ⟨_, _, e⟩ := same_at h (show k < l.length by have := same_len h; omega)
  rw [e]
  exact hs _ (List.getElem_mem _)

theorem eqNode4 (n : Nd) (l l' : List Pr) (hm : SmN n) (hd : l.map Pr.d = n.peers.map Pr.d) (hd' : l'.map Pr.d = n.peers.map Pr.d) (sa sa' pa pa' : Option Addr) (sc sc' pc pc' : Nat) (w : World) (h1 : RowAt 2 snCells w sa n.seen) (h1' : RowAt 2 snCells w sa' n.seen) (h2 : PeersAt w pa l) (h2' : PeersAt w pa' l') :
    Calls Try.prog 12 #[.agg #[.int .i64 n.id, .int .i64 n.has, .int .i64 n.spent, .int .i64 n.earned, .slice sa n.seen.length sc, .slice pa n.peers.length pc], .agg #[.int .i64 n.id, .int .i64 n.has, .int .i64 n.spent, .int .i64 n.earned, .slice sa' n.seen.length sc', .slice pa' n.peers.length pc']] w fun e w' => YesEnd w e w' := by
  have h := eqNode_any n.id n.has n.spent n.earned n.seen l l' sa sa' pa pa' sc sc' pc pc' w hm.1 ⟨by rw [same_len hd]; exact hm.2.1, same_small hd hm.2.2⟩ (hd'.trans hd.symm) h1 h1' h2 h2'
  rwa [same_len hd] at h
set_option maxRecDepth 100000 in
set_option maxHeartbeats 8000000 in
theorem walkNodeOk (n : Nd) (w : World) (hl : NodeAt w n) (m1 : n.seen.length ≤ maxLen ∧ n.peers.length ≤ maxLen ∧ LimP n.peers) :
    Calls Try.prog 3 #[.agg #[.int .i64 n.id, .int .i64 n.has, .int .i64 n.spent, .int .i64 n.earned, .slice n.sa n.seen.length n.sc, .slice n.pa n.peers.length n.pc]] w fun e w' => YesEnd w e w' := by
  have HL : Hid _ := hide hl
  clear hl
  have KX0 : Hid (Blk w.heap.size [.int .i64 n.id, .int .i64 n.has, .int .i64 n.spent, .int .i64 n.earned, .slice n.sa n.seen.length n.sc, .slice n.pa n.peers.length n.pc] (w.alloc (.cells #[.int .i64 n.id, .int .i64 n.has, .int .i64 n.spent, .int .i64 n.earned, .slice n.sa n.seen.length n.sc, .slice n.pa n.peers.length n.pc] 25))) := hide Blk.new
  have HX0 : Hid (Below w.heap.size w (w.alloc (.cells #[.int .i64 n.id, .int .i64 n.has, .int .i64 n.spent, .int .i64 n.earned, .slice n.sa n.seen.length n.sc, .slice n.pa n.peers.length n.pc] 25))) := hide (below_alloc (Below.refl _ _) _)
  go_enter Try.func3, Try.ntmps3
  go_wp2_with fail
  refine (szNode_any n _ _ m1 (by omega) (HL.out.peers.below HX0.out)).mono ?_
  rintro e w1 ⟨hb1, r, rfl, hr1, hr2, hr⟩
  have HX1 : Hid _ := hide (below_trans HX0.out hb1)
  have KX1 : Hid _ := hide (KX0.out.below hb1)
  have HR : Hid _ := hide hr
  clear hb1 HX0 KX0 hr
  by_cases q : r < 0
  · go_wp2
    go_ret
    exact ⟨rfl, HX1.out⟩
  · have HM : Hid (SmN n) := hide (HR.out (by omega))
    clear HR
    have x0 := KX1.out.c 0 _ rfl
    have x1 := KX1.out.c 1 _ rfl
    have x2 := KX1.out.c 2 _ rfl
    have x3 := KX1.out.c 3 _ rfl
    have x4 := KX1.out.c 4 _ rfl
    have x5 := KX1.out.c 5 _ rfl

    go_wp2_with fail
    refine (toNode_any n _ HM.out (HL.out.below HX1.out)).mono ?_
    rintro e w2 ⟨hb2, g2, h2, l2, rfl, hd2, hs2, hp2, hg2, hh2⟩
    have HX2 : Hid _ := hide (below_trans HX1.out hb2)
    have KX2 : Hid _ := hide (KX1.out.below hb2)
    have HL2 : Hid _ := hide (And.intro hs2 hp2)
    have HD2 : Hid _ := hide hd2
    have hl2 := same_len hd2
    have HM2 : Hid _ := hide (same_small hd2 HM.out.2.2)
    clear hb2 hs2 hp2 hg2 hh2 hd2 HX1 KX1 x0 x1 x2 x3 x4 x5
    go_wp2_with fail
    rw [← hl2]
    refine (specNodeOk_any _ _ _ _ _ n.seen _ _ l2 _ _ HM.out.1 (by have := HM.out.2.1; omega) HM2.out HL2.out.1 HL2.out.2).mono ?_
    rw [node_same HD2.out]
    rintro e w3 ⟨rfl, hb3⟩
    have HX3 : Hid _ := hide (below_trans HX2.out hb3)
    have KX3 : Hid _ := hide (KX2.out.below hb3)
    clear hb3 HL2 HX2 KX2 HD2 HM2 hl2
    have x0 := KX3.out.c 0 _ rfl
    have x1 := KX3.out.c 1 _ rfl
    have x2 := KX3.out.c 2 _ rfl
    have x3 := KX3.out.c 3 _ rfl
    have x4 := KX3.out.c 4 _ rfl
    have x5 := KX3.out.c 5 _ rfl

    go_wp2_with fail
    refine (toNode_any n _ HM.out (HL.out.below HX3.out)).mono ?_
    rintro e w4 ⟨hb4, g4, h4, l4, rfl, hd4, hs4, hp4, hg4, hh4⟩
    have HX4 : Hid _ := hide (below_trans HX3.out hb4)
    have KX4 : Hid _ := hide (KX3.out.below hb4)
    have HL4 : Hid _ := hide (And.intro hs4 hp4)
    have HD4 : Hid _ := hide hd4
    have hl4 := same_len hd4
    have HM4 : Hid _ := hide (same_small hd4 HM.out.2.2)
    clear hb4 hs4 hp4 hg4 hh4 hd4 HX3 KX3 x0 x1 x2 x3 x4 x5
    have KY4 : Hid (Blk w4.heap.size [.int .i64 n.id, .int .i64 n.has, .int .i64 n.spent, .int .i64 n.earned, .slice (some ⟨g4, 0, none⟩) n.seen.length n.seen.length, .slice (some ⟨h4, 0, none⟩) n.peers.length n.peers.length] (w4.alloc (.cells #[.int .i64 n.id, .int .i64 n.has, .int .i64 n.spent, .int .i64 n.earned, .slice (some ⟨g4, 0, none⟩) n.seen.length n.seen.length, .slice (some ⟨h4, 0, none⟩) n.peers.length n.peers.length] 31))) := hide Blk.new
    have HY4 : Hid (Below w4.heap.size w4 (w4.alloc (.cells #[.int .i64 n.id, .int .i64 n.has, .int .i64 n.spent, .int .i64 n.earned, .slice (some ⟨g4, 0, none⟩) n.seen.length n.seen.length, .slice (some ⟨h4, 0, none⟩) n.peers.length n.peers.length] 31))) := hide (below_alloc (Below.refl _ _) _)
    go_wp2_with fail
    have HI : Hid _ := hide (implNodeOk_any n.id n.has n.spent n.earned (some ⟨g4, 0, none⟩) n.seen n.seen.length (some ⟨h4, 0, none⟩) l4 n.peers.length (w4.alloc (.cells #[.int .i64 n.id, .int .i64 n.has, .int .i64 n.spent, .int .i64 n.earned, .slice (some ⟨g4, 0, none⟩) n.seen.length n.seen.length, .slice (some ⟨h4, 0, none⟩) n.peers.length n.peers.length] 31)) HM.out.1 (by have := HM.out.2.1; omega) HM4.out (HL4.out.1.below HY4.out) (HL4.out.2.below HY4.out))
    rw [hl4, node_same HD4.out] at HI
    refine HI.out.mono ?_
    rintro e w6 ⟨rfl, hb6⟩
    have b46 := below_trans HY4.out hb6
    have HX6 : Hid _ := hide (below_trans HX4.out b46)
    have KX6 : Hid _ := hide (KX4.out.below b46)
    have KY6 : Hid _ := hide (KY4.out.below hb6)
    have HL6 : Hid _ := hide (And.intro (HL4.out.1.below b46) (HL4.out.2.below b46))
    clear hb6 b46 HY4 HX4 HL4 KX4 KY4 HI
    have hbn := bne_bool (nodeB n.d)
    go_wp2_with fail
    go_region_held (fun x => x.cell? ⟨w4.heap.size, 0, none⟩ = some (.int .i64 n.id) ∧ x.cell? ⟨w4.heap.size, 1, none⟩ = some (.int .i64 n.has) ∧ x.cell? ⟨w4.heap.size, 2, none⟩ = some (.int .i64 n.spent) ∧ x.cell? ⟨w4.heap.size, 3, none⟩ = some (.int .i64 n.earned) ∧ x.cell? ⟨w4.heap.size, 4, none⟩ = some (.slice (some ⟨g4, 0, none⟩) n.seen.length n.seen.length) ∧ x.cell? ⟨w4.heap.size, 5, none⟩ = some (.slice (some ⟨h4, 0, none⟩) n.peers.length n.peers.length) ∧ x.cell? ⟨w.heap.size, 0, none⟩ = some (.int .i64 n.id) ∧ x.cell? ⟨w.heap.size, 1, none⟩ = some (.int .i64 n.has) ∧ x.cell? ⟨w.heap.size, 2, none⟩ = some (.int .i64 n.spent) ∧ x.cell? ⟨w.heap.size, 3, none⟩ = some (.int .i64 n.earned) ∧ x.cell? ⟨w.heap.size, 4, none⟩ = some (.slice n.sa n.seen.length n.sc) ∧ x.cell? ⟨w.heap.size, 5, none⟩ = some (.slice n.pa n.peers.length n.pc) ∧ Hid (Below w6.heap.size w6 x))
      (first | assumption | exact S12.of KY6.out KX6.out (Below.refl _ _).drew | exact S12.on (by assumption) (by assumption))
      (first
        | (go_at_call 10; refine (toNode_any n _ HM.out (HL.out.below (below_trans HX6.out (S12.old (by assumption : S12 w4.heap.size w.heap.size (.int .i64 n.id) (.int .i64 n.has) (.int .i64 n.spent) (.int .i64 n.earned) (.slice (some ⟨g4, 0, none⟩) n.seen.length n.seen.length) (.slice (some ⟨h4, 0, none⟩) n.peers.length n.peers.length) (.int .i64 n.id) (.int .i64 n.has) (.int .i64 n.spent) (.int .i64 n.earned) (.slice n.sa n.seen.length n.sc) (.slice n.pa n.peers.length n.pc) w6 _))))).mono ?_; rintro e w7 ⟨hb7, g7, h7, l7, rfl, hd7, hs7, hp7, hg7, hh7⟩)
        | (go_at_call 12; refine (eqNode4 n l4 l7 HM.out HD4.out hd7 _ _ _ _ _ _ _ _ _ (HL6.out.1.below (S12.old (by assumption : S12 w4.heap.size w.heap.size (.int .i64 n.id) (.int .i64 n.has) (.int .i64 n.spent) (.int .i64 n.earned) (.slice (some ⟨g4, 0, none⟩) n.seen.length n.seen.length) (.slice (some ⟨h4, 0, none⟩) n.peers.length n.peers.length) (.int .i64 n.id) (.int .i64 n.has) (.int .i64 n.spent) (.int .i64 n.earned) (.slice n.sa n.seen.length n.sc) (.slice n.pa n.peers.length n.pc) w6 _))) hs7 (HL6.out.2.below (S12.old (by assumption : S12 w4.heap.size w.heap.size (.int .i64 n.id) (.int .i64 n.has) (.int .i64 n.spent) (.int .i64 n.earned) (.slice (some ⟨g4, 0, none⟩) n.seen.length n.seen.length) (.slice (some ⟨h4, 0, none⟩) n.peers.length n.peers.length) (.int .i64 n.id) (.int .i64 n.has) (.int .i64 n.spent) (.int .i64 n.earned) (.slice n.sa n.seen.length n.sc) (.slice n.pa n.peers.length n.pc) w6 _))) hp7).mono ?_; rintro e w8 ⟨rfl, hb8⟩))
    have HE : Hid (Below w.heap.size w w8) := hide (below_trans HX6.out (S12.old (by assumption : S12 w4.heap.size w.heap.size (.int .i64 n.id) (.int .i64 n.has) (.int .i64 n.spent) (.int .i64 n.earned) (.slice (some ⟨g4, 0, none⟩) n.seen.length n.seen.length) (.slice (some ⟨h4, 0, none⟩) n.peers.length n.peers.length) (.int .i64 n.id) (.int .i64 n.has) (.int .i64 n.spent) (.int .i64 n.earned) (.slice n.sa n.seen.length n.sc) (.slice n.pa n.peers.length n.pc) w6 w8)))
    clear hb7 hs7 hp7 hg7 hh7 hd7 hb8
    go_wp2
    go_ret
    exact ⟨rfl, HE.out⟩
end Go.Proofs.Ytpfghmghlklhgaa
