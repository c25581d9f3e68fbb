/- The contracts of Whole and Flying, of the program and of its model. -/
import Derived.Test.YtilacamcedjbmaaIW4
namespace Go.Proofs.Ytilacamcedjbmaa
open Go.ChangeShapes Go.WideShapes Go.ChangeAt Go.RowKit
set_option linter.unusedVariables false
set_option maxRecDepth 100000
def flyV (D : WdD) : Int := if worldB D then flyS D.nodes D.nodes else -1
theorem worldB_parts {st : Int} {l : List Nd} {ms : List Mg} (h : worldB (⟨st, l.map Nd.d, ms⟩ : WdD) = true) : l.length ≤ 8 ∧ NdsOk l ∧ allTo (lnksB (l.map Nd.d)) l.length = true ∧ ms.length ≤ 150 := by
  simp only [worldB, Bool.and_eq_true, decide_eq_true_eq, List.length_map] at h
  exact ⟨h.1.1.1.1.1.2, ndsOk_of h.1.1.1.2, h.1.1.2, h.1.1.1.1.2⟩

set_option maxHeartbeats 2000000 in
theorem implFlying_any (st : Int) (na : Option Addr) (l : List Nd) (nc : Nat) (ma : Option Addr) (ms : List Mg) (mc : Nat) (w : World) (hl : l.length ≤ 1048576) (hms : ms.length ≤ 1048576) (hsm : ∀ n ∈ l, SmN n) (h : NodesAt w na l) (hm : RowAt 5 mgCells w ma ms) :
    Calls Try.prog 10 #[.agg #[.int .i64 st, .slice na l.length nc, .slice ma ms.length mc]] w fun e w' => e = .returned (.int .i64 (flyV ⟨st, l.map Nd.d, ms⟩)) ∧ Below w.heap.size w w' := by
  have HL : Hid _ := hide h
  have HM : Hid _ := hide hm
  have HSm : Hid _ := hide hsm
  clear h hm hsm
  have HB0 : Hid (Below w.heap.size w (w.alloc (.cells #[.int .i64 st, .slice na l.length nc, .slice ma ms.length mc] 29))) := hide (below_alloc (Below.refl _ _) _)
  have KX0 : Hid (Blk w.heap.size [.int .i64 st, .slice na l.length nc, .slice ma ms.length mc] (w.alloc (.cells #[.int .i64 st, .slice na l.length nc, .slice ma ms.length mc] 29))) := hide Blk.new
  go_enter Try.func10, Try.ntmps10
  go_wp2_with fail
  refine (implWorldOk_any st _ l _ _ ms _ _ hl hms HSm.out (HL.out.below HB0.out) (HM.out.below HB0.out)).mono ?_
  rintro e w1 ⟨rfl, hb1⟩
  have HB1 : Hid _ := hide (below_trans HB0.out hb1)
  have x0 := (KX0.out.below hb1).c 0 _ rfl
  have x1 := (KX0.out.below hb1).c 1 _ rfl
  have x2 := (KX0.out.below hb1).c 2 _ rfl
  clear hb1
  cases q : worldB (⟨st, l.map Nd.d, ms⟩ : WdD)
  · have HR : Hid (flyV (⟨st, l.map Nd.d, ms⟩ : WdD) = -1) := hide (by unfold flyV; rw [q]; rfl)
    go_wp2
    go_ret
    exact ⟨by rw [HR.out]; rfl, HB1.out⟩
  · have HR : Hid (flyV (⟨st, l.map Nd.d, ms⟩ : WdD) = flyS (l.map Nd.d) (l.map Nd.d)) := hide (by unfold flyV; rw [q]; rfl)
    have HP : Hid _ := hide (worldB_parts q)
    clear q
    go_wp2_with fail
    refine (onItsWay_any _ l _ _ HP.out.1 HP.out.2.1 HP.out.2.2.1 (HL.out.below HB1.out)).mono ?_
    rintro e w2 ⟨rfl, hb2⟩
    have HB2 : Hid _ := hide (below_trans HB1.out hb2)
    clear hb2
    go_wp2
    go_ret
    exact ⟨by rw [HR.out]; rfl, HB2.out⟩
end Go.Proofs.Ytilacamcedjbmaa
