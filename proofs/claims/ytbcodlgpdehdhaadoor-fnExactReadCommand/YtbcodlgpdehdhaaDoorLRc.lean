/- The law FnExactReadCommand. -/
import Derived.Test.YtbcodlgpdehdhaaDoorRcN
import Derived.Test.YtbcodlgpdehdhaaDoorEqC
namespace Go.Proofs.YtbcodlgpdehdhaaDoor
open Go.ChangeShapes Go.WideShapes Go.ChangeAt Go.RowKit
set_option linter.unusedVariables false
set_option maxRecDepth 100000
theorem specReadCommand_any (l : List UInt8) (w : World) (hs : l.length ≤ 1048576) : Calls Tryd.prog 4 #[.string (bs l)] w fun e w' => RsEnd l w e w' := by
  by_cases h3 : 3 ≤ (wordsL l).length
  · exact sread_long l w hs h3
  · refine (sread_short l w hs (by omega)).mono ?_
    rintro e w' ⟨rfl, hb⟩
    exact ⟨hb, .inr ⟨.inl (by omega), rfl⟩⟩
def YesEnd (w : World) (e : Ending) (w' : World) : Prop := e = .returned (.bool true) ∧ Below w.heap.size w w'
set_option maxHeartbeats 8000000 in
theorem walkReadCommand (s : ByteArray) (t : TypeId) (v : Value) (w : World) (E : Env t v w) : Calls Tryd.prog 3 #[.string s] w fun e w' => YesEnd w e w' := by
  obtain ⟨l, rfl⟩ : ∃ l, s = bs l := ⟨_, bs_of rfl⟩
  have HE : Hid _ := hide E
  have hsz : (bs l).size = l.length := bs_size l
  clear E
  by_cases hbig : (1048576 : Int) < (l.length : Int)
  · go_enter Tryd.func3, Tryd.ntmps3
    go_wp2
    go_ret
    exact ⟨rfl, Below.refl _ _⟩
  · have hbig' : ¬ (1048576 : Int) < (l.length : Int) := hbig
    go_enter Tryd.func3, Tryd.ntmps3
    go_wp2_with fail
    refine (specReadCommand_any l w (by omega)).mono ?_
    rintro e w1 ⟨hb1, h1⟩
    obtain ⟨e2, he2⟩ : ∃ e2 : Ending → Prop, e2 = fun e => (∃ c, ParseOk l c [] ∧ e = .returned (.tuple #[c.v, .bool true])) ∨ ((∀ c, ¬ ParseOk l c []) ∧ e = .returned (.tuple #[.agg #[.int .i64 0, .int .i64 0, .string ⟨#[]⟩, .string ⟨#[]⟩, .int .i64 0, .int .i64 0], .bool false])) := ⟨_, rfl⟩
    obtain ⟨c, b, hc, hall⟩ : ∃ (c : Cm) (b : Bool), e = .returned (.tuple #[c.v, .bool b]) ∧ ∀ e', e2 e' → e' = .returned (.tuple #[c.v, .bool b]) := by
      by_cases q : ∃ c, ParseOk l c []
      · obtain ⟨c, hc⟩ := q
        obtain ⟨c', b', h5, h6⟩ := both (.inl ⟨c, hc, rfl⟩) h1
        refine ⟨c', b', h6, fun e' h' => ?_⟩
        rw [he2] at h'
        obtain ⟨c2, b2, h7, h8⟩ := both h' h1
        rw [h7, ← h8, h6]
      · obtain ⟨c', b', h5, h6⟩ := both (.inr ⟨fun c hc => q ⟨c, hc⟩, rfl⟩) h1
        refine ⟨c', b', h6, fun e' h' => ?_⟩
        rw [he2] at h'
        obtain ⟨c2, b2, h7, h8⟩ := both h' h1
        rw [h7, ← h8, h6]
    have HAll : Hid _ := hide hall
    have HE2 : Hid _ := hide he2
    subst hc
    have HB1 : Hid _ := hide hb1
    clear hb1 h1 hall he2
    unfold Cm.v
    go_upto_region 4 with fail
    refine cnm_world (fun W2 hW2 => ?_)
    have HP2 : Hid (Pool [] w [[blk w1.heap.size c.cells], []] W2) := hide (by
      have p1 := ((Pool.start w [[], []] rfl).keep HB1.out).newBlk (i := 0) rfl c.cells 23
      rw [hW2]; exact p1)
    clear hW2 HB1
    go_wp2_with fail
    refine (implReadCommand_any l t v _ (HE.out.below HP2.out.below) (by omega)).mono ?_
    rintro e w3 ⟨hb3, h3⟩
    have h4 := HAll.out e (by rw [HE2.out]; exact h3)
    subst h4
    have HP3 : Hid (Pool [] w [[blk w1.heap.size c.cells], []] w3) := hide (HP2.out.keep hb3)
    clear hb3 h3 HP2 HAll HE2
    unfold Cm.v
    go_upto_region 5 with fail
    refine cnm_world (fun W4 hW4 => ?_)
    have HP4 : Hid (Pool [] w [[blk w1.heap.size c.cells], [blk w3.heap.size c.cells]] W4) := hide (by
      have p1 := HP3.out.newBlk (i := 1) rfl c.cells 23
      rw [hW4]; exact p1)
    clear hW4 HP3
    obtain ⟨⟨z0, z1, z2, z3, z4, z5⟩, _⟩ := HP4.out.cells6 (i := 0) rfl
    obtain ⟨⟨x0, x1, x2, x3, x4, x5⟩, _⟩ := HP4.out.cells6 (i := 1) rfl
    have hbb : (b != b) = false := by simp
    go_wp2_with fail
    refine (eqCommand_any c.id c.kind c.fr c.«to» c.am c.ref _).mono ?_
    rintro e w5 ⟨rfl, hb5⟩
    have HB5 : Hid (Below w.heap.size w w5) := hide (below_trans HP4.out.below hb5)
    clear hb5
    go_wp2_with fail
    go_ret
    exact ⟨rfl, HB5.out⟩
end Go.Proofs.YtbcodlgpdehdhaaDoor
