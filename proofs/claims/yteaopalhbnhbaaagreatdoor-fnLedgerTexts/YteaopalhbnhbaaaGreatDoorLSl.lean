/- Two ledgers that are one, by sameLedger. -/
import Derived.Test.YteaopalhbnhbaaaGreatDoorLSm
import Derived.Test.YteaopalhbnhbaaaGreatDoorGe
namespace Go.Proofs.YteaopalhbnhbaaaGreatDoor
open Go.ChangeShapes Go.WideShapes Go.ChangeAt Go.RowKit
set_option linter.unusedVariables false
set_option maxRecDepth 100000
set_option maxHeartbeats 4000000 in
theorem sameLedger_any (p q : LP) (Y : Led) (w : World) (n1 : Y.acc.length ≤ 1048576) (n2 : Y.hold.length ≤ 1048576) (n3 : Y.seen.length ≤ 1048576)
    (h : RowAt 4 accCells w p.aa Y.acc ∧ RowAt 4 hldCells w p.ha Y.hold ∧ RowAt 2 snCells w p.sa Y.seen) (h' : RowAt 4 accCells w q.aa Y.acc ∧ RowAt 4 hldCells w q.ha Y.hold ∧ RowAt 2 snCells w q.sa Y.seen) :
    Calls Tryz.prog 11 #[ledV p Y, ledV q Y] w fun e w' => e = .returned (.bool true) ∧ Below w.heap.size w w' := by
  have HR : Hid _ := hide h
  have HR' : Hid _ := hide h'
  obtain ⟨W2, hW2⟩ : ∃ W2, W2 = (w.alloc (.cells #[.slice p.aa Y.acc.length p.ca, .slice p.ha Y.hold.length p.ch, .slice p.sa Y.seen.length p.cs] 28)).alloc (.cells #[.slice q.aa Y.acc.length q.ca, .slice q.ha Y.hold.length q.ch, .slice q.sa Y.seen.length q.cs] 28) := ⟨_, rfl⟩
  have HP0 : Hid (Pool [] w [[blk w.heap.size (ledC p Y)], [blk (w.heap.size + 1) (ledC q Y)]] W2) := hide (by
    have p1 := (Pool.start w [[], []] rfl).newBlk (i := 0) rfl (ledC p Y) 28
    have s1 : (w.alloc (.cells (ledC p Y).toArray 28)).heap.size = w.heap.size + 1 := by simp
    have p2 := p1.newBlk (i := 1) rfl (ledC q Y) 28
    rw [s1] at p2
    rw [hW2]
    exact p2)
  have HW2 : Hid (_ = W2) := hide hW2.symm
  clear h h' hW2
  unfold ledV
  go_enter Tryz.func11, Tryz.ntmps11
  go_upto_region 1 with fail
  rw [HW2.out]
  have d0 := (HP0.out.blkAt (i := 0) rfl).c 0 _ rfl
  have g0 := (HP0.out.blkAt (i := 1) rfl).c 0 _ rfl
  go_wp2_with fail
  refine (sameAccounts_any p.aa q.aa Y.acc _ _ _ n1 (HR.out.1.below HP0.out.below) (HR'.out.1.below HP0.out.below)).mono ?_
  rintro e w3 ⟨rfl, hb⟩
  have HP1 : Hid (Pool [] w [[blk w.heap.size (ledC p Y)], [blk (w.heap.size + 1) (ledC q Y)]] w3) := hide (HP0.out.keep hb)
  clear hb d0 g0 HP0
  have d1 := (HP1.out.blkAt (i := 0) rfl).c 1 _ rfl
  have g1 := (HP1.out.blkAt (i := 1) rfl).c 1 _ rfl
  go_wp2_with fail
  refine (sameHolds_any p.ha q.ha Y.hold _ _ _ n2 (HR.out.2.1.below HP1.out.below) (HR'.out.2.1.below HP1.out.below)).mono ?_
  rintro e w4 ⟨rfl, hb⟩
  have HP2 : Hid (Pool [] w [[blk w.heap.size (ledC p Y)], [blk (w.heap.size + 1) (ledC q Y)]] w4) := hide (HP1.out.keep hb)
  clear hb d1 g1 HP1
  have d2 := (HP2.out.blkAt (i := 0) rfl).c 2 _ rfl
  have g2 := (HP2.out.blkAt (i := 1) rfl).c 2 _ rfl
  go_wp2_with fail
  refine (sameSeen_any p.sa q.sa Y.seen _ _ _ n3 (HR.out.2.2.below HP2.out.below) (HR'.out.2.2.below HP2.out.below)).mono ?_
  rintro e w5 ⟨rfl, hb⟩
  have HP3 : Hid (Pool [] w [[blk w.heap.size (ledC p Y)], [blk (w.heap.size + 1) (ledC q Y)]] w5) := hide (HP2.out.keep hb)
  clear hb d2 g2 HP2
  go_wp2_with fail
  go_ret
  exact ⟨rfl, HP3.out.below⟩
end Go.Proofs.YteaopalhbnhbaaaGreatDoor
