/- The contract of the program's do: what an act makes of a node of the call's own. -/
import Derived.Test.YtkcpoibhlnjldaaAcIC
import Derived.Test.YtkcpoibhlnjldaaAcID
import Derived.Test.YtkcpoibhlnjldaaAcIE
import Derived.Test.YtkcpoibhlnjldaaAcIF
namespace Go.Proofs.Ytkcpoibhlnjldaa
open Go.Value renaming int → J, slice → V
open Go.IntKind renaming i64 → Z
open Go.ChangeShapes Go.WideShapes Go.ChangeAt Go.RowKit
set_option linter.unusedVariables false
set_option maxRecDepth 100000
/-- what a right act makes of a node -/
def doM (D : NdD) (a : Ac) : NdD × List Mg × Int :=
 if a.kind = 1 ∨ a.kind = 2 then ((moneyM D a).1, [], (moneyM D a).2)
 else if a.kind = 4 then takeM D a.msg
 else if a.kind = 5 then (D, tickM D, 0)
 else giveM D a.to a.amt
/-- a node that lies in a block, with its rows -/
def ndB (B : Nat) (n : Nd) : List Rs := blk B (ndCells n) :: ndR n
def DoEnd (B : Nat) (n : Nd) (R : NdD × List Mg × Int) (w : World) (e : Ending) (w' : World) : Prop := ∃ (n2 : Nd) (ma : Option Addr) (mc : Nat), e = .returned (.tuple #[V ma R.2.1.length mc, J Z R.2.2]) ∧ n2.d = R.1 ∧ Pool (fps (ndB B n)) w [ndB B n2, [orow 5 mgCells ma mc R.2.1]] w'
theorem moneyM_shape (D : NdD) (a : Ac) : (moneyM D a).1.id = D.id ∧ (moneyM D a).1.peers = D.peers := by
 unfold moneyM
 split
 ·exact ⟨rfl, rfl⟩
 ·split
  ·exact ⟨rfl, rfl⟩
  ·split <;> exact ⟨rfl, rfl⟩
theorem ta_spendAct (v : Value) (w : World) : (Instr.typeAssert (.iface 81 v) 50 81 true).run Try.prog w = .ok (.tuple #[v, .bool true]) w := by kernel_rfl
theorem ta_earnAct_spendAct (v : Value) (w : World) : (Instr.typeAssert (.iface 82 v) 50 81 true).run Try.prog w = .ok (.tuple #[.agg #[J Z 0, J Z 0], .bool false]) w := by kernel_rfl
theorem ta_earnAct (v : Value) (w : World) : (Instr.typeAssert (.iface 82 v) 50 82 true).run Try.prog w = .ok (.tuple #[v, .bool true]) w := by kernel_rfl
theorem ta_giveAct_spendAct (v : Value) (w : World) : (Instr.typeAssert (.iface 84 v) 50 81 true).run Try.prog w = .ok (.tuple #[.agg #[J Z 0, J Z 0], .bool false]) w := by kernel_rfl
theorem ta_giveAct_earnAct (v : Value) (w : World) : (Instr.typeAssert (.iface 84 v) 50 82 true).run Try.prog w = .ok (.tuple #[.agg #[J Z 0, J Z 0], .bool false]) w := by kernel_rfl
theorem ta_giveAct (v : Value) (w : World) : (Instr.typeAssert (.iface 84 v) 50 84 true).run Try.prog w = .ok (.tuple #[v, .bool true]) w := by kernel_rfl
theorem ta_parcelAct_spendAct (v : Value) (w : World) : (Instr.typeAssert (.iface 95 v) 50 81 true).run Try.prog w = .ok (.tuple #[.agg #[J Z 0, J Z 0], .bool false]) w := by kernel_rfl
theorem ta_parcelAct_earnAct (v : Value) (w : World) : (Instr.typeAssert (.iface 95 v) 50 82 true).run Try.prog w = .ok (.tuple #[.agg #[J Z 0, J Z 0], .bool false]) w := by kernel_rfl
theorem ta_parcelAct_giveAct (v : Value) (w : World) : (Instr.typeAssert (.iface 95 v) 50 84 true).run Try.prog w = .ok (.tuple #[.agg #[J Z 0, J Z 0], .bool false]) w := by kernel_rfl
theorem ta_parcelAct (v : Value) (w : World) : (Instr.typeAssert (.iface 95 v) 50 95 true).run Try.prog w = .ok (.tuple #[v, .bool true]) w := by kernel_rfl
theorem ta_ackAct_spendAct (v : Value) (w : World) : (Instr.typeAssert (.iface 98 v) 50 81 true).run Try.prog w = .ok (.tuple #[.agg #[J Z 0, J Z 0], .bool false]) w := by kernel_rfl
theorem ta_ackAct_earnAct (v : Value) (w : World) : (Instr.typeAssert (.iface 98 v) 50 82 true).run Try.prog w = .ok (.tuple #[.agg #[J Z 0, J Z 0], .bool false]) w := by kernel_rfl
theorem ta_ackAct_giveAct (v : Value) (w : World) : (Instr.typeAssert (.iface 98 v) 50 84 true).run Try.prog w = .ok (.tuple #[.agg #[J Z 0, J Z 0], .bool false]) w := by kernel_rfl
theorem ta_ackAct_parcelAct (v : Value) (w : World) : (Instr.typeAssert (.iface 98 v) 50 95 true).run Try.prog w = .ok (.tuple #[.agg #[J Z 0, J Z 0, J Z 0], .bool false]) w := by kernel_rfl
theorem ta_ackAct (v : Value) (w : World) : (Instr.typeAssert (.iface 98 v) 50 98 true).run Try.prog w = .ok (.tuple #[v, .bool true]) w := by kernel_rfl
theorem ta_tickAct_spendAct (v : Value) (w : World) : (Instr.typeAssert (.iface 87 v) 50 81 true).run Try.prog w = .ok (.tuple #[.agg #[J Z 0, J Z 0], .bool false]) w := by kernel_rfl
theorem ta_tickAct_earnAct (v : Value) (w : World) : (Instr.typeAssert (.iface 87 v) 50 82 true).run Try.prog w = .ok (.tuple #[.agg #[J Z 0, J Z 0], .bool false]) w := by kernel_rfl
theorem ta_tickAct_giveAct (v : Value) (w : World) : (Instr.typeAssert (.iface 87 v) 50 84 true).run Try.prog w = .ok (.tuple #[.agg #[J Z 0, J Z 0], .bool false]) w := by kernel_rfl
theorem ta_tickAct_parcelAct (v : Value) (w : World) : (Instr.typeAssert (.iface 87 v) 50 95 true).run Try.prog w = .ok (.tuple #[.agg #[J Z 0, J Z 0, J Z 0], .bool false]) w := by kernel_rfl
theorem ta_tickAct_ackAct (v : Value) (w : World) : (Instr.typeAssert (.iface 87 v) 50 98 true).run Try.prog w = .ok (.tuple #[.agg #[J Z 0, J Z 0], .bool false]) w := by kernel_rfl
set_option maxHeartbeats 4000000 in
theorem do_spend (B : Nat) (n : Nd) (aid ato amt : Int) (m : Mg) (w : World) (hno : nodeB n.d = true) (hs : SmN n) (st : Star (ndB B n) w) (ha : 1 ≤ amt ∧ amt ≤ 1000000000000) :
  Calls Try.prog 16 #[.pointer (some ⟨B, 0, none⟩), .iface 81 (.agg #[J Z aid, J Z amt])] w fun e w' => DoEnd B n (doM n.d (⟨1, aid, ato, amt, m⟩ : Ac)) w e w' := by
 have HO : Hid _ := hide hno
 have HS : Hid _ := hide hs
 have HM : Hid (doM n.d (⟨1, aid, ato, amt, m⟩ : Ac) = ((moneyM n.d ⟨1, aid, 0, amt, ⟨0, 0, 0, 0, 0⟩⟩).1, [], (moneyM n.d ⟨1, aid, 0, amt, ⟨0, 0, 0, 0, 0⟩⟩).2)) := hide rfl
 have hp0 := ((Pool.of st).cast (S' := [[blk B [J Z n.id, J Z n.has, J Z n.spent, J Z n.earned, V n.sa n.seen.length n.sc, V n.pa n.peers.length n.pc], row 70 2 (V n.sa n.seen.length n.sc) n.seen.length (n.seen.flatMap snCells)], orow 4 prCells n.pa n.pc n.peers :: endsL n.peers, [], [], []]) (by simp [ndB, ndR, ndCells])).newBlk (i := 2) rfl [.pointer (some ⟨B, 0, none⟩)] 90
 obtain ⟨P0, hP0⟩ : ∃ P0, P0 = w.heap.size := ⟨_, rfl⟩
 obtain ⟨w1, hw1⟩ : ∃ w1, w1 = w.alloc (.cells #[.pointer (some ⟨B, 0, none⟩)] 90) := ⟨_, rfl⟩
 have hp1 : Pool (fps (ndB B n)) w [[blk B [J Z n.id, J Z n.has, J Z n.spent, J Z n.earned, V n.sa n.seen.length n.sc, V n.pa n.peers.length n.pc], row 70 2 (V n.sa n.seen.length n.sc) n.seen.length (n.seen.flatMap snCells)], orow 4 prCells n.pa n.pc n.peers :: endsL n.peers, [blk P0 [.pointer (some ⟨B, 0, none⟩)]], [], []] w1 := by rw [hP0, hw1]; exact hp0
 have hp2 := hp1.newBlk (i := 3) rfl [J Z aid, J Z amt] 81
 obtain ⟨P1, hP1⟩ : ∃ P1, P1 = w1.heap.size := ⟨_, rfl⟩
 obtain ⟨w2, hw2⟩ : ∃ w2, w2 = w1.alloc (.cells #[J Z aid, J Z amt] 81) := ⟨_, rfl⟩
 have hp3 : Pool (fps (ndB B n)) w [[blk B [J Z n.id, J Z n.has, J Z n.spent, J Z n.earned, V n.sa n.seen.length n.sc, V n.pa n.peers.length n.pc], row 70 2 (V n.sa n.seen.length n.sc) n.seen.length (n.seen.flatMap snCells)], orow 4 prCells n.pa n.pc n.peers :: endsL n.peers, [blk P0 [.pointer (some ⟨B, 0, none⟩)]], [blk P1 [J Z aid, J Z amt]], []] w2 := by rw [hP1, hw2]; exact hp2
 have hp4 := (hp3.merge (i := 0) (j := 2) (by decide) rfl rfl).merge (i := 0) (j := 3) (by decide) rfl rfl
 have HP4 : Hid _ := hide hp4
 have c0 : (w.alloc (.cells #[.pointer (some ⟨B, 0, none⟩)] 90)).cell? ⟨w.heap.size, 0, none⟩ = some (.pointer (some ⟨B, 0, none⟩)) := World.cell?_alloc_at _ _ _ _ rfl
 have HW1 : Hid _ := hide hw1
 have HW2 : Hid _ := hide hw2
 have HP0 : Hid _ := hide hP0
 have HP1 : Hid _ := hide hP1
 clear hp0 hp1 hp2 hp3 hp4 st hno hs hw1 hw2 hP0 hP1
 have t_spendAct := ta_spendAct
 go_enter Try.func16, Try.ntmps16
 go_wp2_with fail
 rw [← HP0.out, ← HW1.out]
 first | rw [← HP1.out] | rw [show P0 + 1 = P1 from by rw [HP1.out, HW1.out, HP0.out]; simp]
 rw [← HW2.out]
 have hso := seen_ok HO.out
 refine (onceM1_any B P0 P1 n aid amt w2 (nodeB_in HO.out).2.2.1 hso.1 hso.2 (nodeB_in HO.out).1 ha (HP4.out.get (i := 0) rfl)).mono ?_
 rintro e w3 ⟨sa2, sc2, rfl, hP5⟩
 obtain ⟨MM, hMM⟩ : ∃ MM, MM = moneyM n.d ⟨1, aid, 0, amt, ⟨0, 0, 0, 0, 0⟩⟩ := ⟨_, rfl⟩
 have hsh := moneyM_shape n.d ⟨1, aid, 0, amt, ⟨0, 0, 0, 0, 0⟩⟩
 rw [← hMM] at hP5 HM hsh ⊢
 have hp6 := HP4.out.call (i := 0) (rs' := [blk B [J Z MM.1.id, J Z MM.1.has, J Z MM.1.spent, J Z MM.1.earned, V sa2 MM.1.seen.length sc2, V n.pa n.peers.length n.pc], row 70 2 (V sa2 MM.1.seen.length sc2) MM.1.seen.length (MM.1.seen.flatMap snCells), blk P0 [.pointer (some ⟨B, 0, none⟩)], blk P1 [J Z aid, J Z amt]]) rfl (by
  have e : fps ([blk B [J Z n.id, J Z n.has, J Z n.spent, J Z n.earned, V n.sa n.seen.length n.sc, V n.pa n.peers.length n.pc], row 70 2 (V n.sa n.seen.length n.sc) n.seen.length (n.seen.flatMap snCells)] ++ [blk P0 [.pointer (some ⟨B, 0, none⟩)]] ++ [blk P1 [J Z aid, J Z amt]]) = B :: (V n.sa n.seen.length n.sc).ownBlock.toList ++ [P0, P1] := by simp [fps, blk, row]
  rw [e]
  exact hP5.cast (by simp))
 have HP6 : Hid _ := hide hp6
 have HSH : Hid _ := hide hsh
 clear hp6 hP5 HP4 hMM hsh
 go_wp2
 exact bodyPost_ret (v := .tuple #[V none 0 0, J Z MM.2]) (by simp [results, Try.results16, go_sem]) rfl ⟨⟨MM.1.id, MM.1.has, MM.1.spent, MM.1.earned, sa2, sc2, MM.1.seen, n.pa, n.pc, n.peers⟩, none, 0, (by rw [HM.out] <;> rfl), (by
  rw [HM.out]
  show (⟨MM.1.id, MM.1.has, MM.1.spent, MM.1.earned, MM.1.seen, n.peers.map Pr.d⟩ : NdD) = MM.1
  rw [show n.peers.map Pr.d = MM.1.peers from HSH.out.2.symm]), (by
  rw [HM.out]
  have q := HP6.out
  have q2 : Pool (fps (ndB B n)) w [[blk B [J Z MM.1.id, J Z MM.1.has, J Z MM.1.spent, J Z MM.1.earned, V sa2 MM.1.seen.length sc2, V n.pa n.peers.length n.pc], row 70 2 (V sa2 MM.1.seen.length sc2) MM.1.seen.length (MM.1.seen.flatMap snCells)], orow 4 prCells n.pa n.pc n.peers :: endsL n.peers, [], [blk P0 [.pointer (some ⟨B, 0, none⟩)], blk P1 [J Z aid, J Z amt]], []] w3 := by
   refine q.perm ?_
   simp only [List.set_cons_zero, List.set_cons_succ, List.flatten_cons, List.flatten_nil, List.nil_append, List.append_nil, List.cons_append]
   refine (List.Perm.cons _ (List.Perm.cons _ ?_))
   refine List.Perm.trans (List.perm_append_comm (l₁ := [_, _]) (l₂ := _ :: endsL n.peers)) ?_
   simp
  exact ((q2.drop (i := 3) rfl).noMsg (i := 4) rfl).cast (by simp [ndB, ndR, ndCells]))⟩
set_option maxHeartbeats 4000000 in
theorem do_earn (B : Nat) (n : Nd) (aid ato amt : Int) (m : Mg) (w : World) (hno : nodeB n.d = true) (hs : SmN n) (st : Star (ndB B n) w) (ha : 1 ≤ amt ∧ amt ≤ 1000000000000) :
  Calls Try.prog 16 #[.pointer (some ⟨B, 0, none⟩), .iface 82 (.agg #[J Z aid, J Z amt])] w fun e w' => DoEnd B n (doM n.d (⟨2, aid, ato, amt, m⟩ : Ac)) w e w' := by
 have HO : Hid _ := hide hno
 have HS : Hid _ := hide hs
 have HM : Hid (doM n.d (⟨2, aid, ato, amt, m⟩ : Ac) = ((moneyM n.d ⟨2, aid, 0, amt, ⟨0, 0, 0, 0, 0⟩⟩).1, [], (moneyM n.d ⟨2, aid, 0, amt, ⟨0, 0, 0, 0, 0⟩⟩).2)) := hide rfl
 have hp0 := ((Pool.of st).cast (S' := [[blk B [J Z n.id, J Z n.has, J Z n.spent, J Z n.earned, V n.sa n.seen.length n.sc, V n.pa n.peers.length n.pc], row 70 2 (V n.sa n.seen.length n.sc) n.seen.length (n.seen.flatMap snCells)], orow 4 prCells n.pa n.pc n.peers :: endsL n.peers, [], [], []]) (by simp [ndB, ndR, ndCells])).newBlk (i := 2) rfl [.pointer (some ⟨B, 0, none⟩)] 90
 obtain ⟨P0, hP0⟩ : ∃ P0, P0 = w.heap.size := ⟨_, rfl⟩
 obtain ⟨w1, hw1⟩ : ∃ w1, w1 = w.alloc (.cells #[.pointer (some ⟨B, 0, none⟩)] 90) := ⟨_, rfl⟩
 have hp1 : Pool (fps (ndB B n)) w [[blk B [J Z n.id, J Z n.has, J Z n.spent, J Z n.earned, V n.sa n.seen.length n.sc, V n.pa n.peers.length n.pc], row 70 2 (V n.sa n.seen.length n.sc) n.seen.length (n.seen.flatMap snCells)], orow 4 prCells n.pa n.pc n.peers :: endsL n.peers, [blk P0 [.pointer (some ⟨B, 0, none⟩)]], [], []] w1 := by rw [hP0, hw1]; exact hp0
 have hp2 := hp1.newBlk (i := 3) rfl [J Z aid, J Z amt] 82
 obtain ⟨P1, hP1⟩ : ∃ P1, P1 = w1.heap.size := ⟨_, rfl⟩
 obtain ⟨w2, hw2⟩ : ∃ w2, w2 = w1.alloc (.cells #[J Z aid, J Z amt] 82) := ⟨_, rfl⟩
 have hp3 : Pool (fps (ndB B n)) w [[blk B [J Z n.id, J Z n.has, J Z n.spent, J Z n.earned, V n.sa n.seen.length n.sc, V n.pa n.peers.length n.pc], row 70 2 (V n.sa n.seen.length n.sc) n.seen.length (n.seen.flatMap snCells)], orow 4 prCells n.pa n.pc n.peers :: endsL n.peers, [blk P0 [.pointer (some ⟨B, 0, none⟩)]], [blk P1 [J Z aid, J Z amt]], []] w2 := by rw [hP1, hw2]; exact hp2
 have hp4 := (hp3.merge (i := 0) (j := 2) (by decide) rfl rfl).merge (i := 0) (j := 3) (by decide) rfl rfl
 have HP4 : Hid _ := hide hp4
 have c0 : (w.alloc (.cells #[.pointer (some ⟨B, 0, none⟩)] 90)).cell? ⟨w.heap.size, 0, none⟩ = some (.pointer (some ⟨B, 0, none⟩)) := World.cell?_alloc_at _ _ _ _ rfl
 have HW1 : Hid _ := hide hw1
 have HW2 : Hid _ := hide hw2
 have HP0 : Hid _ := hide hP0
 have HP1 : Hid _ := hide hP1
 clear hp0 hp1 hp2 hp3 hp4 st hno hs hw1 hw2 hP0 hP1
 have t_spendAct := ta_earnAct_spendAct
 have t_earnAct := ta_earnAct
 go_enter Try.func16, Try.ntmps16
 go_wp2_with fail
 rw [← HP0.out, ← HW1.out]
 first | rw [← HP1.out] | rw [show P0 + 1 = P1 from by rw [HP1.out, HW1.out, HP0.out]; simp]
 rw [← HW2.out]
 have hso := seen_ok HO.out
 refine (onceM2_any B P0 P1 n aid amt w2 (nodeB_in HO.out).2.2.1 hso.1 hso.2 (nodeB_in HO.out).1 ha (HP4.out.get (i := 0) rfl)).mono ?_
 rintro e w3 ⟨sa2, sc2, rfl, hP5⟩
 obtain ⟨MM, hMM⟩ : ∃ MM, MM = moneyM n.d ⟨2, aid, 0, amt, ⟨0, 0, 0, 0, 0⟩⟩ := ⟨_, rfl⟩
 have hsh := moneyM_shape n.d ⟨2, aid, 0, amt, ⟨0, 0, 0, 0, 0⟩⟩
 rw [← hMM] at hP5 HM hsh ⊢
 have hp6 := HP4.out.call (i := 0) (rs' := [blk B [J Z MM.1.id, J Z MM.1.has, J Z MM.1.spent, J Z MM.1.earned, V sa2 MM.1.seen.length sc2, V n.pa n.peers.length n.pc], row 70 2 (V sa2 MM.1.seen.length sc2) MM.1.seen.length (MM.1.seen.flatMap snCells), blk P0 [.pointer (some ⟨B, 0, none⟩)], blk P1 [J Z aid, J Z amt]]) rfl (by
  have e : fps ([blk B [J Z n.id, J Z n.has, J Z n.spent, J Z n.earned, V n.sa n.seen.length n.sc, V n.pa n.peers.length n.pc], row 70 2 (V n.sa n.seen.length n.sc) n.seen.length (n.seen.flatMap snCells)] ++ [blk P0 [.pointer (some ⟨B, 0, none⟩)]] ++ [blk P1 [J Z aid, J Z amt]]) = B :: (V n.sa n.seen.length n.sc).ownBlock.toList ++ [P0, P1] := by simp [fps, blk, row]
  rw [e]
  exact hP5.cast (by simp))
 have HP6 : Hid _ := hide hp6
 have HSH : Hid _ := hide hsh
 clear hp6 hP5 HP4 hMM hsh
 go_wp2
 exact bodyPost_ret (v := .tuple #[V none 0 0, J Z MM.2]) (by simp [results, Try.results16, go_sem]) rfl ⟨⟨MM.1.id, MM.1.has, MM.1.spent, MM.1.earned, sa2, sc2, MM.1.seen, n.pa, n.pc, n.peers⟩, none, 0, (by rw [HM.out] <;> rfl), (by
  rw [HM.out]
  show (⟨MM.1.id, MM.1.has, MM.1.spent, MM.1.earned, MM.1.seen, n.peers.map Pr.d⟩ : NdD) = MM.1
  rw [show n.peers.map Pr.d = MM.1.peers from HSH.out.2.symm]), (by
  rw [HM.out]
  have q := HP6.out
  have q2 : Pool (fps (ndB B n)) w [[blk B [J Z MM.1.id, J Z MM.1.has, J Z MM.1.spent, J Z MM.1.earned, V sa2 MM.1.seen.length sc2, V n.pa n.peers.length n.pc], row 70 2 (V sa2 MM.1.seen.length sc2) MM.1.seen.length (MM.1.seen.flatMap snCells)], orow 4 prCells n.pa n.pc n.peers :: endsL n.peers, [], [blk P0 [.pointer (some ⟨B, 0, none⟩)], blk P1 [J Z aid, J Z amt]], []] w3 := by
   refine q.perm ?_
   simp only [List.set_cons_zero, List.set_cons_succ, List.flatten_cons, List.flatten_nil, List.nil_append, List.append_nil, List.cons_append]
   refine (List.Perm.cons _ (List.Perm.cons _ ?_))
   refine List.Perm.trans (List.perm_append_comm (l₁ := [_, _]) (l₂ := _ :: endsL n.peers)) ?_
   simp
  exact ((q2.drop (i := 3) rfl).noMsg (i := 4) rfl).cast (by simp [ndB, ndR, ndCells]))⟩
theorem smN_hs {n : Nd} (h : SmN n) : SmL n.peers := h.2
set_option maxHeartbeats 4000000 in
theorem do_give (B : Nat) (n : Nd) (aid ato amt : Int) (m : Mg) (w : World) (hno : nodeB n.d = true) (hs : SmN n) (st : Star (ndB B n) w) (ha : 1 ≤ amt ∧ amt ≤ 1000000000000) :
  Calls Try.prog 16 #[.pointer (some ⟨B, 0, none⟩), .iface 84 (.agg #[J Z ato, J Z amt])] w fun e w' => DoEnd B n (doM n.d (⟨3, aid, ato, amt, m⟩ : Ac)) w e w' := by
 have HO : Hid _ := hide hno
 have HS : Hid _ := hide hs
 rw [show doM n.d (⟨3, aid, ato, amt, m⟩ : Ac) = giveM n.d ato amt from rfl]
 obtain ⟨RR, hRR⟩ : ∃ RR, RR = giveM n.d ato amt := ⟨_, rfl⟩
 rw [← hRR]
 have HRR : Hid _ := hide hRR
 clear hRR
 have hp0 := ((Pool.of st).perm (S' := [blk B [J Z n.id, J Z n.has, J Z n.spent, J Z n.earned, V n.sa n.seen.length n.sc, V n.pa n.peers.length n.pc] :: orow 4 prCells n.pa n.pc n.peers :: endsL n.peers, [row 70 2 (V n.sa n.seen.length n.sc) n.seen.length (n.seen.flatMap snCells)], [], [], []]) (by
  simp only [ndB, ndR, ndCells, List.flatten_cons, List.flatten_nil, List.append_nil]
  refine List.Perm.cons _ ?_
  exact (List.perm_append_comm (l₁ := [_]) (l₂ := _ :: endsL n.peers)))).newBlk (i := 2) rfl [.pointer (some ⟨B, 0, none⟩)] 90
 obtain ⟨P0, hP0⟩ : ∃ P0, P0 = w.heap.size := ⟨_, rfl⟩
 obtain ⟨w1, hw1⟩ : ∃ w1, w1 = w.alloc (.cells #[.pointer (some ⟨B, 0, none⟩)] 90) := ⟨_, rfl⟩
 have hp1 : Pool (fps (ndB B n)) w [blk B [J Z n.id, J Z n.has, J Z n.spent, J Z n.earned, V n.sa n.seen.length n.sc, V n.pa n.peers.length n.pc] :: orow 4 prCells n.pa n.pc n.peers :: endsL n.peers, [row 70 2 (V n.sa n.seen.length n.sc) n.seen.length (n.seen.flatMap snCells)], [blk P0 [.pointer (some ⟨B, 0, none⟩)]], [], []] w1 := by rw [hP0, hw1]; exact hp0
 have hp2 := hp1.newBlk (i := 3) rfl [J Z ato, J Z amt] 84
 obtain ⟨P1, hP1⟩ : ∃ P1, P1 = w1.heap.size := ⟨_, rfl⟩
 obtain ⟨w2, hw2⟩ : ∃ w2, w2 = w1.alloc (.cells #[J Z ato, J Z amt] 84) := ⟨_, rfl⟩
 have hp3 : Pool (fps (ndB B n)) w [blk B [J Z n.id, J Z n.has, J Z n.spent, J Z n.earned, V n.sa n.seen.length n.sc, V n.pa n.peers.length n.pc] :: orow 4 prCells n.pa n.pc n.peers :: endsL n.peers, [row 70 2 (V n.sa n.seen.length n.sc) n.seen.length (n.seen.flatMap snCells)], [blk P0 [.pointer (some ⟨B, 0, none⟩)]], [blk P1 [J Z ato, J Z amt]], []] w2 := by rw [hP1, hw2]; exact hp2
 have HP4 : Hid _ := hide hp3
 have c0 : (w.alloc (.cells #[.pointer (some ⟨B, 0, none⟩)] 90)).cell? ⟨w.heap.size, 0, none⟩ = some (.pointer (some ⟨B, 0, none⟩)) := World.cell?_alloc_at _ _ _ _ rfl
 have HW1 : Hid _ := hide hw1
 have HP0 : Hid _ := hide hP0
 have HW2 : Hid _ := hide hw2
 have HP1 : Hid _ := hide hP1
 clear hp0 hp1 hp2 hp3 st hno hs hw1 hw2 hP0 hP1
 have t_spendAct := ta_giveAct_spendAct
 have t_earnAct := ta_giveAct_earnAct
 have t_giveAct := ta_giveAct
 go_enter Try.func16, Try.ntmps16
 go_wp2_with fail
 rw [← HP0.out, ← HW1.out]
 first | rw [← HP1.out] | rw [show P0 + 1 = P1 from by rw [HP1.out, HW1.out, HP0.out]; simp] | skip
 rw [← HW2.out]
 refine (give_pool B n ato amt w2 (smN_hs HS.out) (nodeB_in HO.out).1.1 ha (HP4.out.get (i := 0) rfl)).mono ?_
 rintro e w3 ⟨ma, mc, rfl, hpost⟩
 rw [← HRR.out] at hpost ⊢
 obtain ⟨L, hL1, hL2, hP5⟩ := hpost
 have hp6 := HP4.out.call (i := 0) (rs' := blk B [J Z n.id, J Z RR.1.has, J Z n.spent, J Z n.earned, V n.sa n.seen.length n.sc, V n.pa L.length n.pc] :: orow 4 prCells n.pa n.pc L :: endsL L ++ [orow 5 mgCells ma mc RR.2.1]) rfl (hP5.cast (by simp))
 have HP6 : Hid _ := hide hp6
 have HL1 : Hid _ := hide hL1
 clear hp6 hP5 HP4 hL1 hL2
 go_wp2
 exact bodyPost_ret (v := .tuple #[V ma RR.2.1.length mc, J Z RR.2.2]) (by simp [results, Try.results16, go_sem]) rfl ⟨⟨n.id, RR.1.has, n.spent, n.earned, n.sa, n.sc, n.seen, n.pa, n.pc, L⟩, ma, mc, rfl, HL1.out.symm, (by
  have q2 : Pool (fps (ndB B n)) w [blk B [J Z n.id, J Z RR.1.has, J Z n.spent, J Z n.earned, V n.sa n.seen.length n.sc, V n.pa L.length n.pc] :: row 70 2 (V n.sa n.seen.length n.sc) n.seen.length (n.seen.flatMap snCells) :: orow 4 prCells n.pa n.pc L :: endsL L, [orow 5 mgCells ma mc RR.2.1], [blk P0 [.pointer (some ⟨B, 0, none⟩)]], [blk P1 [J Z ato, J Z amt]], []] w3 := by
   refine HP6.out.perm ?_
   simp only [List.set_cons_zero, List.flatten_cons, List.flatten_nil, List.append_nil, List.cons_append, List.append_assoc, List.nil_append]
   refine List.Perm.cons _ ?_
   refine List.Perm.trans (List.Perm.cons _ (List.Perm.append_left _ (List.Perm.swap _ _ _))) ?_
   exact List.perm_middle (l₁ := _ :: endsL L)
  exact (((q2.drop (i := 3) rfl).drop (i := 2) rfl)).cast (by simp [ndB, ndR, ndCells]))⟩
set_option maxHeartbeats 4000000 in
theorem do_parcel (B : Nat) (n : Nd) (aid ato amt m_fr m_to m_seq m_amt : Int) (w : World) (hno : nodeB n.d = true) (hs : SmN n) (st : Star (ndB B n) w)  :
  Calls Try.prog 16 #[.pointer (some ⟨B, 0, none⟩), .iface 95 (.agg #[J Z m_fr, J Z m_seq, J Z m_amt])] w fun e w' => DoEnd B n (doM n.d (⟨4, aid, ato, amt, ⟨m_fr, m_to, 1, m_seq, m_amt⟩⟩ : Ac)) w e w' := by
 have HO : Hid _ := hide hno
 have HS : Hid _ := hide hs
 rw [show doM n.d (⟨4, aid, ato, amt, ⟨m_fr, m_to, 1, m_seq, m_amt⟩⟩ : Ac) = takeM n.d ⟨m_fr, n.id, 1, m_seq, m_amt⟩ from rfl]
 obtain ⟨RR, hRR⟩ : ∃ RR, RR = takeM n.d ⟨m_fr, n.id, 1, m_seq, m_amt⟩ := ⟨_, rfl⟩
 rw [← hRR]
 have HRR : Hid _ := hide hRR
 clear hRR
 have hp0 := ((Pool.of st).perm (S' := [blk B [J Z n.id, J Z n.has, J Z n.spent, J Z n.earned, V n.sa n.seen.length n.sc, V n.pa n.peers.length n.pc] :: orow 4 prCells n.pa n.pc n.peers :: endsL n.peers, [row 70 2 (V n.sa n.seen.length n.sc) n.seen.length (n.seen.flatMap snCells)], [], [], []]) (by
  simp only [ndB, ndR, ndCells, List.flatten_cons, List.flatten_nil, List.append_nil]
  refine List.Perm.cons _ ?_
  exact (List.perm_append_comm (l₁ := [_]) (l₂ := _ :: endsL n.peers)))).newBlk (i := 2) rfl [.pointer (some ⟨B, 0, none⟩)] 90
 obtain ⟨P0, hP0⟩ : ∃ P0, P0 = w.heap.size := ⟨_, rfl⟩
 obtain ⟨w1, hw1⟩ : ∃ w1, w1 = w.alloc (.cells #[.pointer (some ⟨B, 0, none⟩)] 90) := ⟨_, rfl⟩
 have hp1 : Pool (fps (ndB B n)) w [blk B [J Z n.id, J Z n.has, J Z n.spent, J Z n.earned, V n.sa n.seen.length n.sc, V n.pa n.peers.length n.pc] :: orow 4 prCells n.pa n.pc n.peers :: endsL n.peers, [row 70 2 (V n.sa n.seen.length n.sc) n.seen.length (n.seen.flatMap snCells)], [blk P0 [.pointer (some ⟨B, 0, none⟩)]], [], []] w1 := by rw [hP0, hw1]; exact hp0
 have hp2 := hp1.newBlk (i := 3) rfl [J Z m_fr, J Z m_seq, J Z m_amt] 95
 obtain ⟨P1, hP1⟩ : ∃ P1, P1 = w1.heap.size := ⟨_, rfl⟩
 obtain ⟨w2, hw2⟩ : ∃ w2, w2 = w1.alloc (.cells #[J Z m_fr, J Z m_seq, J Z m_amt] 95) := ⟨_, rfl⟩
 have hp3 : Pool (fps (ndB B n)) w [blk B [J Z n.id, J Z n.has, J Z n.spent, J Z n.earned, V n.sa n.seen.length n.sc, V n.pa n.peers.length n.pc] :: orow 4 prCells n.pa n.pc n.peers :: endsL n.peers, [row 70 2 (V n.sa n.seen.length n.sc) n.seen.length (n.seen.flatMap snCells)], [blk P0 [.pointer (some ⟨B, 0, none⟩)]], [blk P1 [J Z m_fr, J Z m_seq, J Z m_amt]], []] w2 := by rw [hP1, hw2]; exact hp2
 have HP4 : Hid _ := hide hp3
 have c0 : (w.alloc (.cells #[.pointer (some ⟨B, 0, none⟩)] 90)).cell? ⟨w.heap.size, 0, none⟩ = some (.pointer (some ⟨B, 0, none⟩)) := World.cell?_alloc_at _ _ _ _ rfl
 have HW1 : Hid _ := hide hw1
 have HP0 : Hid _ := hide hP0
 have HW2 : Hid _ := hide hw2
 have HP1 : Hid _ := hide hP1
 clear hp0 hp1 hp2 hp3 st hno hs hw1 hw2 hP0 hP1
 have t_spendAct := ta_parcelAct_spendAct
 have t_earnAct := ta_parcelAct_earnAct
 have t_giveAct := ta_parcelAct_giveAct
 have t_parcelAct := ta_parcelAct
 go_enter Try.func16, Try.ntmps16
 go_wp2_with fail
 rw [← HP0.out, ← HW1.out]
 first | rw [← HP1.out] | rw [show P0 + 1 = P1 from by rw [HP1.out, HW1.out, HP0.out]; simp] | skip
 rw [← HW2.out]
 refine (receive_pool B n m_fr m_seq m_amt w2 (smN_hs HS.out) (nodeB_in HO.out).1.1 (HP4.out.get (i := 0) rfl)).mono ?_
 rintro e w3 ⟨ma, mc, rfl, hpost⟩
 rw [← HRR.out] at hpost ⊢
 obtain ⟨L, hL1, hL2, hP5⟩ := hpost
 have hp6 := HP4.out.call (i := 0) (rs' := blk B [J Z n.id, J Z RR.1.has, J Z n.spent, J Z n.earned, V n.sa n.seen.length n.sc, V n.pa L.length n.pc] :: orow 4 prCells n.pa n.pc L :: endsL L ++ [orow 5 mgCells ma mc RR.2.1]) rfl (hP5.cast (by simp))
 have HP6 : Hid _ := hide hp6
 have HL1 : Hid _ := hide hL1
 clear hp6 hP5 HP4 hL1 hL2
 go_wp2
 exact bodyPost_ret (v := .tuple #[V ma RR.2.1.length mc, J Z RR.2.2]) (by simp [results, Try.results16, go_sem]) rfl ⟨⟨n.id, RR.1.has, n.spent, n.earned, n.sa, n.sc, n.seen, n.pa, n.pc, L⟩, ma, mc, rfl, HL1.out.symm, (by
  have q2 : Pool (fps (ndB B n)) w [blk B [J Z n.id, J Z RR.1.has, J Z n.spent, J Z n.earned, V n.sa n.seen.length n.sc, V n.pa L.length n.pc] :: row 70 2 (V n.sa n.seen.length n.sc) n.seen.length (n.seen.flatMap snCells) :: orow 4 prCells n.pa n.pc L :: endsL L, [orow 5 mgCells ma mc RR.2.1], [blk P0 [.pointer (some ⟨B, 0, none⟩)]], [blk P1 [J Z m_fr, J Z m_seq, J Z m_amt]], []] w3 := by
   refine HP6.out.perm ?_
   simp only [List.set_cons_zero, List.flatten_cons, List.flatten_nil, List.append_nil, List.cons_append, List.append_assoc, List.nil_append]
   refine List.Perm.cons _ ?_
   refine List.Perm.trans (List.Perm.cons _ (List.Perm.append_left _ (List.Perm.swap _ _ _))) ?_
   exact List.perm_middle (l₁ := _ :: endsL L)
  exact (((q2.drop (i := 3) rfl).drop (i := 2) rfl)).cast (by simp [ndB, ndR, ndCells]))⟩
set_option maxHeartbeats 4000000 in
theorem do_ack (B : Nat) (n : Nd) (aid ato amt m_fr m_to m_seq m_amt : Int) (w : World) (hno : nodeB n.d = true) (hs : SmN n) (st : Star (ndB B n) w)  :
  Calls Try.prog 16 #[.pointer (some ⟨B, 0, none⟩), .iface 98 (.agg #[J Z m_fr, J Z m_seq])] w fun e w' => DoEnd B n (doM n.d (⟨4, aid, ato, amt, ⟨m_fr, m_to, 2, m_seq, m_amt⟩⟩ : Ac)) w e w' := by
 have HO : Hid _ := hide hno
 have HS : Hid _ := hide hs
 rw [show doM n.d (⟨4, aid, ato, amt, ⟨m_fr, m_to, 2, m_seq, m_amt⟩⟩ : Ac) = takeM n.d ⟨m_fr, n.id, 2, m_seq, 0⟩ from rfl]
 obtain ⟨RR, hRR⟩ : ∃ RR, RR = takeM n.d ⟨m_fr, n.id, 2, m_seq, 0⟩ := ⟨_, rfl⟩
 rw [← hRR]
 have HRR : Hid _ := hide hRR
 clear hRR
 have hp0 := ((Pool.of st).perm (S' := [blk B [J Z n.id, J Z n.has, J Z n.spent, J Z n.earned, V n.sa n.seen.length n.sc, V n.pa n.peers.length n.pc] :: orow 4 prCells n.pa n.pc n.peers :: endsL n.peers, [row 70 2 (V n.sa n.seen.length n.sc) n.seen.length (n.seen.flatMap snCells)], [], [], []]) (by
  simp only [ndB, ndR, ndCells, List.flatten_cons, List.flatten_nil, List.append_nil]
  refine List.Perm.cons _ ?_
  exact (List.perm_append_comm (l₁ := [_]) (l₂ := _ :: endsL n.peers)))).newBlk (i := 2) rfl [.pointer (some ⟨B, 0, none⟩)] 90
 obtain ⟨P0, hP0⟩ : ∃ P0, P0 = w.heap.size := ⟨_, rfl⟩
 obtain ⟨w1, hw1⟩ : ∃ w1, w1 = w.alloc (.cells #[.pointer (some ⟨B, 0, none⟩)] 90) := ⟨_, rfl⟩
 have hp1 : Pool (fps (ndB B n)) w [blk B [J Z n.id, J Z n.has, J Z n.spent, J Z n.earned, V n.sa n.seen.length n.sc, V n.pa n.peers.length n.pc] :: orow 4 prCells n.pa n.pc n.peers :: endsL n.peers, [row 70 2 (V n.sa n.seen.length n.sc) n.seen.length (n.seen.flatMap snCells)], [blk P0 [.pointer (some ⟨B, 0, none⟩)]], [], []] w1 := by rw [hP0, hw1]; exact hp0
 have hp2 := hp1.newBlk (i := 3) rfl [J Z m_fr, J Z m_seq] 98
 obtain ⟨P1, hP1⟩ : ∃ P1, P1 = w1.heap.size := ⟨_, rfl⟩
 obtain ⟨w2, hw2⟩ : ∃ w2, w2 = w1.alloc (.cells #[J Z m_fr, J Z m_seq] 98) := ⟨_, rfl⟩
 have hp3 : Pool (fps (ndB B n)) w [blk B [J Z n.id, J Z n.has, J Z n.spent, J Z n.earned, V n.sa n.seen.length n.sc, V n.pa n.peers.length n.pc] :: orow 4 prCells n.pa n.pc n.peers :: endsL n.peers, [row 70 2 (V n.sa n.seen.length n.sc) n.seen.length (n.seen.flatMap snCells)], [blk P0 [.pointer (some ⟨B, 0, none⟩)]], [blk P1 [J Z m_fr, J Z m_seq]], []] w2 := by rw [hP1, hw2]; exact hp2
 have HP4 : Hid _ := hide hp3
 have c0 : (w.alloc (.cells #[.pointer (some ⟨B, 0, none⟩)] 90)).cell? ⟨w.heap.size, 0, none⟩ = some (.pointer (some ⟨B, 0, none⟩)) := World.cell?_alloc_at _ _ _ _ rfl
 have HW1 : Hid _ := hide hw1
 have HP0 : Hid _ := hide hP0
 have HW2 : Hid _ := hide hw2
 have HP1 : Hid _ := hide hP1
 clear hp0 hp1 hp2 hp3 st hno hs hw1 hw2 hP0 hP1
 have t_spendAct := ta_ackAct_spendAct
 have t_earnAct := ta_ackAct_earnAct
 have t_giveAct := ta_ackAct_giveAct
 have t_parcelAct := ta_ackAct_parcelAct
 have t_ackAct := ta_ackAct
 go_enter Try.func16, Try.ntmps16
 go_wp2_with fail
 rw [← HP0.out, ← HW1.out]
 first | rw [← HP1.out] | rw [show P0 + 1 = P1 from by rw [HP1.out, HW1.out, HP0.out]; simp] | skip
 rw [← HW2.out]
 refine (ack_pool B n m_fr m_seq w2 (smN_hs HS.out) (HP4.out.get (i := 0) rfl)).mono ?_
 rintro e w3 ⟨rfl, hnil, hpost⟩
 rw [← HRR.out] at hpost hnil ⊢
 have HNL : Hid _ := hide hnil
 clear hnil
 obtain ⟨ma, hma⟩ : ∃ ma : Option Addr, ma = none := ⟨_, rfl⟩
 obtain ⟨mc, hmc⟩ : ∃ mc : Nat, mc = 0 := ⟨_, rfl⟩
 have HMA : Hid _ := hide hma
 have HMC : Hid _ := hide hmc
 rw [← hma, ← hmc] at hpost
 clear hma hmc
 obtain ⟨L, hL1, hL2, hP5⟩ := hpost
 have hp6 := HP4.out.call (i := 0) (rs' := blk B [J Z n.id, J Z RR.1.has, J Z n.spent, J Z n.earned, V n.sa n.seen.length n.sc, V n.pa L.length n.pc] :: orow 4 prCells n.pa n.pc L :: endsL L ++ [orow 5 mgCells ma mc RR.2.1]) rfl (hP5.cast (by simp))
 have HP6 : Hid _ := hide hp6
 have HL1 : Hid _ := hide hL1
 clear hp6 hP5 HP4 hL1 hL2
 go_wp2
 exact bodyPost_ret (v := .tuple #[V none 0 0, J Z RR.2.2]) (by simp [results, Try.results16, go_sem]) rfl ⟨⟨n.id, RR.1.has, n.spent, n.earned, n.sa, n.sc, n.seen, n.pa, n.pc, L⟩, ma, mc, (by rw [HNL.out, HMA.out, HMC.out]; rfl), HL1.out.symm, (by
  have q2 : Pool (fps (ndB B n)) w [blk B [J Z n.id, J Z RR.1.has, J Z n.spent, J Z n.earned, V n.sa n.seen.length n.sc, V n.pa L.length n.pc] :: row 70 2 (V n.sa n.seen.length n.sc) n.seen.length (n.seen.flatMap snCells) :: orow 4 prCells n.pa n.pc L :: endsL L, [orow 5 mgCells ma mc RR.2.1], [blk P0 [.pointer (some ⟨B, 0, none⟩)]], [blk P1 [J Z m_fr, J Z m_seq]], []] w3 := by
   refine HP6.out.perm ?_
   simp only [List.set_cons_zero, List.flatten_cons, List.flatten_nil, List.append_nil, List.cons_append, List.append_assoc, List.nil_append]
   refine List.Perm.cons _ ?_
   refine List.Perm.trans (List.Perm.cons _ (List.Perm.append_left _ (List.Perm.swap _ _ _))) ?_
   exact List.perm_middle (l₁ := _ :: endsL L)
  exact (((q2.drop (i := 3) rfl).drop (i := 2) rfl)).cast (by simp [ndB, ndR, ndCells]))⟩
set_option maxHeartbeats 4000000 in
theorem do_tick (B : Nat) (n : Nd) (aid ato amt : Int) (m : Mg) (w : World) (hno : nodeB n.d = true) (hs : SmN n) (st : Star (ndB B n) w)  :
  Calls Try.prog 16 #[.pointer (some ⟨B, 0, none⟩), .iface 87 (.agg #[])] w fun e w' => DoEnd B n (doM n.d (⟨5, aid, ato, amt, m⟩ : Ac)) w e w' := by
 have HO : Hid _ := hide hno
 have HS : Hid _ := hide hs
 rw [show doM n.d (⟨5, aid, ato, amt, m⟩ : Ac) = (n.d, tickM n.d, 0) from rfl]
 have hp0 := ((Pool.of st).perm (S' := [blk B [J Z n.id, J Z n.has, J Z n.spent, J Z n.earned, V n.sa n.seen.length n.sc, V n.pa n.peers.length n.pc] :: orow 4 prCells n.pa n.pc n.peers :: endsL n.peers, [row 70 2 (V n.sa n.seen.length n.sc) n.seen.length (n.seen.flatMap snCells)], [], [], []]) (by
  simp only [ndB, ndR, ndCells, List.flatten_cons, List.flatten_nil, List.append_nil]
  refine List.Perm.cons _ ?_
  exact (List.perm_append_comm (l₁ := [_]) (l₂ := _ :: endsL n.peers)))).newBlk (i := 2) rfl [.pointer (some ⟨B, 0, none⟩)] 90
 obtain ⟨P0, hP0⟩ : ∃ P0, P0 = w.heap.size := ⟨_, rfl⟩
 obtain ⟨w1, hw1⟩ : ∃ w1, w1 = w.alloc (.cells #[.pointer (some ⟨B, 0, none⟩)] 90) := ⟨_, rfl⟩
 have hp1 : Pool (fps (ndB B n)) w [blk B [J Z n.id, J Z n.has, J Z n.spent, J Z n.earned, V n.sa n.seen.length n.sc, V n.pa n.peers.length n.pc] :: orow 4 prCells n.pa n.pc n.peers :: endsL n.peers, [row 70 2 (V n.sa n.seen.length n.sc) n.seen.length (n.seen.flatMap snCells)], [blk P0 [.pointer (some ⟨B, 0, none⟩)]], [], []] w1 := by rw [hP0, hw1]; exact hp0
 have HP4 : Hid _ := hide hp1
 have c0 : (w.alloc (.cells #[.pointer (some ⟨B, 0, none⟩)] 90)).cell? ⟨w.heap.size, 0, none⟩ = some (.pointer (some ⟨B, 0, none⟩)) := World.cell?_alloc_at _ _ _ _ rfl
 have HW1 : Hid _ := hide hw1
 have HP0 : Hid _ := hide hP0
 clear hp0 hp1 st hno hs hw1 hP0
 have t_spendAct := ta_tickAct_spendAct
 have t_earnAct := ta_tickAct_earnAct
 have t_giveAct := ta_tickAct_giveAct
 have t_parcelAct := ta_tickAct_parcelAct
 have t_ackAct := ta_tickAct_ackAct
 go_enter Try.func16, Try.ntmps16
 go_wp2_with fail
 rw [← HP0.out, ← HW1.out]
 have hst := HP4.out.get (i := 0) rfl
 have hB : Blk B [J Z n.id, J Z n.has, J Z n.spent, J Z n.earned, V n.sa n.seen.length n.sc, V n.pa n.peers.length n.pc] w1 := hst.all (blk B [J Z n.id, J Z n.has, J Z n.spent, J Z n.earned, V n.sa n.seen.length n.sc, V n.pa n.peers.length n.pc]) (by simp)
 have hPr : OwnRow 4 prCells w1 (gOf n.pa) n.pa n.pc n.peers := hst.all (orow 4 prCells n.pa n.pc n.peers) (by simp)
 have hPe : PeersAt w1 n.pa n.peers := ⟨hPr.rows, fun p hp => by
  have q : OwnRow 2 prcCells w1 (gOf p.a) p.a p.cap p.E.out := hst.all (orow 2 prcCells p.a p.cap p.E.out) (by simp only [endsL, List.mem_cons, List.mem_map]; exact .inr (.inr ⟨_, hp, rfl⟩))
  exact q.rows⟩
 refine (openParcels_any B n w1 HO.out hB hPe).mono ?_
 rintro e w3 ⟨ma, mc, rfl, hP5⟩
 have hp6 := HP4.out.call (i := 3) (rs := []) rfl hP5
 have HP6 : Hid _ := hide hp6
 clear hp6 hP5 HP4 hst hB hPr hPe
 go_wp2
 exact bodyPost_ret (v := .tuple #[V ma (tickM n.d).length mc, J Z 0]) (by simp [results, Try.results16, go_sem]) rfl ⟨n, ma, mc, rfl, rfl, (by
  have q2 : Pool (fps (ndB B n)) w [blk B [J Z n.id, J Z n.has, J Z n.spent, J Z n.earned, V n.sa n.seen.length n.sc, V n.pa n.peers.length n.pc] :: row 70 2 (V n.sa n.seen.length n.sc) n.seen.length (n.seen.flatMap snCells) :: orow 4 prCells n.pa n.pc n.peers :: endsL n.peers, [orow 5 mgCells ma mc (tickM n.d)], [blk P0 [.pointer (some ⟨B, 0, none⟩)]]] w3 := by
   refine HP6.out.perm ?_
   simp only [List.set_cons_zero, List.set_cons_succ, List.flatten_cons, List.flatten_nil, List.append_nil, List.cons_append, List.nil_append]
   refine List.Perm.cons _ ?_
   refine List.Perm.trans (List.perm_middle (l₁ := _ :: endsL n.peers)) (List.Perm.cons _ (List.Perm.cons _ (List.Perm.append_left _ (List.Perm.swap _ _ _))))
  exact (q2.drop (i := 2) rfl).cast (by simp [ndB, ndR, ndCells]))⟩
theorem do_any (B : Nat) (n : Nd) (a : Ac) (w : World) (hno : nodeB n.d = true) (hs : SmN n) (st : Star (ndB B n) w) (hf : actB n.id a = true) :
  Calls Try.prog 16 #[.pointer (some ⟨B, 0, none⟩), actV a] w fun e w' => DoEnd B n (doM n.d a) w e w' := by
 obtain ⟨kd, aid, ato, amt, ⟨m_fr, m_to, m_kd, m_seq, m_amt⟩⟩ := a
 rcases actB_kinds hf with q | q | q | q | q
 ·have q : kd = 1 := q
  subst q
  exact do_spend B n aid ato amt _ w hno hs st (actB_money (.inl rfl) hf)
 ·have q : kd = 2 := q
  subst q
  exact do_earn B n aid ato amt _ w hno hs st (actB_money (.inr rfl) hf)
 ·have q : kd = 3 := q
  subst q
  exact do_give B n aid ato amt _ w hno hs st (actB_give rfl hf)
 ·have q : kd = 4 := q
  subst q
  rcases actB_take rfl hf with m | m
  ·have m : m_kd = 1 := m
   subst m
   exact do_parcel B n aid ato amt m_fr m_to m_seq m_amt w hno hs st
  ·have m : m_kd = 2 := m
   subst m
   exact do_ack B n aid ato amt m_fr m_to m_seq m_amt w hno hs st
 ·have q : kd = 5 := q
  subst q
  exact do_tick B n aid ato amt _ w hno hs st
end Go.Proofs.Ytkcpoibhlnjldaa
