/- The laws' helper account. -/
import Derived.Test.YtjjoeajnhblacaaGreatDoorGr
import Derived.Test.YtjjoeajnhblacaaGreatDoorGn
namespace Go.Proofs.YtjjoeajnhblacaaGreatDoor
open Go.ChangeShapes Go.WideShapes Go.ChangeAt Go.RowKit
set_option linter.unusedVariables false
set_option maxRecDepth 100000
def accV (x : Acc) : Value := .agg #[.string x.name, .string x.cur, .int .i64 x.limit, .int .i64 x.posted]
def noA : Acc := ⟨⟨#[]⟩, ⟨#[]⟩, 0, 0⟩
theorem Pool.set4 {F : List Nat} {w x : World} {S : List (List Rs)} (h : Pool F w S x) {i b : Nat} {z0 z1 z2 z3 : Value} (hi : S[i]? = some [blk b [z0, z1, z2, z3]]) (v0 v1 v2 v3 : Value) :
    Pool F w (S.set i [blk b [v0, v1, v2, v3]]) ((((x.setCell ⟨b, 0, none⟩ v0).setCell ⟨b, 1, none⟩ v1).setCell ⟨b, 2, none⟩ v2).setCell ⟨b, 3, none⟩ v3) := by
  have hlen : i < S.length := (List.getElem?_eq_some_iff.1 hi).1
  have h0 := h.setBlk (i := i) hi 0 v0 (by simp)
  have h1 := h0.setBlk (i := i) (by rw [List.getElem?_set_self (by simpa using hlen)]) 1 v1 (by simp)
  have h2 := h1.setBlk (i := i) (by rw [List.getElem?_set_self (by simpa using hlen)]) 2 v2 (by simp)
  have h3 := h2.setBlk (i := i) (by rw [List.getElem?_set_self (by simpa using hlen)]) 3 v3 (by simp)
  simpa [List.set_set] using h3
def AccEnd (x : Acc) (b : Bool) (w : World) (e : Ending) (w' : World) : Prop := e = .returned (.tuple #[accV x, .bool b]) ∧ Below w.heap.size w w'
set_option maxHeartbeats 4000000 in
theorem account_any (p : LP) (D : Led) (nm : ByteArray) (w : World) (n1 : D.acc.length ≤ 1048576) (h : RowAt 4 accCells w p.aa D.acc) :
    Calls Tryz.prog 22 #[ledV p D, .string nm] w fun e w' => (∃ i, ∃ hi : i < D.acc.length, idxA D.acc nm = some i ∧ AccEnd D.acc[i] true w e w') ∨ (idxA D.acc nm = none ∧ AccEnd noA false w e w') := by
  have HR : Hid _ := hide h
  clear h
  unfold ledV
  go_enter Tryz.func22, Tryz.ntmps22
  go_upto_region 1 with fail
  refine cnm_world (fun W2 hW2 => ?_)
  have HP0 : Hid (Pool [] w [[blk w.heap.size (ledC p D)], [blk (w.heap.size + 1) [.string ⟨#[]⟩, .string ⟨#[]⟩, .int .i64 0, .int .i64 0]]] W2) := hide (by
    have p1 := (Pool.start w [[], []] rfl).newBlk (i := 0) rfl (ledC p D) 28
    have s1 : (w.alloc (.cells (ledC p D).toArray 28)).heap.size = w.heap.size + 1 := by simp
    have p2 := p1.newBlk (i := 1) rfl [.string ⟨#[]⟩, .string ⟨#[]⟩, .int .i64 0, .int .i64 0] 37
    rw [s1] at p2
    rw [hW2]
    exact p2)
  clear hW2
  go_wp2_with fail
  go_loopw [6] (fun i wr => ∃ k : Nat, k ≤ D.acc.length ∧ i = .int .i64 (k : Int) ∧ Hid (∀ j (hj : j < D.acc.length), j < k → D.acc[j].name ≠ nm) ∧ Hid (Pool [] w [[blk w.heap.size (ledC p D)], [blk (w.heap.size + 1) [.string ⟨#[]⟩, .string ⟨#[]⟩, .int .i64 0, .int .i64 0]]] wr)) (fun i wr => D.acc.length - (intOf i).toNat)
  case atStart => exact ⟨0, Nat.zero_le _, rfl, hide (fun j _ hj => by omega), HP0⟩
  case round =>
    clear HP0
    obtain ⟨k, hk, rfl, HN, HP⟩ := hrel
    have l_0 := (HP.out.blkAt (i := 0) rfl).c 0 _ rfl
    have r_0 := (HP.out.blkAt (i := 1) rfl).c 0 _ rfl
    have r_1 := (HP.out.blkAt (i := 1) rfl).c 1 _ rfl
    have r_2 := (HP.out.blkAt (i := 1) rfl).c 2 _ rfl
    have r_3 := (HP.out.blkAt (i := 1) rfl).c 3 _ rfl
    have f_0 := (HP.out.blkAt (i := 1) rfl).f 0
    have f_1 := (HP.out.blkAt (i := 1) rfl).f 1
    have f_2 := (HP.out.blkAt (i := 1) rfl).f 2
    have f_3 := (HP.out.blkAt (i := 1) rfl).f 3
    by_cases hlt : k < D.acc.length
    · have hlt' : (k : Int) < (D.acc.length : Int) := by omega
      obtain ⟨b, off, ha, hb, c0, c1, c2, c3⟩ := acc_row2 (HR.out.below HP.out.below) k hlt
      have HA : Hid _ := hide ha
      rw [ha] at l_0
      clear ha
      cases hq : ((D.acc[k]).name.toList == nm.toList)
      · have HS : Hid (∀ j (hj : j < D.acc.length), j < k + 1 → D.acc[j].name ≠ nm) := hide (fun j hj hjk => by
          rcases Nat.lt_or_ge j k with h | h
          · exact HN.out j hj h
          · obtain rfl : j = k := by omega
            intro e; rw [beq_bytes.2 e] at hq; cases hq)
        go_wp2
        exact ⟨⟨k + 1, by omega, by go_num, HS, HP⟩, by simp [intOf]; omega⟩
      · have HE : Hid _ := hide (beq_bytes.1 hq)
        have HQ := HP.out.set4 (i := 1) rfl (.string (D.acc[k]).name) (.string (D.acc[k]).cur) (.int .i64 (D.acc[k]).limit) (.int .i64 (D.acc[k]).posted)
        have e0 := (HQ.blkAt (i := 1) rfl).c 0 _ rfl
        have e1 := (HQ.blkAt (i := 1) rfl).c 1 _ rfl
        have e2 := (HQ.blkAt (i := 1) rfl).c 2 _ rfl
        have e3 := (HQ.blkAt (i := 1) rfl).c 3 _ rfl
        have HB : Hid _ := hide HQ.below
        clear HQ
        go_wp2
        refine bodyPost_ret (v := .tuple #[accV D.acc[k], .bool true]) (by simp [results, Tryz.results22, go_sem, e0, e1, e2, e3, accV]) rfl (.inl ⟨k, hlt, idxA_some hlt HE.out (fun j hj => HN.out j (by omega) hj), rfl, HB.out⟩)
    · have hlt' : ¬ (k : Int) < (D.acc.length : Int) := by omega
      have HQ := HP.out.set4 (i := 1) rfl (.string ⟨#[]⟩) (.string ⟨#[]⟩) (.int .i64 0) (.int .i64 0)
      have e0 := (HQ.blkAt (i := 1) rfl).c 0 _ rfl
      have e1 := (HQ.blkAt (i := 1) rfl).c 1 _ rfl
      have e2 := (HQ.blkAt (i := 1) rfl).c 2 _ rfl
      have e3 := (HQ.blkAt (i := 1) rfl).c 3 _ rfl
      have HB : Hid _ := hide HQ.below
      clear HQ
      go_wp2
      refine bodyPost_ret (v := .tuple #[accV noA, .bool false]) (by simp [results, Tryz.results22, go_sem, e0, e1, e2, e3, accV, noA]) rfl (.inr ⟨idxA_none (fun i hi => HN.out i hi (by omega)), rfl, HB.out⟩)
end Go.Proofs.YtjjoeajnhblacaaGreatDoor
