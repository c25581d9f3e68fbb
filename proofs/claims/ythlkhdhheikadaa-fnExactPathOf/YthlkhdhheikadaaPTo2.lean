/- The laws' helpers over lists of numbers, at longer lists. -/
import Derived.Test.YthlkhdhheikadaaPTo
namespace Go.Proofs.Ythlkhdhheikadaa
open Go.ChangeShapes Go.WideShapes Go.ChangeAt Go.RowKit
set_option linter.unusedVariables false
set_option maxHeartbeats 2000000 in
theorem eqInts_any (a c : Option Addr) (l : List Int) (ca cc : Nat) (w : World) (hn : l.length ≤ 4000000000) (h : RowAt 1 intCells w a l) (h' : RowAt 1 intCells w c l) :
    Calls Try.prog 25 #[.slice a l.length ca, .slice c l.length cc] w fun e w' => YesEnd w e w' := by
  have HL : Hid _ := hide h
  have HL' : Hid _ := hide h'
  clear h h'
  have hln : ((l.length : Int) != (l.length : Int)) = false := by simp
  go_enter Try.func25, Try.ntmps25
  go_wp2
  go_loopw [5] (fun i wr => ∃ k : Nat, k ≤ l.length ∧ i = .int .i64 (k : Int) ∧ Below w.heap.size w wr) (fun i wr => l.length - (intOf i).toNat)
  case atStart => exact ⟨0, Nat.zero_le _, rfl, Below.refl _ _⟩
  case round =>
    obtain ⟨k, hk, rfl, HB⟩ := hrel
    by_cases hlt : k < l.length
    · obtain ⟨b, off, rfl, hb, d0⟩ := int_row (HL.out.below HB) k hlt
      obtain ⟨b2, off2, rfl, hc, e0⟩ := int_row (HL'.out.below HB) k hlt
      have hlt' : (k : Int) < (l.length : Int) := by omega
      have hz : (l[k] != l[k]) = false := by simp
      go_wp2_with fail
      go_quiet (fail)
      go_wp2
      exact ⟨⟨k + 1, by omega, by go_num, below_drewN HB _⟩, by simp [intOf]; omega⟩
    · have hk' : ¬ (k : Int) < (l.length : Int) := by omega
      go_wp2
      go_ret
      exact ⟨rfl, HB⟩
set_option maxRecDepth 100000 in
set_option maxHeartbeats 4000000 in
theorem markInts_any (a : Option Addr) (l : List Int) (cap g : Nat) (q : Int) (w : World) (hn : l.length ≤ 4000000000) (hq : 0 ≤ q ∧ q ≤ 1000) (h : OwnRow 1 intCells w g a cap l) :
    Calls Try.prog 26 #[.slice a l.length cap, .int .i64 q] w fun e w' => IMarkEnd q g a cap l.length w e w' := by
  have HL : Hid _ := hide h
  clear h
  obtain ⟨q0, q1⟩ := hq
  by_cases h0 : 0 < l.length
  · have HO : Hid _ := hide (mid_of_own intLen (by decide) (cells := fun i => ((imarkL q l.length)[i]?).elim [] intCells) HL.out h0)
    obtain ⟨rfl, _⟩ := HL.out.own h0
    go_enter Try.func26, Try.ntmps26
    go_wp2
    go_loopw [1, 5] (fun s i wr => ∃ k : Nat, k ≤ l.length ∧ i = .int .i64 (k : Int) ∧ s = .int .i64 (q + (k : Int)) ∧ Hid (Turned g w wr) ∧ Hid (RowMid g l.length 1 (fun i => ((imarkL q l.length)[i]?).elim [] intCells) k wr)) (fun s i wr => l.length - (intOf i).toNat)
    case atStart => exact ⟨0, Nat.zero_le _, rfl, by simp, hide (Turned.refl _ _), HO⟩
    case round =>
      obtain ⟨k, hk, rfl, rfl, HT, HM⟩ := hrel
      by_cases hlt : k < l.length
      · have hlt' : (k : Int) < (l.length : Int) := by omega
        have hM1 := HM.out
        have HP : Hid (RowMid g l.length 1 (fun i => ((imarkL q l.length)[i]?).elim [] intCells) (k + 1) (wr.setCell ⟨g, k, none⟩ (.int .i64 (q + (k : Int))))) := hide (((hM1.put).set hlt (by decide) (v := .int .i64 (q + (k : Int))) (by simp [imarkL_at q _ k hlt, intCells]) (o := k) (by omega)).whole)
        have HT2 : Hid _ := hide (HT.out.setCell (o := k) (.int .i64 (q + (k : Int))))
        obtain ⟨v0, f0⟩ := hM1.there k (by omega)
        have z0 := hM1.free k
        clear hM1
        go_wp2
        exact ⟨⟨k + 1, by omega, by go_num, by go_num, HT2, HP⟩, by simp [intOf]; omega⟩
      · have hk' : ¬ (k : Int) < (l.length : Int) := by omega
        have HE : Hid (IMarkEnd q g (some ⟨g, 0, none⟩) cap l.length w (.returned (.int .i64 (q + (k : Int)))) wr) := hide (by
          have M := HM.out
          have ek : k = l.length := by omega
          subst ek
          have O := own_of_mid (l := imarkL q l.length) intLen (by rw [imarkL_len]; exact M) (cap := cap) (by rw [imarkL_len]; exact HL.out.room)
          exact ⟨rfl, HT.out, O⟩)
        go_wp2
        go_ret
        exact HE.out
  · have hz : l = [] := List.eq_nil_of_length_eq_zero (by omega)
    subst hz
    go_enter Try.func26, Try.ntmps26
    go_wp2
    refine wp_loop_rounds 1 ?_
    rw [rounds_succ]
    go_wp2
    go_ret
    exact ⟨by simp, Turned.refl _ _, OwnRow.nil⟩
set_option maxRecDepth 100000 in
set_option maxHeartbeats 4000000 in
theorem heldInts_any (a : Option Addr) (n cap : Nat) (q : Int) (w : World) (hn : n ≤ 4000000000) (hq : 0 ≤ q ∧ q ≤ 1000) (h : RowAt 1 intCells w a (imarkL q n)) :
    Calls Try.prog 27 #[.slice a n cap, .int .i64 q] w fun e w' => e = .returned (.int .i64 (q + (n : Int))) ∧ w' = w := by
  have HL : Hid _ := hide h
  clear h
  obtain ⟨q0, q1⟩ := hq
  go_enter Try.func27, Try.ntmps27
  go_wp2
  go_loop [1, 5] (fun s i => ∃ k : Nat, k ≤ n ∧ i = .int .i64 (k : Int) ∧ s = .int .i64 (q + (k : Int))) (fun s i => n - (intOf i).toNat)
  case atStart => exact ⟨0, Nat.zero_le _, rfl, by simp⟩
  case round =>
    obtain ⟨k, hk, rfl, rfl⟩ := hrel
    by_cases hlt : k < n
    · have hlt' : (k : Int) < (n : Int) := by omega
      obtain ⟨b, off, rfl, hb, d0⟩ := imark_row HL.out k hlt
      go_wp2
      exact ⟨⟨k + 1, by omega, by go_num, by go_num⟩, by simp [intOf]; omega⟩
    · have hk' : ¬ (k : Int) < (n : Int) := by omega
      have HE : Hid (k = n) := hide (by omega)
      go_wp2
      go_ret
      exact ⟨by rw [HE.out]; rfl, rfl⟩
end Go.Proofs.Ythlkhdhheikadaa
