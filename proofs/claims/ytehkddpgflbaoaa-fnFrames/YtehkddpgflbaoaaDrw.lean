/- The drawn texts of the law FnFrames, and its helpers big and sameTexts. -/
import Derived.Test.YtehkddpgflbaoaaRd5
import Derived.Test.YtehkddpgflbaoaaITk2
namespace Go.Proofs.Ytehkddpgflbaoaa
open Go.ChangeShapes Go.WideShapes Go.ChangeAt Go.RowKit
set_option linter.unusedVariables false
set_option maxHeartbeats 1000000 in
set_option maxRecDepth 100000 in
theorem text_any (B : Nat) (w : World) (h : Rd B w) : Calls Try.prog 14 #[.pointer (some ⟨B, 0, none⟩)] w fun e w' => TextEnd B 3 w e w' := by
  have HR : Hid _ := hide h
  have hlt := h.lt
  clear h
  go_enter Try.func14, Try.ntmps14
  go_wp2_with fail
  refine (below_any _ 6 _ (HR.out.kept ((Kept.refl _).alloc _ _)) (by omega)).mono ?_
  rintro e w3 ⟨⟨x, x0, x2, x1, rfl⟩, HR3, HA3⟩
  obtain ⟨q, rfl⟩ := Int.eq_ofNat_of_zero_le x0
  have q6 : q < 6 := by omega
  have q6' : (q : Int) < 6 := by omega
  have hex : ∃ t : ByteArray, t.size ≤ 3 ∧ w3.cell? ⟨w.heap.size, q, none⟩ = some (.string t) := by
    clear x0 x1 x2 q6'
    obtain rfl | rfl | rfl | rfl | rfl | rfl : q = 0 ∨ q = 1 ∨ q = 2 ∨ q = 3 ∨ q = 4 ∨ q = 5 := by omega
    all_goals
      refine ⟨_, ?_, str_cell hlt HA3 _ _ rfl⟩
      decide
  obtain ⟨t, ht, hcell⟩ := hex
  have HA : Hid (Apart B w w3) := hide (((Kept.refl _).alloc _ _).to_apart.trans HA3)
  have HRR : Hid _ := hide HR3
  clear x2 HR3 HA3
  go_wp2
  go_ret
  exact ⟨⟨t, ht, rfl⟩, HRR.out, HA.out⟩
theorem frame_bytes (d : ByteArray) : (frame d).size = 8 + d.size := by rw [← size_list]; exact frame_size d
def DrawEnd (n : Nat) (w : World) (e : Ending) (w' : World) : Prop := (∃ s : ByteArray, s.size ≤ n ∧ e = .returned (.string s)) ∧ Below w.heap.size w w'
set_option maxHeartbeats 1000000 in
set_option maxRecDepth 100000 in
theorem drawTake_any (a : Option Addr) (len cap : Nat) (w : World) (h : IsCode w a len) : Calls Try.prog 5 #[.slice a len cap] w fun e w' => DrawEnd 100 w e w' := by
  have HC : Hid _ := hide h
  clear h
  go_enter Try.func5, Try.ntmps5
  go_wp2_with fail
  refine (l1Open_any a len cap w).mono ?_
  rintro e w1 ⟨rfl, rfl⟩
  have HR := rd_open (cap := cap) HC.out
  have HB1 : Hid (Below w.heap.size w (w.alloc (.cells #[.slice a len cap, .int .i64 0] 42))) := hide ((Below.refl _ _).alloc (Nat.le_refl _) _)
  go_wp2_with fail
  refine (below_any _ 4 _ HR (by omega)).mono ?_
  rintro e w2 ⟨⟨r, r0, r2, r1, rfl⟩, HR2, HA2⟩
  have r3 : r < 4 := by omega
  have HB2 : Hid _ := hide (below_apart HB1.out (Nat.le_refl _) HA2)
  have HR2' : Hid _ := hide HR2
  clear r2 HR HR2 HA2 r1 HB1
  go_wp2
  go_loopw [4, 5] (fun v i wr => ∃ (k : Nat) (b : ByteArray), i = .int .i64 (k : Int) ∧ v = .string b ∧ b.size + 11 * k ≤ 33 ∧ Hid (Rd w.heap.size wr) ∧ Hid (Below w.heap.size w wr)) (fun v i wr => (intOf i).toNat)
  case atStart => exact ⟨r.toNat, _, by rw [Int.toNat_of_nonneg r0], rfl, by show 0 + 11 * r.toNat ≤ 33; omega, HR2', HB2⟩
  case round =>
    obtain ⟨k, b, rfl, rfl, hbk, HR, HB⟩ := hrel
    by_cases hk : 0 < k
    · have hk' : (0 : Int) < (k : Int) := by omega
      have hk3 : (k : Int) ≤ 3 := by omega
      go_wp2_with fail
      refine (text_any _ _ HR.out).mono ?_
      rintro e w3 ⟨⟨t, ht, rfl⟩, HR3, HA3⟩
      have HB3 : Hid _ := hide (below_apart HB.out (Nat.le_refl _) HA3)
      have HR3' : Hid _ := hide HR3
      clear HR3 HA3
      go_wp2_with fail
      refine (specFrameOf_short t w3 (by omega)).mono ?_
      rintro e w4 ⟨rfl, HK4⟩
      have HB4 : Hid _ := hide (below_trans HB3.out HK4.below)
      have HR4 : Hid _ := hide (HR3'.out.kept HK4)
      have hfs : (frame t).size ≤ 11 := by rw [frame_bytes]; omega
      clear HK4
      go_wp2
      exact ⟨⟨k - 1, _, by go_num, rfl, by rw [ByteArray.size_append]; omega, HR4, HB4⟩, by simp [intOf]; omega⟩
    · have hk' : ¬ (0 : Int) < (k : Int) := by omega
      go_wp2_with fail
      refine (hurt_any _ b _ HR.out (by omega)).mono ?_
      rintro e w5 ⟨⟨s, hs, rfl⟩, HR5, HA5⟩
      have HB5 : Hid _ := hide (below_apart HB.out (Nat.le_refl _) HA5)
      clear HR5 HA5
      go_wp2
      go_ret
      exact ⟨⟨s, by omega, rfl⟩, HB5.out⟩
set_option maxHeartbeats 1000000 in
set_option maxRecDepth 100000 in
theorem drawFrame_any (a : Option Addr) (len cap : Nat) (w : World) (h : IsCode w a len) : Calls Try.prog 10 #[.slice a len cap] w fun e w' => DrawEnd 100 w e w' := by
  have HC : Hid _ := hide h
  clear h
  go_enter Try.func10, Try.ntmps10
  go_wp2_with fail
  refine (l1Open_any a len cap w).mono ?_
  rintro e w1 ⟨rfl, rfl⟩
  have HR := rd_open (cap := cap) HC.out
  have HB1 : Hid (Below w.heap.size w (w.alloc (.cells #[.slice a len cap, .int .i64 0] 42))) := hide ((Below.refl _ _).alloc (Nat.le_refl _) _)
  go_wp2_with fail
  refine (text_any _ _ HR).mono ?_
  rintro e w2 ⟨⟨t, ht, rfl⟩, HR2, HA2⟩
  have HB2 : Hid _ := hide (below_apart HB1.out (Nat.le_refl _) HA2)
  have HR2' : Hid _ := hide HR2
  clear HR HR2 HA2 HB1
  go_wp2_with fail
  refine (bytes_any _ 5 _ HR2'.out (by omega) (by omega)).mono ?_
  rintro e w3 ⟨⟨u, hu, rfl⟩, HR3, HA3⟩
  have HB3 : Hid _ := hide (below_apart HB2.out (Nat.le_refl _) HA3)
  have hu' : u.size ≤ 5 := by omega
  clear HR3 HA3 hu
  go_wp2
  go_ret
  exact ⟨⟨t ++ u, by rw [ByteArray.size_append]; omega, rfl⟩, HB3.out⟩
set_option maxHeartbeats 2000000 in
theorem sameTexts_any (a c : Option Addr) (l : List ByteArray) (ca cc : Nat) (w : World) (hn : l.length ≤ 1048576) (h : RowAt 1 strCells w a l) (h' : RowAt 1 strCells w c l) :
    Calls Try.prog 8 #[.slice a l.length ca, .slice c l.length cc] w fun e w' => YesEnd w e w' := by
  have HL : Hid _ := hide h
  have HL' : Hid _ := hide h'
  clear h h'
  have hln : ((l.length : Int) != (l.length : Int)) = false := by simp
  go_enter Try.func8, Try.ntmps8
  go_wp2
  go_loopw [5] (fun i wr => ∃ k : Nat, k ≤ l.length ∧ i = .int .i64 (k : Int) ∧ Below w.heap.size w wr) (fun i wr => l.length - (intOf i).toNat)
  case atStart => exact ⟨0, Nat.zero_le _, rfl, Below.refl _ _⟩
  case round =>
    obtain ⟨k, hk, rfl, HB⟩ := hrel
    by_cases hlt : k < l.length
    · obtain ⟨b, off, rfl, hb, d0⟩ := str_row (HL.out.below HB) k hlt
      obtain ⟨b2, off2, rfl, hc, e0⟩ := str_row (HL'.out.below HB) k hlt
      have hlt' : (k : Int) < (l.length : Int) := by omega
      go_wp2_with fail
      go_quiet (fail)
      go_wp2
      exact ⟨⟨k + 1, by omega, by go_num, below_drewN HB _⟩, by simp [intOf]; omega⟩
    · have hk' : ¬ (k : Int) < (l.length : Int) := by omega
      go_wp2
      go_ret
      exact ⟨rfl, HB⟩
end Go.Proofs.Ytehkddpgflbaoaa
