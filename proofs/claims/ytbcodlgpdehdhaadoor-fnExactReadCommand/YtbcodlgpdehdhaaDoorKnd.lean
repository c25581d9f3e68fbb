/- The reader of texts: the next text, the next number, the kind of a command. -/
import Derived.Test.YtbcodlgpdehdhaaDoorNum
namespace Go.Proofs.YtbcodlgpdehdhaaDoor
open Go.ChangeShapes Go.WideShapes Go.ChangeAt Go.RowKit Go.Lib
set_option linter.unusedVariables false
set_option maxRecDepth 100000
theorem clone_any (s : ByteArray) (w : World) (h : s.size ≤ 1048576) : Calls Tryd.prog 34 #[.string s] w fun e w' => e = .returned (.string s) ∧ Below w.heap.size w w' := by
  go_enter Tryd.func34, Tryd.ntmps34
  go_wp2_with fail
  refine (Tryd.stringslite_Clone s w (by omega)).mono ?_
  rintro e w1 ⟨rfl, hb⟩
  have HB : Hid _ := hide hb
  clear hb
  go_wp2
  go_ret
  exact ⟨rfl, HB.out⟩
set_option maxHeartbeats 2000000 in
theorem nextText_yes (B : Nat) (r : List UInt8) (w : World) (h : Blk B [.string (bs (32 :: r))] w) (hl : r.length ≤ 1048576) :
    Calls Tryd.prog 24 #[.pointer (some ⟨B, 0, none⟩)] w fun e w' => e = .returned (.string (bs (wordOf r))) ∧ RdTo B (restOf r) w w' := by
  have HB : Hid _ := hide (next_yes B r w h hl)
  have hs := word_size r
  clear h
  go_enter Tryd.func24, Tryd.ntmps24
  go_wp2_with fail
  refine HB.out.mono ?_
  rintro e w1 ⟨rfl, hr1⟩
  have HR : Hid _ := hide hr1
  clear hr1 HB
  go_wp2_with fail
  refine (clone_any _ _ (by rw [bs_size]; omega)).mono ?_
  rintro e w2 ⟨rfl, hb2⟩
  have HR2 : Hid _ := hide (HR.out.below hb2)
  clear hb2
  go_wp2_with fail
  go_ret
  exact ⟨rfl, HR2.out⟩
set_option maxHeartbeats 2000000 in
theorem nextText_no (B : Nat) (l : List UInt8) (t : TypeId) (v : Value) (w0 w : World) (E : Env t v w0) (h : Rg w0 B l w) (hn : l.head? ≠ some 32) :
    Calls Tryd.prog 24 #[.pointer (some ⟨B, 0, none⟩)] w fun e w' => GvTo B t v w e w' := by
  have HB : Hid _ := hide (next_no B l t v w0 w E h hn)
  clear h E hn
  go_enter Tryd.func24, Tryd.ntmps24
  go_wp2_with fail
  refine HB.out.mono ?_
  rintro e w1 ⟨rfl, hr1⟩
  have HR : Hid _ := hide hr1
  clear hr1 HB
  unfold gaveUp
  go_wp2_with fail
  exact ⟨rfl, rfl, HR.out⟩
set_option maxHeartbeats 2000000 in
theorem nextNumber_yes (B : Nat) (r : List UInt8) (n : Int) (t : TypeId) (v : Value) (w0 w : World) (E : Env t v w0) (h : Rg w0 B (32 :: r) w) (hl : r.length ≤ 1048576) (hn : IsNum (wordOf r) n) :
    Calls Tryd.prog 23 #[.pointer (some ⟨B, 0, none⟩)] w fun e w' => e = .returned (.int .i64 n) ∧ RdTo B (restOf r) w w' := by
  have HB : Hid _ := hide (next_yes B r w h.r hl)
  have HE : Hid _ := hide E
  have HG : Hid _ := hide h
  have HN : Hid _ := hide hn
  clear h E hn
  go_enter Tryd.func23, Tryd.ntmps23
  go_wp2_with fail
  refine HB.out.mono ?_
  rintro e w1 ⟨rfl, hr1⟩
  have HR : Hid _ := hide hr1
  clear hr1 HB
  go_wp2_with fail
  refine (number_yes _ (wordOf r) n t v _ ((HG.out.tor HR.out).env HE.out) HN.out).mono ?_
  rintro e w2 ⟨rfl, hb2⟩
  have HR2 : Hid _ := hide (HR.out.below hb2)
  clear hb2
  go_wp2_with fail
  go_ret
  exact ⟨rfl, HR2.out⟩
set_option maxHeartbeats 2000000 in
theorem nextNumber_bad (B : Nat) (r : List UInt8) (t : TypeId) (v : Value) (w0 w : World) (E : Env t v w0) (h : Rg w0 B (32 :: r) w) (hl : r.length ≤ 1048576) (hn : ∀ n, ¬ IsNum (wordOf r) n) :
    Calls Tryd.prog 23 #[.pointer (some ⟨B, 0, none⟩)] w fun e w' => GvTo B t v w e w' := by
  have HB : Hid _ := hide (next_yes B r w h.r hl)
  have HE : Hid _ := hide E
  have HG : Hid _ := hide h
  have HN : Hid _ := hide hn
  have hs := word_size r
  clear h E hn
  go_enter Tryd.func23, Tryd.ntmps23
  go_wp2_with fail
  refine HB.out.mono ?_
  rintro e w1 ⟨rfl, hr1⟩
  have HR : Hid _ := hide hr1
  clear hr1 HB
  go_wp2_with fail
  refine (number_no _ (wordOf r) t v _ ((HG.out.tor HR.out).env HE.out) (by omega) HN.out).mono ?_
  rintro e w2 ⟨rfl, hb2⟩
  have HR2 : Hid _ := hide (HR.out.below hb2)
  clear hb2
  unfold gaveUp
  go_wp2_with fail
  exact ⟨rfl, rfl, _, HR2.out⟩
set_option maxHeartbeats 2000000 in
theorem nextNumber_no (B : Nat) (l : List UInt8) (t : TypeId) (v : Value) (w0 w : World) (E : Env t v w0) (h : Rg w0 B l w) (hn : l.head? ≠ some 32) :
    Calls Tryd.prog 23 #[.pointer (some ⟨B, 0, none⟩)] w fun e w' => GvTo B t v w e w' := by
  have HB : Hid _ := hide (next_no B l t v w0 w E h hn)
  clear h E hn
  go_enter Tryd.func23, Tryd.ntmps23
  go_wp2_with fail
  refine HB.out.mono ?_
  rintro e w1 ⟨rfl, hr1⟩
  have HR : Hid _ := hide hr1
  clear hr1 HB
  unfold gaveUp
  go_wp2_with fail
  exact ⟨rfl, rfl, HR.out⟩
/-- what kind makes of a word -/
def KindEnd (l : List UInt8) (t : TypeId) (v : Value) (w : World) (e : Ending) (w' : World) : Prop :=
  w' = w ∧ ((∃ k : Int, 1 ≤ k ∧ k ≤ 5 ∧ wordL k = l ∧ e = .returned (.int .i64 k)) ∨ ((∀ k : Int, 1 ≤ k → k ≤ 5 → wordL k ≠ l) ∧ e = gaveUp t v))
theorem kd_eq (k : Int) (l : List UInt8) : ((wordB k).toList == (bs l).toList) = (wordL k == l) := bs_beq _ _
set_option maxHeartbeats 8000000 in
theorem kind_any (p : Value) (l : List UInt8) (t : TypeId) (v : Value) (w : World) (E : Env t v w) :
    Calls Tryd.prog 20 #[p, .string (bs l)] w fun e w' => KindEnd l t v w e w' := by
  obtain ⟨c1, c2, c3, c4, c5⟩ := E.words
  have HE : Hid _ := hide E
  clear E
  obtain ⟨x1, hx1⟩ : ∃ x, x = wordB 1 := ⟨_, rfl⟩
  obtain ⟨x2, hx2⟩ : ∃ x, x = wordB 2 := ⟨_, rfl⟩
  obtain ⟨x3, hx3⟩ : ∃ x, x = wordB 3 := ⟨_, rfl⟩
  obtain ⟨x4, hx4⟩ : ∃ x, x = wordB 4 := ⟨_, rfl⟩
  obtain ⟨x5, hx5⟩ : ∃ x, x = wordB 5 := ⟨_, rfl⟩
  obtain ⟨y, hy⟩ : ∃ y, y = bs l := ⟨_, rfl⟩
  rw [← hx1] at c1
  rw [← hx2] at c2
  rw [← hx3] at c3
  rw [← hx4] at c4
  rw [← hx5] at c5
  have k1 : (x1.toList == y.toList) = (wordL 1 == l) := by rw [hx1, hy, kd_eq]
  have k2 : (x2.toList == y.toList) = (wordL 2 == l) := by rw [hx2, hy, kd_eq]
  have k3 : (x3.toList == y.toList) = (wordL 3 == l) := by rw [hx3, hy, kd_eq]
  have k4 : (x4.toList == y.toList) = (wordL 4 == l) := by rw [hx4, hy, kd_eq]
  have k5 : (x5.toList == y.toList) = (wordL 5 == l) := by rw [hx5, hy, kd_eq]
  rw [← hy]
  have K1 : Hid _ := hide k1
  have K2 : Hid _ := hide k2
  have K3 : Hid _ := hide k3
  have K4 : Hid _ := hide k4
  have K5 : Hid _ := hide k5
  clear hx1 hx2 hx3 hx4 hx5 hy k1 k2 k3 k4 k5
  go_enter Tryd.func20, Tryd.ntmps20
  go_wp2_with fail
  go_loop [5] (fun i => ∃ j : Int, (j = 1 ∨ j = 2 ∨ j = 3 ∨ j = 4 ∨ j = 5) ∧ i = .int .i64 j ∧ Hid (∀ m : Int, 1 ≤ m → m < j → wordL m ≠ l)) (fun i => (6 - RowKit.intOf i).toNat)
  case atStart => exact ⟨1, .inl rfl, rfl, hide (fun m _ _ => by omega)⟩
  case round =>
    obtain ⟨j, hj, rfl, HN⟩ := hrel
    rcases hj with rfl | rfl | rfl | rfl | rfl
    · cases q : (x1.toList == y.toList)
      · have q' : (wordL 1 == l) = false := K1.out ▸ q
        have HS : Hid (∀ m : Int, 1 ≤ m → m < 2 → wordL m ≠ l) := hide (fun m h1 h2 => by
          rcases Int.lt_or_le m 1 with z | z
          · exact HN.out m h1 z
          · obtain rfl : m = 1 := by omega
            simpa using q')
        clear q'
        go_wp2_with fail
        exact ⟨⟨2, by omega, by go_num, HS⟩, by simp [RowKit.intOf]⟩
      · have q' : (wordL 1 == l) = true := K1.out ▸ q
        have HQ : Hid (wordL 1 = l) := hide (beq_iff_eq.1 q')
        clear q'
        go_wp2_with fail
        refine (want_yes _ _).mono ?_
        rintro e w2 ⟨rfl, hw⟩
        rw [hw]
        clear hw
        go_wp2_with fail
        go_ret
        exact ⟨rfl, .inl ⟨1, by omega, by omega, HQ.out, rfl⟩⟩
    · cases q : (x2.toList == y.toList)
      · have q' : (wordL 2 == l) = false := K2.out ▸ q
        have HS : Hid (∀ m : Int, 1 ≤ m → m < 3 → wordL m ≠ l) := hide (fun m h1 h2 => by
          rcases Int.lt_or_le m 2 with z | z
          · exact HN.out m h1 z
          · obtain rfl : m = 2 := by omega
            simpa using q')
        clear q'
        go_wp2_with fail
        exact ⟨⟨3, by omega, by go_num, HS⟩, by simp [RowKit.intOf]⟩
      · have q' : (wordL 2 == l) = true := K2.out ▸ q
        have HQ : Hid (wordL 2 = l) := hide (beq_iff_eq.1 q')
        clear q'
        go_wp2_with fail
        refine (want_yes _ _).mono ?_
        rintro e w2 ⟨rfl, hw⟩
        rw [hw]
        clear hw
        go_wp2_with fail
        go_ret
        exact ⟨rfl, .inl ⟨2, by omega, by omega, HQ.out, rfl⟩⟩
    · cases q : (x3.toList == y.toList)
      · have q' : (wordL 3 == l) = false := K3.out ▸ q
        have HS : Hid (∀ m : Int, 1 ≤ m → m < 4 → wordL m ≠ l) := hide (fun m h1 h2 => by
          rcases Int.lt_or_le m 3 with z | z
          · exact HN.out m h1 z
          · obtain rfl : m = 3 := by omega
            simpa using q')
        clear q'
        go_wp2_with fail
        exact ⟨⟨4, by omega, by go_num, HS⟩, by simp [RowKit.intOf]⟩
      · have q' : (wordL 3 == l) = true := K3.out ▸ q
        have HQ : Hid (wordL 3 = l) := hide (beq_iff_eq.1 q')
        clear q'
        go_wp2_with fail
        refine (want_yes _ _).mono ?_
        rintro e w2 ⟨rfl, hw⟩
        rw [hw]
        clear hw
        go_wp2_with fail
        go_ret
        exact ⟨rfl, .inl ⟨3, by omega, by omega, HQ.out, rfl⟩⟩
    · cases q : (x4.toList == y.toList)
      · have q' : (wordL 4 == l) = false := K4.out ▸ q
        have HS : Hid (∀ m : Int, 1 ≤ m → m < 5 → wordL m ≠ l) := hide (fun m h1 h2 => by
          rcases Int.lt_or_le m 4 with z | z
          · exact HN.out m h1 z
          · obtain rfl : m = 4 := by omega
            simpa using q')
        clear q'
        go_wp2_with fail
        exact ⟨⟨5, by omega, by go_num, HS⟩, by simp [RowKit.intOf]⟩
      · have q' : (wordL 4 == l) = true := K4.out ▸ q
        have HQ : Hid (wordL 4 = l) := hide (beq_iff_eq.1 q')
        clear q'
        go_wp2_with fail
        refine (want_yes _ _).mono ?_
        rintro e w2 ⟨rfl, hw⟩
        rw [hw]
        clear hw
        go_wp2_with fail
        go_ret
        exact ⟨rfl, .inl ⟨4, by omega, by omega, HQ.out, rfl⟩⟩
    · cases q : (x5.toList == y.toList)
      · have q' : (wordL 5 == l) = false := K5.out ▸ q
        have HS : Hid (∀ m : Int, 1 ≤ m → m ≤ 5 → wordL m ≠ l) := hide (fun m h1 h2 => by
          rcases Int.lt_or_le m 5 with z | z
          · exact HN.out m h1 z
          · obtain rfl : m = 5 := by omega
            simpa using q')
        clear q'
        go_wp2_with fail
        refine (want_no _ t v _ HE.out).mono ?_
        rintro e w2 ⟨rfl, hw⟩
        rw [hw]
        clear hw
        unfold gaveUp
        go_wp2_with fail
        exact ⟨rfl, rfl, .inr ⟨HS.out, rfl⟩⟩
      · have q' : (wordL 5 == l) = true := K5.out ▸ q
        have HQ : Hid (wordL 5 = l) := hide (beq_iff_eq.1 q')
        clear q'
        go_wp2_with fail
        refine (want_yes _ _).mono ?_
        rintro e w2 ⟨rfl, hw⟩
        rw [hw]
        clear hw
        go_wp2_with fail
        go_ret
        exact ⟨rfl, .inl ⟨5, by omega, by omega, HQ.out, rfl⟩⟩
end Go.Proofs.YtbcodlgpdehdhaaDoor
