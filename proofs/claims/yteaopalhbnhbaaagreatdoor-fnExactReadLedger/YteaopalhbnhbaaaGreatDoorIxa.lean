/- The library's IndexAny at the blank and the line's end, whatever the bytes. -/
import Derived.Test.YteaopalhbnhbaaaGreatDoorWnt
import Derived.Laws.RangeAny
import Derived.WalkMore
import Derived.Lib.OthersKept
import Derived.Deep.LoopGhost
namespace Go.Proofs.YteaopalhbnhbaaaGreatDoor
open Go.ChangeShapes Go.WideShapes Go.ChangeAt Go.RowKit Go.Lib
set_option linter.unusedVariables false
set_option maxRecDepth 100000
theorem get_bang (s : ByteArray) (i : Nat) (h : i < s.size) : s.get! i = s[i]'h := by
  simp [ByteArray.get!, getElem!_pos, h]
  rfl
/-- behind a first byte of 128 or more all bytes that are taken with it are so -/
theorem decode_skip (s : ByteArray) (pos : Nat) (h : pos < s.size) (ha : 128 ≤ (s[pos]'h).toNat) :
    pos + (Utf8.decode s pos).2 ≤ s.size ∧ ∀ j, j < (Utf8.decode s pos).2 → 128 ≤ (s.get! (pos + j)).toNat := by
  have hn : ¬ (s[pos]'h).toNat < 128 := by omega
  have e0 : 128 ≤ (s.get! (pos + 0)).toNat := by rw [get_at s pos h]; exact ha
  simp only [Utf8.decode, get_at s pos h, hn, if_false]
  have one : ∀ j, j < 1 → 128 ≤ (s.get! (pos + j)).toNat := fun j hj => by
    obtain rfl : j = 0 := by omega
    exact e0
  split
  · rename_i q
    simp only [Bool.and_eq_true, decide_eq_true_eq, beq_iff_eq] at q
    split
    · refine ⟨by simp only; omega, fun j hj => ?_⟩
      simp only at hj
      match j, hj with
      | 0, _ => exact e0
      | 1, _ => omega
    · exact ⟨by simp only; omega, one⟩
  · split
    · rename_i q
      simp only [Bool.and_eq_true, decide_eq_true_eq, beq_iff_eq] at q
      split
      · refine ⟨by simp only; omega, fun j hj => ?_⟩
        simp only at hj
        match j, hj with
        | 0, _ => exact e0
        | 1, _ => omega
        | 2, _ => omega
      · exact ⟨by simp only; omega, one⟩
    · split
      · rename_i q
        simp only [Bool.and_eq_true, decide_eq_true_eq, beq_iff_eq] at q
        split
        · refine ⟨by simp only; omega, fun j hj => ?_⟩
          simp only at hj
          match j, hj with
          | 0, _ => exact e0
          | 1, _ => omega
          | 2, _ => omega
          | 3, _ => omega
        · exact ⟨by simp only; omega, one⟩
      · exact ⟨by simp only; omega, one⟩
theorem encode_len {r : Int} (h0 : 128 ≤ r) (hv : Utf8.valid r = true) : (∃ a b : UInt8, Utf8.encode r = ⟨#[a, b]⟩ ∧ 128 ≤ b.toNat) ∨ 3 ≤ (Utf8.encode r).size ∧ (Utf8.encode r).size ≤ 4 := by
  unfold Utf8.encode
  simp only [hv, if_true]
  rw [if_neg (by omega)]
  split
  · refine .inl ⟨_, _, rfl, ?_⟩
    simp only [UInt8.toNat_ofNat']
    omega
  · split
    · exact .inr ⟨by simp [ByteArray.size], by simp [ByteArray.size]⟩
    · exact .inr ⟨by simp [ByteArray.size], by simp [ByteArray.size]⟩
def sep2 : ByteArray := ⟨#[32, 10]⟩
/-- none of the two is such a rune -/
def NoRune (w : World) (e : Ending) (w' : World) : Prop := e = .returned (.int .i64 (-1)) ∧ Below w.heap.size w w'
theorem iter_below (w : World) (s : ByteArray) (p : Nat) : Below w.heap.size w (w.iter s p) := below_alloc (Below.refl _ _) _
set_option maxHeartbeats 4000000 in
theorem rune_error (w : World) : Calls Tryz.prog 133 #[.string sep2, .int .i32 65533] w fun e w' => NoRune w e w' := by
  have n0 := fun ty => run_next_ascii (P := Tryz.prog) w sep2 0 ty (by decide) (by decide)
  have n1 := fun ty => run_next_ascii (P := Tryz.prog) w sep2 1 ty (by decide) (by decide)
  have n2 := fun ty => run_next_end (P := Tryz.prog) w sep2 2 ty (by decide)
  go_enter Tryz.func133, Tryz.ntmps133
  go_wp2
  go_loopg [5, 6] 2 (fun g _ _ wx => ∃ i : Nat, i + g = 2 ∧ wx = w.iter sep2 i)
  case atStart => exact ⟨0, by omega, rfl⟩
  case round =>
    obtain ⟨i, hig, rfl⟩ := hrel
    match gk, hig with
    | 0, hig =>
      obtain rfl : i = 2 := by omega
      go_wp2
      go_ret
      exact ⟨rfl, iter_below _ _ _⟩
    | 1, hig =>
      obtain rfl : i = 1 := by omega
      go_wp2
      go_roundg 0
      case measure => omega
      case rel => exact ⟨2, by omega, rfl⟩
    | 2, hig =>
      obtain rfl : i = 0 := by omega
      go_wp2
      go_roundg 1
      case measure => omega
      case rel => exact ⟨1, by omega, rfl⟩
set_option maxHeartbeats 4000000 in
theorem rune_bad (r : Int) (w : World) (h0 : 128 ≤ r) (h1 : r ≤ 2147483647) (he : r ≠ 65533) (hv : Lib.validRune r = false) : Calls Tryz.prog 133 #[.string sep2, .int .i32 r] w fun e w' => NoRune w e w' := by
  have g0 : ¬ r < 128 := by omega
  have ge : (r == 65533) = false := by simpa using he
  go_enter Tryz.func133, Tryz.ntmps133
  go_wp2_with (first | (go_at_call 143; refine (Tryz.utf8_ValidRune r _).mono ?_; rintro e w1 ⟨rfl, hw⟩; rw [hw, hv]; clear hw))
  go_ret
  exact ⟨rfl, Below.refl _ _⟩
set_option maxHeartbeats 4000000 in
theorem rune_two (r : Int) (a b : UInt8) (w : World) (h0 : 128 ≤ r) (h1 : r ≤ 2147483647) (he : r ≠ 65533) (hv : Lib.validRune r = true) (hen : Utf8.encode r = ⟨#[a, b]⟩) (hb : 128 ≤ b.toNat) : Calls Tryz.prog 133 #[.string sep2, .int .i32 r] w fun e w' => NoRune w e w' := by
  have g0 : ¬ r < 128 := by omega
  have ge : (r == 65533) = false := by simpa using he
  go_enter Tryz.func133, Tryz.ntmps133
  go_wp2_with (first | (go_at_call 143; refine (Tryz.utf8_ValidRune r _).mono ?_; rintro e w1 ⟨rfl, hw⟩; rw [hw, hv]; clear hw))
  go_step3
  have i1 : ∀ w, (Instr.index 9 (.string sep2) (.int .i64 1)).run Tryz.prog w = .ok (.int .u8 10) w := fun w => by kernel_rfl
  have i2 : ∀ w, (Instr.index 9 (.string ⟨#[a, b]⟩) (.int .i64 1)).run Tryz.prog w = .ok (.int .u8 b.toNat) w := fun w => by kernel_rfl
  have i3 : ∀ w, (Instr.slice 9 (.string sep2) (some (.int .i64 2)) none none).run Tryz.prog w = .ok (.string ⟨#[]⟩) w := fun w => by kernel_rfl
  have i4 : ∀ w, (Instr.slice 9 (.string sep2) (some (.int .i64 (IntKind.i64.wrap 2))) none none).run Tryz.prog w = .ok (.string ⟨#[]⟩) w := fun w => by kernel_rfl
  have hw2 : IntKind.i64.wrap 2 = 2 := by decide
  have hne : ((10 : Int) == (b.toNat : Int)) = false := by simp; omega
  have hlt : (1 : Int) < (sep2.size : Int) := by decide
  go_wp2
  go_loop [9] (fun i => i = .int .i64 1) (fun i => 0)
  case atStart => rfl
  case round =>
    subst hrel
    go_wp2
    go_step3
    go_wp2
    go_quiet (fail)
    go_wp2
    have hb2 : Below w.heap.size w (w.drewN nq) := below_drewN (Below.refl _ _) nq
    have HB2 : Hid _ := hide hb2
    clear hb2
    generalize w.drewN nq = W at *
    have hne2 : Nonempty (Later W) := later_there _
    refine wp_region_later W (by kernel_rfl) (by kernel_rfl) ((Below.refl _ _).drew) ?_
    repeat (go_big_quiet_step (first | (go_at_call 142; exact later_same (Tryz.strings_IndexByte _ _ _))))
    refine wpQuiet_nil ?_
    intro _ hw'
    obtain ⟨nx, rfl⟩ := hw'
    have h9 : (Lib.indexByte ({ data := #[] } : ByteArray).data.toList (b.toNat : Int).toNat.toUInt8) = -1 := rfl
    go_wp2
    rw [Exit.noGoto_ret]
    go_ret
    exact ⟨rfl, below_trans HB2.out nx.below⟩
set_option maxHeartbeats 4000000 in
theorem rune_long (r : Int) (s : ByteArray) (w : World) (h0 : 128 ≤ r) (h1 : r ≤ 2147483647) (he : r ≠ 65533) (hv : Lib.validRune r = true) (hen : Utf8.encode r = s) (hs3 : 3 ≤ s.size) (hs4 : s.size ≤ 4) : Calls Tryz.prog 133 #[.string sep2, .int .i32 r] w fun e w' => NoRune w e w' := by
  have g0 : ¬ r < 128 := by omega
  have ge : (r == 65533) = false := by simpa using he
  go_enter Tryz.func133, Tryz.ntmps133
  go_wp2_with (first | (go_at_call 143; refine (Tryz.utf8_ValidRune r _).mono ?_; rintro e w1 ⟨rfl, hw⟩; rw [hw, hv]; clear hw))
  go_step3
  have hss : sep2.size = 2 := rfl
  go_wp2
  go_loop [9] (fun i => i = .int .i64 ((s.size : Int) - 1)) (fun i => 0)
  case atStart => rfl
  case round =>
    subst hrel
    have hlt : ¬ ((s.size : Int) - 1 < (sep2.size : Int)) := by rw [hss]; omega
    have hlt2 : ¬ ((s.size : Int) - 1 < 2) := by omega
    go_wp2
    go_ret
    exact ⟨rfl, Below.refl _ _⟩
/-- whatever the rune: from 128 on it is neither the blank nor the line's end -/
theorem rune_off (r : Int) (w : World) (h0 : 128 ≤ r) (h1 : r ≤ 2147483647) : Calls Tryz.prog 133 #[.string sep2, .int .i32 r] w fun e w' => NoRune w e w' := by
  by_cases he : r = 65533
  · subst he; exact rune_error w
  · cases hv : Lib.validRune r
    · exact rune_bad r w h0 h1 he hv
    · have hv2 : Utf8.valid r = true := by
        simp only [Lib.validRune, decide_eq_true_eq] at hv
        simp only [Utf8.valid, Bool.or_eq_true, Bool.and_eq_true, decide_eq_true_eq]
        omega
      rcases encode_len h0 hv2 with ⟨a, b, e, hb⟩ | ⟨h3, h4⟩
      · exact rune_two r a b w h0 h1 he hv e hb
      · exact rune_long r _ w h0 h1 he hv rfl h3 h4
theorem iterAt_below {w x : World} {s : ByteArray} {p : Nat} (h : Below w.heap.size w x) : Below w.heap.size w (x.iterAt w.heap.size s p) :=
  ⟨h.os, h.tape, h.output, by have := h.size; simpa [World.iterAt] using this, fun k hk => by
    rw [← h.block k hk]
    simp only [World.iterAt]
    exact Array.getElem?_setIfInBounds_ne (by omega)⟩
theorem iterAt_size (w : World) (k : Nat) (s : ByteArray) (p : Nat) : (w.iterAt k s p).heap.size = w.heap.size := by simp [World.iterAt]
theorem noAny_skip {s : ByteArray} {i k : Nat} (h : Lib.NoAny s.data.toList [32, 10] i) (hk : i + k ≤ s.size) (hs : ∀ j, j < k → 128 ≤ (s.get! (i + j)).toNat) : Lib.NoAny s.data.toList [32, 10] (i + k) := fun j b hj hb => by
  rcases Nat.lt_or_ge j i with q | q
  · exact h j b q hb
  · have hz := hs (j - i) (by omega)
    rw [show i + (j - i) = j by omega, get_bang s j (by omega)] at hz
    have e : s.data.toList[j]? = some (s[j]'(by omega)) := Lib.data_getElem? s j (by omega)
    rw [e] at hb
    cases hb
    simp only [List.contains_cons, List.contains_nil, Bool.or_false, Bool.or_eq_false_iff, beq_eq_false_iff_ne, ne_eq]
    constructor <;> (intro z; rw [z] at hz; revert hz; decide)
set_option maxHeartbeats 8000000 in
theorem indexAny_short (s : ByteArray) (w : World) (h8 : s.size ≤ 8) :
    Calls Tryz.prog 130 #[.string s, .string sep2] w fun e w' => e = .returned (.int .i64 (Lib.indexAny s.data.toList [32, 10])) ∧ Below w.heap.size w w' := by
  have h8z : decide ((8 : Int) < (s.size : Int)) = false := decide_eq_false (by omega)
  have hemp : sep2.toList.isEmpty = false := by rw [Lib.toList_data]; rfl
  have hn1 : ((sep2.size : Int) == 1) = false := by decide
  go_enter Tryz.func130, Tryz.ntmps130
  go_wp2_with (first | (go_at_call 134; refine (Tryz.strings_shouldUseASCIISet _ _).mono ?_; rintro e w' ⟨rfl, hw⟩; rw [hw, h8z]; clear hw))
  go_loopg [9, 10] s.size (fun g _ _ wx => ∃ i : Nat, i + g = s.size ∧ wx.heap[w.heap.size]? = some (.stringIter s i) ∧ Hid (Below w.heap.size w wx) ∧ Hid (Lib.NoAny s.data.toList [32, 10] i))
  case atStart => exact ⟨0, by omega, World.iter_heap w s 0, hide (iter_below _ _ _), hide (Lib.NoAny.zero _ _)⟩
  case round =>
    obtain ⟨i, hig, hit, HB, HN⟩ := hrel
    rename World => wx
    cases gk with
    | zero =>
      obtain rfl : i = s.size := by omega
      have hnx := fun ty => run_next_end_at (P := Tryz.prog) wx w.heap.size s s.size ty hit (Nat.lt_irrefl _)
      go_wp2
      go_ret
      exact ⟨by rw [Lib.indexAny_none (by rw [← Lib.size_eq]; exact HN.out)]; rfl, HB.out⟩
    | succ g =>
      have hi : i < s.size := by omega
      obtain ⟨x, hx⟩ : ∃ x : UInt8, s[i]'hi = x := ⟨_, rfl⟩
      have hxl : s.data.toList[i]? = some x := by rw [← hx]; exact Lib.data_getElem? s i hi
      have Hx : Hid (s.data.toList[i]? = some x) := hide hxl
      by_cases hx128 : x.toNat < 128
      · have hnx := fun ty => run_next_ascii_at (P := Tryz.prog) wx w.heap.size s i ty hit hi (by rw [hx]; exact hx128)
        rw [hx] at hnx
        have HI : Hid _ := hide (iterAt_heap wx w.heap.size s i (i + 1) hit)
        have HB2 : Hid _ := hide (iterAt_below (s := s) (p := i + 1) HB.out)
        clear hxl hx hit
        have hcon := Lib.contains_iff_indexByte [32, 10] x
        have hback : ((x.toNat : Int)).toNat.toUInt8 = x := by simp
        cases hin : [32, 10].contains x
        · rw [hin] at hcon
          have hlt : ¬ ((0 : Int) ≤ Lib.indexByte [32, 10] x) := of_decide_eq_false hcon.symm
          clear hcon
          go_wp2_with (go_at_call 133; refine (Tryz.strings_IndexRune_ascii sep2 _ _ (by omega) (by omega)).mono ?_; rintro e w' ⟨rfl, hw⟩; rw [hw, hback, show sep2.data.toList = [32, 10] from rfl]; clear hw)
          go_roundg g
          case measure => omega
          case rel => exact ⟨i + 1, by omega, HI.out, HB2, hide (HN.out.succ Hx.out hin)⟩
        · rw [hin] at hcon
          have hge : (0 : Int) ≤ Lib.indexByte [32, 10] x := of_decide_eq_true hcon.symm
          clear hcon
          go_wp2_with (go_at_call 133; refine (Tryz.strings_IndexRune_ascii sep2 _ _ (by omega) (by omega)).mono ?_; rintro e w' ⟨rfl, hw⟩; rw [hw, hback, show sep2.data.toList = [32, 10] from rfl]; clear hw)
          go_ret
          exact ⟨by rw [Lib.indexAny_hit HN.out Hx.out hin]; rfl, HB2.out⟩
      · have hd := decode_high s i hi (by rw [hx]; omega)
        have hk := decode_skip s i hi (by rw [hx]; omega)
        have hle := decode_le s i
        have hnx := fun ty => run_next_any_at (P := Tryz.prog) wx w.heap.size s i ty hit hi
        obtain ⟨r, hr⟩ : ∃ r, (Utf8.decode s i).1 = r := ⟨_, rfl⟩
        obtain ⟨k, hkk⟩ : ∃ k, (Utf8.decode s i).2 = k := ⟨_, rfl⟩
        rw [hr, hkk] at hnx
        rw [hr, hkk] at hd
        rw [hkk] at hk
        rw [hr] at hle
        have HI : Hid _ := hide (iterAt_heap wx w.heap.size s i (i + k) hit)
        have HB2 : Hid _ := hide (iterAt_below (s := s) (p := i + k) HB.out)
        have HN2 : Hid _ := hide (noAny_skip HN.out hk.1 hk.2)
        obtain ⟨hd1, hd2⟩ := hd
        have hk1 := hk.1
        clear hxl hx hit hr hkk hk
        go_wp2_with (go_at_call 133; refine (rune_off (r : Int) _ (by omega) (by omega)).mono ?_; rintro e w2 ⟨rfl, hb2⟩; have HB3 : Hid _ := hide hb2; clear hb2)
        go_roundg (s.size - (i + k))
        case measure => omega
        case rel => exact ⟨i + k, by omega, (HB3.out.block w.heap.size (Array.getElem?_eq_some_iff.1 HI.out).1).trans HI.out, hide (below_trans HB2.out HB3.out), HN2⟩
end Go.Proofs.YteaopalhbnhbaaaGreatDoor
