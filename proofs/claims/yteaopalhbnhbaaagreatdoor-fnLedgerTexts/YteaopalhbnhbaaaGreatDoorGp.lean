/- The library's IndexAny at the blank and the line's end, whatever the bytes. -/
import Derived.Test.YteaopalhbnhbaaaGreatDoorWnt
import Derived.Laws.RangeAny
import Derived.WalkMore
import Derived.Lib.OthersKept
import Derived.Deep.LoopGhost
import Derived.Lib.ParseIntB
import Derived.Lib.AtoiErrMem
import Derived.Lib.ParseIntBTie
namespace Go.Proofs.YteaopalhbnhbaaaGreatDoor
open Go.ChangeShapes Go.WideShapes Go.ChangeAt Go.RowKit Go.Lib
set_option linter.unusedVariables false
set_option maxRecDepth 100000
theorem get_bang (s : ByteArray) (i : Nat) (h : i < s.size) : s.get! i = s[i]'h := by
  simp [ByteArray.get!, getElem!_pos, h]
  rfl
/-- behind a first byte of 128 or more all bytes that are taken with it are so -/
theorem decode_skip (s : ByteArray) (pos : Nat) (h : pos < s.size) (ha : 128 ≤ (s[pos]'h).toNat) :
    pos + (Utf8.decode s pos).2 ≤ s.size ∧ ∀ j, j < (Utf8.decode s pos).2 → 128 ≤ (s.get! (pos + j)).toNat := by
  have hn : ¬ (s[pos]'h).toNat < 128 := by omega
  have e0 : 128 ≤ (s.get! (pos + 0)).toNat := by rw [get_at s pos h]; exact ha
  simp only [Utf8.decode, get_at s pos h, hn, if_false]
  have one : ∀ j, j < 1 → 128 ≤ (s.get! (pos + j)).toNat := fun j hj => by
    obtain rfl : j = 0 := by omega
    exact e0
  split
  · rename_i q
    simp only [Bool.and_eq_true, decide_eq_true_eq, beq_iff_eq] at q
    split
    · refine ⟨by simp only; omega, fun j hj => ?_⟩
      simp only at hj
      match j, hj with
      | 0, _ => exact e0
      | 1, _ => omega
    · exact ⟨by simp only; omega, one⟩
  · split
    · rename_i q
      simp only [Bool.and_eq_true, decide_eq_true_eq, beq_iff_eq] at q
      split
      · refine ⟨by simp only; omega, fun j hj => ?_⟩
        simp only at hj
        match j, hj with
        | 0, _ => exact e0
        | 1, _ => omega
        | 2, _ => omega
      · exact ⟨by simp only; omega, one⟩
    · split
      · rename_i q
        simp only [Bool.and_eq_true, decide_eq_true_eq, beq_iff_eq] at q
        split
        · refine ⟨by simp only; omega, fun j hj => ?_⟩
          simp only at hj
          match j, hj with
          | 0, _ => exact e0
          | 1, _ => omega
          | 2, _ => omega
          | 3, _ => omega
        · exact ⟨by simp only; omega, one⟩
      · exact ⟨by simp only; omega, one⟩
theorem encode_len {r : Int} (h0 : 128 ≤ r) (hv : Utf8.valid r = true) : (∃ a b : UInt8, Utf8.encode r = ⟨#[a, b]⟩ ∧ 128 ≤ b.toNat) ∨ 3 ≤ (Utf8.encode r).size ∧ (Utf8.encode r).size ≤ 4 := by
  unfold Utf8.encode
  simp only [hv, if_true]
  rw [if_neg (by omega)]
  split
  · refine .inl ⟨_, _, rfl, ?_⟩
    simp only [UInt8.toNat_ofNat']
    omega
  · split
    · exact .inr ⟨by simp [ByteArray.size], by simp [ByteArray.size]⟩
    · exact .inr ⟨by simp [ByteArray.size], by simp [ByteArray.size]⟩
def sep2 : ByteArray := ⟨#[32, 10]⟩
/-- none of the two is such a rune -/
def NoRune (w : World) (e : Ending) (w' : World) : Prop := e = .returned (.int .i64 (-1)) ∧ Below w.heap.size w w'
theorem iter_below (w : World) (s : ByteArray) (p : Nat) : Below w.heap.size w (w.iter s p) := below_alloc (Below.refl _ _) _
set_option maxHeartbeats 4000000 in
theorem rune_error (w : World) : Calls Tryz.prog 133 #[.string sep2, .int .i32 65533] w fun e w' => NoRune w e w' := by
  have n0 := fun ty => run_next_ascii (P := Tryz.prog) w sep2 0 ty (by decide) (by decide)
  have n1 := fun ty => run_next_ascii (P := Tryz.prog) w sep2 1 ty (by decide) (by decide)
  have n2 := fun ty => run_next_end (P := Tryz.prog) w sep2 2 ty (by decide)
  go_enter Tryz.func133, Tryz.ntmps133
  go_wp2
  go_loopg [5, 6] 2 (fun g _ _ wx => ∃ i : Nat, i + g = 2 ∧ wx = w.iter sep2 i)
  case atStart => exact ⟨0, by omega, rfl⟩
  case round =>
    obtain ⟨i, hig, rfl⟩ := hrel
    match gk, hig with
    | 0, hig =>
      obtain rfl : i = 2 := by omega
      go_wp2
      go_ret
      exact ⟨rfl, iter_below _ _ _⟩
    | 1, hig =>
      obtain rfl : i = 1 := by omega
      go_wp2
      go_roundg 0
      case measure => omega
      case rel => exact ⟨2, by omega, rfl⟩
    | 2, hig =>
      obtain rfl : i = 0 := by omega
      go_wp2
      go_roundg 1
      case measure => omega
      case rel => exact ⟨1, by omega, rfl⟩
set_option maxHeartbeats 4000000 in
theorem rune_bad (r : Int) (w : World) (h0 : 128 ≤ r) (h1 : r ≤ 2147483647) (he : r ≠ 65533) (hv : Lib.validRune r = false) : Calls Tryz.prog 133 #[.string sep2, .int .i32 r] w fun e w' => NoRune w e w' := by
  have g0 : ¬ r < 128 := by omega
  have ge : (r == 65533) = false := by simpa using he
  go_enter Tryz.func133, Tryz.ntmps133
  go_wp2_with (first | (go_at_call 143; refine (Tryz.utf8_ValidRune r _).mono ?_; rintro e w1 ⟨rfl, hw⟩; rw [hw, hv]; clear hw))
  go_ret
  exact ⟨rfl, Below.refl _ _⟩
set_option maxHeartbeats 4000000 in
theorem rune_two (r : Int) (a b : UInt8) (w : World) (h0 : 128 ≤ r) (h1 : r ≤ 2147483647) (he : r ≠ 65533) (hv : Lib.validRune r = true) (hen : Utf8.encode r = ⟨#[a, b]⟩) (hb : 128 ≤ b.toNat) : Calls Tryz.prog 133 #[.string sep2, .int .i32 r] w fun e w' => NoRune w e w' := by
  have g0 : ¬ r < 128 := by omega
  have ge : (r == 65533) = false := by simpa using he
  go_enter Tryz.func133, Tryz.ntmps133
  go_wp2_with (first | (go_at_call 143; refine (Tryz.utf8_ValidRune r _).mono ?_; rintro e w1 ⟨rfl, hw⟩; rw [hw, hv]; clear hw))
  go_step3
  have i1 : ∀ w, (Instr.index 9 (.string sep2) (.int .i64 1)).run Tryz.prog w = .ok (.int .u8 10) w := fun w => by kernel_rfl
  have i2 : ∀ w, (Instr.index 9 (.string ⟨#[a, b]⟩) (.int .i64 1)).run Tryz.prog w = .ok (.int .u8 b.toNat) w := fun w => by kernel_rfl
  have i3 : ∀ w, (Instr.slice 9 (.string sep2) (some (.int .i64 2)) none none).run Tryz.prog w = .ok (.string ⟨#[]⟩) w := fun w => by kernel_rfl
  have i4 : ∀ w, (Instr.slice 9 (.string sep2) (some (.int .i64 (IntKind.i64.wrap 2))) none none).run Tryz.prog w = .ok (.string ⟨#[]⟩) w := fun w => by kernel_rfl
  have hw2 : IntKind.i64.wrap 2 = 2 := by decide
  have hne : ((10 : Int) == (b.toNat : Int)) = false := by simp; omega
  have hlt : (1 : Int) < (sep2.size : Int) := by decide
  go_wp2
  go_loop [9] (fun i => i = .int .i64 1) (fun i => 0)
  case atStart => rfl
  case round =>
    subst hrel
    go_wp2
    go_step3
    go_wp2
    go_quiet (fail)
    go_wp2
    have hb2 : Below w.heap.size w (w.drewN nq) := below_drewN (Below.refl _ _) nq
    have HB2 : Hid _ := hide hb2
    clear hb2
    generalize w.drewN nq = W at *
    have hne2 : Nonempty (Later W) := later_there _
    refine wp_region_later W (by kernel_rfl) (by kernel_rfl) ((Below.refl _ _).drew) ?_
    repeat (go_big_quiet_step (first | (go_at_call 142; exact later_same (Tryz.strings_IndexByte _ _ _))))
    refine wpQuiet_nil ?_
    intro _ hw'
    obtain ⟨nx, rfl⟩ := hw'
    have h9 : (Lib.indexByte ({ data := #[] } : ByteArray).data.toList (b.toNat : Int).toNat.toUInt8) = -1 := rfl
    go_wp2
    rw [Exit.noGoto_ret]
    go_ret
    exact ⟨rfl, below_trans HB2.out nx.below⟩
set_option maxHeartbeats 4000000 in
theorem rune_long (r : Int) (s : ByteArray) (w : World) (h0 : 128 ≤ r) (h1 : r ≤ 2147483647) (he : r ≠ 65533) (hv : Lib.validRune r = true) (hen : Utf8.encode r = s) (hs3 : 3 ≤ s.size) (hs4 : s.size ≤ 4) : Calls Tryz.prog 133 #[.string sep2, .int .i32 r] w fun e w' => NoRune w e w' := by
  have g0 : ¬ r < 128 := by omega
  have ge : (r == 65533) = false := by simpa using he
  go_enter Tryz.func133, Tryz.ntmps133
  go_wp2_with (first | (go_at_call 143; refine (Tryz.utf8_ValidRune r _).mono ?_; rintro e w1 ⟨rfl, hw⟩; rw [hw, hv]; clear hw))
  go_step3
  have hss : sep2.size = 2 := rfl
  go_wp2
  go_loop [9] (fun i => i = .int .i64 ((s.size : Int) - 1)) (fun i => 0)
  case atStart => rfl
  case round =>
    subst hrel
    have hlt : ¬ ((s.size : Int) - 1 < (sep2.size : Int)) := by rw [hss]; omega
    have hlt2 : ¬ ((s.size : Int) - 1 < 2) := by omega
    go_wp2
    go_ret
    exact ⟨rfl, Below.refl _ _⟩
/-- whatever the rune: from 128 on it is neither the blank nor the line's end -/
theorem rune_off (r : Int) (w : World) (h0 : 128 ≤ r) (h1 : r ≤ 2147483647) : Calls Tryz.prog 133 #[.string sep2, .int .i32 r] w fun e w' => NoRune w e w' := by
  by_cases he : r = 65533
  · subst he; exact rune_error w
  · cases hv : Lib.validRune r
    · exact rune_bad r w h0 h1 he hv
    · have hv2 : Utf8.valid r = true := by
        simp only [Lib.validRune, decide_eq_true_eq] at hv
        simp only [Utf8.valid, Bool.or_eq_true, Bool.and_eq_true, decide_eq_true_eq]
        omega
      rcases encode_len h0 hv2 with ⟨a, b, e, hb⟩ | ⟨h3, h4⟩
      · exact rune_two r a b w h0 h1 he hv e hb
      · exact rune_long r _ w h0 h1 he hv rfl h3 h4
theorem iterAt_below {w x : World} {s : ByteArray} {p : Nat} (h : Below w.heap.size w x) : Below w.heap.size w (x.iterAt w.heap.size s p) :=
  ⟨h.os, h.tape, h.output, by have := h.size; simpa [World.iterAt] using this, fun k hk => by
    rw [← h.block k hk]
    simp only [World.iterAt]
    exact Array.getElem?_setIfInBounds_ne (by omega)⟩
theorem iterAt_size (w : World) (k : Nat) (s : ByteArray) (p : Nat) : (w.iterAt k s p).heap.size = w.heap.size := by simp [World.iterAt]
theorem noAny_skip {s : ByteArray} {i k : Nat} (h : Lib.NoAny s.data.toList [32, 10] i) (hk : i + k ≤ s.size) (hs : ∀ j, j < k → 128 ≤ (s.get! (i + j)).toNat) : Lib.NoAny s.data.toList [32, 10] (i + k) := fun j b hj hb => by
  rcases Nat.lt_or_ge j i with q | q
  · exact h j b q hb
  · have hz := hs (j - i) (by omega)
    rw [show i + (j - i) = j by omega, get_bang s j (by omega)] at hz
    have e : s.data.toList[j]? = some (s[j]'(by omega)) := Lib.data_getElem? s j (by omega)
    rw [e] at hb
    cases hb
    simp only [List.contains_cons, List.contains_nil, Bool.or_false, Bool.or_eq_false_iff, beq_eq_false_iff_ne, ne_eq]
    constructor <;> (intro z; rw [z] at hz; revert hz; decide)
set_option maxHeartbeats 8000000 in
theorem indexAny_short (s : ByteArray) (w : World) (h8 : s.size ≤ 8) :
    Calls Tryz.prog 130 #[.string s, .string sep2] w fun e w' => e = .returned (.int .i64 (Lib.indexAny s.data.toList [32, 10])) ∧ Below w.heap.size w w' := by
  have h8z : decide ((8 : Int) < (s.size : Int)) = false := decide_eq_false (by omega)
  have hemp : sep2.toList.isEmpty = false := by rw [Lib.toList_data]; rfl
  have hn1 : ((sep2.size : Int) == 1) = false := by decide
  go_enter Tryz.func130, Tryz.ntmps130
  go_wp2_with (first | (go_at_call 134; refine (Tryz.strings_shouldUseASCIISet _ _).mono ?_; rintro e w' ⟨rfl, hw⟩; rw [hw, h8z]; clear hw))
  go_loopg [9, 10] s.size (fun g _ _ wx => ∃ i : Nat, i + g = s.size ∧ wx.heap[w.heap.size]? = some (.stringIter s i) ∧ Hid (Below w.heap.size w wx) ∧ Hid (Lib.NoAny s.data.toList [32, 10] i))
  case atStart => exact ⟨0, by omega, World.iter_heap w s 0, hide (iter_below _ _ _), hide (Lib.NoAny.zero _ _)⟩
  case round =>
    obtain ⟨i, hig, hit, HB, HN⟩ := hrel
    rename World => wx
    cases gk with
    | zero =>
      obtain rfl : i = s.size := by omega
      have hnx := fun ty => run_next_end_at (P := Tryz.prog) wx w.heap.size s s.size ty hit (Nat.lt_irrefl _)
      go_wp2
      go_ret
      exact ⟨by rw [Lib.indexAny_none (by rw [← Lib.size_eq]; exact HN.out)]; rfl, HB.out⟩
    | succ g =>
      have hi : i < s.size := by omega
      obtain ⟨x, hx⟩ : ∃ x : UInt8, s[i]'hi = x := ⟨_, rfl⟩
      have hxl : s.data.toList[i]? = some x := by rw [← hx]; exact Lib.data_getElem? s i hi
      have Hx : Hid (s.data.toList[i]? = some x) := hide hxl
      by_cases hx128 : x.toNat < 128
      · have hnx := fun ty => run_next_ascii_at (P := Tryz.prog) wx w.heap.size s i ty hit hi (by rw [hx]; exact hx128)
        rw [hx] at hnx
        have HI : Hid _ := hide (iterAt_heap wx w.heap.size s i (i + 1) hit)
        have HB2 : Hid _ := hide (iterAt_below (s := s) (p := i + 1) HB.out)
        clear hxl hx hit
        have hcon := Lib.contains_iff_indexByte [32, 10] x
        have hback : ((x.toNat : Int)).toNat.toUInt8 = x := by simp
        cases hin : [32, 10].contains x
        · rw [hin] at hcon
          have hlt : ¬ ((0 : Int) ≤ Lib.indexByte [32, 10] x) := of_decide_eq_false hcon.symm
          clear hcon
          go_wp2_with (go_at_call 133; refine (Tryz.strings_IndexRune_ascii sep2 _ _ (by omega) (by omega)).mono ?_; rintro e w' ⟨rfl, hw⟩; rw [hw, hback, show sep2.data.toList = [32, 10] from rfl]; clear hw)
          go_roundg g
          case measure => omega
          case rel => exact ⟨i + 1, by omega, HI.out, HB2, hide (HN.out.succ Hx.out hin)⟩
        · rw [hin] at hcon
          have hge : (0 : Int) ≤ Lib.indexByte [32, 10] x := of_decide_eq_true hcon.symm
          clear hcon
          go_wp2_with (go_at_call 133; refine (Tryz.strings_IndexRune_ascii sep2 _ _ (by omega) (by omega)).mono ?_; rintro e w' ⟨rfl, hw⟩; rw [hw, hback, show sep2.data.toList = [32, 10] from rfl]; clear hw)
          go_ret
          exact ⟨by rw [Lib.indexAny_hit HN.out Hx.out hin]; rfl, HB2.out⟩
      · have hd := decode_high s i hi (by rw [hx]; omega)
        have hk := decode_skip s i hi (by rw [hx]; omega)
        have hle := decode_le s i
        have hnx := fun ty => run_next_any_at (P := Tryz.prog) wx w.heap.size s i ty hit hi
        obtain ⟨r, hr⟩ : ∃ r, (Utf8.decode s i).1 = r := ⟨_, rfl⟩
        obtain ⟨k, hkk⟩ : ∃ k, (Utf8.decode s i).2 = k := ⟨_, rfl⟩
        rw [hr, hkk] at hnx
        rw [hr, hkk] at hd
        rw [hkk] at hk
        rw [hr] at hle
        have HI : Hid _ := hide (iterAt_heap wx w.heap.size s i (i + k) hit)
        have HB2 : Hid _ := hide (iterAt_below (s := s) (p := i + k) HB.out)
        have HN2 : Hid _ := hide (noAny_skip HN.out hk.1 hk.2)
        obtain ⟨hd1, hd2⟩ := hd
        have hk1 := hk.1
        clear hxl hx hit hr hkk hk
        go_wp2_with (go_at_call 133; refine (rune_off (r : Int) _ (by omega) (by omega)).mono ?_; rintro e w2 ⟨rfl, hb2⟩; have HB3 : Hid _ := hide hb2; clear hb2)
        go_roundg (s.size - (i + k))
        case measure => omega
        case rel => exact ⟨i + k, by omega, (HB3.out.block w.heap.size (Array.getElem?_eq_some_iff.1 HI.out).1).trans HI.out, hide (below_trans HB2.out HB3.out), HN2⟩
end Go.Proofs.YteaopalhbnhbaaaGreatDoor
/- The reader of texts: words, numbers, kinds. -/
namespace Go.Proofs.YteaopalhbnhbaaaGreatDoor
open Go.ChangeShapes Go.WideShapes Go.ChangeAt Go.RowKit Go.Lib
set_option linter.unusedVariables false
set_option maxRecDepth 100000
theorem zero256 (w : World) : (zeroValue 159).run Tryz.prog w = .ok (.agg (Array.replicate 256 (.bool false))) w := by
  have e : Tryz.t159.zero = some (.agg (Array.replicate 256 (.bool false))) := by kernel_rfl
  simp [zeroValue, e]
theorem indexAny_any (l : List UInt8) (w : World) (hl : l.length ≤ 1048576) :
    Calls Tryz.prog 130 #[.string (bs l), .string sep2] w fun e w' => e = .returned (.int .i64 (Lib.indexAny l [32, 10])) ∧ Below w.heap.size w w' := by
  by_cases h8 : l.length ≤ 8
  · have := indexAny_short (bs l) w (by rw [bs_size]; exact h8)
    rw [bs_list] at this
    exact this
  · refine (Tryz.strings_IndexAny_long zero256 (bs l) sep2 w (by decide) (by rw [bs_size]; omega) (by rw [bs_size]; omega) (by decide) (fun j b hb => ?_)).mono ?_
    · have e : sep2.data.toList = [32, 10] := rfl
      rw [e] at hb
      match j, hb with
      | 0, hb => simp at hb; subst hb; decide
      | 1, hb => simp at hb; subst hb; decide
    · rintro e w' ⟨rfl, rfl⟩
      exact ⟨by rw [bs_list]; rfl, below_alloc (below_alloc (Below.refl _ _) _) _⟩
theorem sep_in (c : UInt8) : [32, 10].contains c = sepB c := by
  rw [Bool.eq_iff_iff]
  simp [sepB]
theorem idx_word (l : List UInt8) : Lib.indexAny l [32, 10] = if restOf l = [] then -1 else ((wordOf l).length : Int) := by
  induction l with
  | nil => rfl
  | cons c r ih =>
    rw [Lib.indexAny, sep_in]
    cases h : sepB c
    · have e1 : wordOf (c :: r) = c :: wordOf r := by simp [wordOf, h]
      have e2 : restOf (c :: r) = restOf r := by simp [restOf, h]
      rw [e1, e2, ih]
      by_cases q : restOf r = []
      · simp [q]
      · rw [if_neg q, if_neg q]
        simp only [Bool.false_eq_true, if_false, List.length_cons]
        rw [if_neg (by first | (simp; done) | (simp; omega))]
        omega
    · have e1 : wordOf (c :: r) = [] := by simp [wordOf, h]
      have e2 : restOf (c :: r) = c :: r := by simp [restOf, h]
      rw [e1, e2]
      simp
theorem word_size (l : List UInt8) : (wordOf l).length ≤ l.length := by
  have := congrArg List.length (word_rest l)
  simp only [List.length_append] at this
  omega
theorem rest_size (l : List UInt8) : (restOf l).length ≤ l.length := by
  have := congrArg List.length (word_rest l)
  simp only [List.length_append] at this
  omega
theorem bs_take (l : List UInt8) (k : Nat) : (bs l).extract 0 k = bs (l.take k) := bs_of (by rw [Lib.extract_data, bs_list]; simp)
theorem bs_drop (l : List UInt8) (k : Nat) : (bs l).extract k l.length = bs (l.drop k) := bs_of (by rw [Lib.extract_data, bs_list]; exact List.take_of_length_le (by simp))
theorem word_take (l : List UInt8) : l.take (wordOf l).length = wordOf l := by
  have h := word_rest l
  generalize wordOf l = a at h ⊢
  rw [← h]
  simp
theorem word_drop (l : List UInt8) : l.drop (wordOf l).length = restOf l := by
  have h := word_rest l
  generalize wordOf l = a at h ⊢
  generalize restOf l = r at h ⊢
  rw [← h]
  simp
set_option maxHeartbeats 2000000 in
theorem rword_any (B : Nat) (l : List UInt8) (w : World) (h : Blk B [.string (bs l)] w) (hl : l.length ≤ 1048576) :
    Calls Tryz.prog 126 #[.pointer (some ⟨B, 0, none⟩)] w fun e w' => e = .returned (.string (bs (wordOf l))) ∧ RdTo B (restOf l) w w' := by
  have c0 := h.c 0 _ rfl
  have HB : Hid _ := hide h
  have hsz : (bs l).size = l.length := bs_size l
  have HT : Hid ((bs l).extract 0 (wordOf l).length = bs (wordOf l)) := hide (by rw [bs_take, word_take])
  have HD : Hid ((bs l).extract (wordOf l).length (bs l).size = bs (restOf l)) := hide (by rw [bs_size, bs_drop, word_drop])
  have hws := word_size l
  have hix := idx_word l
  clear h
  go_enter Tryz.func126, Tryz.ntmps126
  go_wp2_with fail
  refine (indexAny_any l w hl).mono ?_
  rintro e w1 ⟨rfl, hb1⟩
  have HR : Hid _ := hide (RdTo.start HB.out hb1)
  have c1 := HR.out.1.c 0 _ rfl
  have f1 := HR.out.1.f 0
  clear hb1 c0
  rw [hix]
  by_cases q : restOf l = []
  · rw [if_pos q]
    have e1 : wordOf l = l := by have := word_rest l; rw [q] at this; simpa using this
    have Q : Hid _ := hide q
    have E1 : Hid _ := hide e1
    clear hix q e1 hws
    have HE : Hid ((bs l).extract 0 (bs l).size = bs l) := hide (by rw [bs_size, bs_take]; simp)
    have HE2 : Hid ((bs l).extract (bs l).size (bs l).size = bs []) := hide (by rw [bs_size, bs_drop]; simp)
    go_wp2
    go_ret
    refine ⟨by rw [E1.out, bs_take, List.take_length]; rfl, ?_⟩
    rw [Q.out]
    exact HR.out.set
  · rw [if_neg q]
    clear hix q
    obtain ⟨k, hk⟩ : ∃ k, k = (wordOf l).length := ⟨_, rfl⟩
    rw [← hk] at HT HD hws ⊢
    have HK : Hid _ := hide hk
    clear hk
    have k0 : ¬ (k : Int) < 0 := by omega
    go_wp2
    go_ret
    have hd := HD.out
    rw [bs_size] at hd
    refine ⟨by rw [HT.out]; rfl, ?_⟩
    rw [hd]
    exact HR.out.set
end Go.Proofs.YteaopalhbnhbaaaGreatDoor
/- The reader of texts: numbers. -/
namespace Go.Proofs.YteaopalhbnhbaaaGreatDoor
open Go.ChangeShapes Go.WideShapes Go.ChangeAt Go.RowKit Go.Lib
set_option linter.unusedVariables false
set_option maxRecDepth 100000
theorem hundL_mono (l : List UInt8) (hd : ∀ c ∈ l, 48 ≤ c.toNat ∧ c.toNat ≤ 57) (a : Int) (ha : 0 ≤ a) : a ≤ hundL l a := by
  induction l generalizing a with
  | nil => simp [hundL]
  | cons c r ih =>
    have h := hd c (List.mem_cons_self ..)
    have := ih (fun x hx => hd x (List.mem_cons_of_mem _ hx)) (10 * a + c.toNat - 48) (by omega)
    simp only [hundL]
    rw [if_neg (by omega)]
    omega
theorem parse_digits (l : List UInt8) (hd : ∀ c ∈ l, 48 ≤ c.toNat ∧ c.toNat ≤ 57) (acc : Nat) (hb : hundL l acc ≤ 100000000000000) : parseUintM (2 ^ 64 - 1) acc l = .ok (hundL l acc).toNat := by
  induction l generalizing acc with
  | nil => simp [parseUintM, hundL]
  | cons c r ih =>
    have h := hd c (List.mem_cons_self ..)
    have hr := fun x hx => hd x (List.mem_cons_of_mem _ hx)
    have e : hundL (c :: r) acc = hundL r ((acc * 10 + (c.toNat - 48) : Nat) : Int) := by
      simp only [hundL]
      rw [if_neg (by omega)]
      congr 1
      omega
    rw [e] at hb ⊢
    have hm := hundL_mono r hr ((acc * 10 + (c.toNat - 48) : Nat) : Int) (by omega)
    rw [parseUintM, if_pos h, if_neg (by omega), if_neg (by omega)]
    exact ih hr _ hb
theorem parse_dec {m : Nat} (h : m ≤ 99999999999999) : parseUintB 64 (dec m) = .ok m := by
  unfold parseUintB
  rw [if_neg (dec_ne_nil m)]
  have e := hundL_dec m (by omega)
  have := parse_digits (dec m) (dec_digit m) 0 (by rw [show ((0 : Nat) : Int) = 0 from rfl, e]; omega)
  rw [this, show ((0 : Nat) : Int) = 0 from rfl, e]
  rfl
theorem parse_itoa {n : Int} (h0 : -99999999999999 ≤ n) (h1 : n ≤ 99999999999999) : parseIntB 64 (itoa n) = .ok n := by
  by_cases h : n < 0
  · rw [← itoa_neg h (by omega)]
    have hp := parse_dec (m := (-n).toNat) (by omega)
    have e45 : (45 : UInt8).toNat = 45 := rfl
    simp only [parseIntB, show (45 : UInt8).toNat = 45 from rfl, or_true, if_true, hp, not_true_eq_false, false_and, if_false, true_and]
    rw [if_neg (by omega)]
    congr 1
    omega
  · rw [← itoa_pos (by omega) (by omega)]
    have hp := parse_dec (m := n.toNat) (by omega)
    cases hd : dec n.toNat with
    | nil => exact absurd hd (dec_ne_nil _)
    | cons c r =>
      have hc := dec_digit n.toNat c (by rw [hd]; simp)
      rw [hd] at hp
      unfold parseIntB
      simp only
      rw [if_neg (by omega), hp]
      simp only
      rw [if_neg (by omega), if_neg (by omega), if_neg (by omega)]
      congr 1
      omega
/-- a word that is a number's text -/
def IsNum (l : List UInt8) (n : Int) : Prop := (-99999999999999 ≤ n ∧ n ≤ 99999999999999) ∧ itoa n = l
theorem bs_inj {a b : List UInt8} (h : bs a = bs b) : a = b := by rw [← bs_list a, ← bs_list b, h]
theorem bs_beq (a b : List UInt8) : ((bs a).toList == (bs b).toList) = (a == b) := by
  rw [Lib.toList_data, Lib.toList_data, bs_list, bs_list]
set_option maxHeartbeats 4000000 in
theorem number_yes (p : Value) (l : List UInt8) (n : Int) (t : TypeId) (v : Value) (w : World) (E : Env t v w) (h : IsNum l n) :
    Calls Tryz.prog 116 #[p, .string (bs l)] w fun e w' => e = .returned (.int .i64 n) ∧ Below w.heap.size w w' := by
  obtain ⟨⟨h0, h1⟩, e⟩ := h
  have hb : inB (-99999999999999) 99999999999999 n = true := by simp [inB]; omega
  have hq : ((bs (itoa n)).toList == (bs l).toList) = true := by rw [e]; simp
  have HE : Hid _ := hide E
  have hl : (itoa n).length ≤ 17 := itoa_len (by omega) (by omega)
  have HP : Hid _ := hide (Tryz.strconv_ParseInt_10_at64_ok (bs l) (by rw [bs_size, ← e]; omega) n (by rw [bs_list, ← e]; exact parse_itoa h0 h1) w)
  clear E e
  go_enter Tryz.func116, Tryz.ntmps116
  go_wp2_with fail
  refine HP.out.mono ?_
  rintro e w1 ⟨rfl, hw1⟩
  have hb1 : Below w.heap.size w w1 := by
    rcases hw1 with rfl | ⟨t', rfl⟩
    · exact Below.refl _ _
    · exact Lib.bytesWorld_below _ _ _
  have HB1 : Hid _ := hide hb1
  clear hw1 hb1 HP
  go_wp2_with fail
  refine (within_any _ _ _ _).mono ?_
  rintro e w2 ⟨rfl, hw⟩
  rw [hw, hb]
  clear hw
  go_wp2_with fail
  refine (want_yes p _).mono ?_
  rintro e w2 ⟨rfl, hw⟩
  rw [hw]
  clear hw
  go_wp2_with fail
  refine (numberText_any n _ (by omega) (by omega) (HE.out.below HB1.out).tab).mono ?_
  rintro e w3 ⟨rfl, hb3⟩
  have HB3 : Hid _ := hide (below_trans HB1.out hb3)
  clear hb3
  go_wp2_with fail
  refine (want_yes p _).mono ?_
  rintro e w4 ⟨rfl, hw⟩
  rw [hw]
  clear hw
  go_wp2_with fail
  go_ret
  exact ⟨rfl, HB3.out⟩
/-- a call that gives up, and of what was there nothing has turned -/
def GvEnd (t : TypeId) (v : Value) (w : World) (e : Ending) (w' : World) : Prop := e = gaveUp t v ∧ Below w.heap.size w w'
set_option maxHeartbeats 4000000 in
theorem number_no (p : Value) (l : List UInt8) (t : TypeId) (v : Value) (w : World) (E : Env t v w) (hl : l.length ≤ 1048576) (h : ∀ n, ¬ IsNum l n) :
    Calls Tryz.prog 116 #[p, .string (bs l)] w fun e w' => GvEnd t v w e w' := by
  have HE : Hid _ := hide E
  have HN : Hid _ := hide h
  cases hp : parseIntB 64 l with
  | ok n =>
    have hbd := Lib.parseIntB_bounds hp
    have HP : Hid _ := hide (Tryz.strconv_ParseInt_10_at64_ok (bs l) (by rw [bs_size]; omega) n (by rw [bs_list]; exact hp) w)
    clear E h hp
    go_enter Tryz.func116, Tryz.ntmps116
    go_wp2_with fail
    refine HP.out.mono ?_
    rintro e w1 ⟨rfl, hw1⟩
    have hb1 : Below w.heap.size w w1 := by
      rcases hw1 with rfl | ⟨t', rfl⟩
      · exact Below.refl _ _
      · exact Lib.bytesWorld_below _ _ _
    have HB1 : Hid _ := hide hb1
    clear hw1 hb1 HP
    go_wp2_with fail
    refine (within_any _ _ _ _).mono ?_
    rintro e w2 ⟨rfl, hw⟩
    rw [hw]
    clear hw
    cases hb : inB (-99999999999999) 99999999999999 n
    · go_wp2_with fail
      refine (want_no p t v _ (HE.out.below HB1.out)).mono ?_
      rintro e w2 ⟨rfl, hw⟩
      rw [hw]
      clear hw
      unfold gaveUp
      go_wp2_with fail
      exact ⟨rfl, rfl, HB1.out⟩
    · go_wp2_with fail
      refine (want_yes p _).mono ?_
      rintro e w2 ⟨rfl, hw⟩
      rw [hw]
      clear hw
      have hb' : -99999999999999 ≤ n ∧ n ≤ 99999999999999 := by simpa [inB] using hb
      have hq : ((bs (itoa n)).toList == (bs l).toList) = false := by
        rw [bs_beq]
        cases q : (itoa n == l)
        · rfl
        · exact absurd ⟨hb', beq_iff_eq.1 q⟩ (HN.out n)
      go_wp2_with fail
      refine (numberText_any n _ (by omega) (by omega) (HE.out.below HB1.out).tab).mono ?_
      rintro e w3 ⟨rfl, hb3⟩
      have HB3 : Hid _ := hide (below_trans HB1.out hb3)
      clear hb3
      go_wp2_with fail
      refine (want_no p t v _ (HE.out.below HB3.out)).mono ?_
      rintro e w4 ⟨rfl, hw⟩
      rw [hw]
      clear hw
      unfold gaveUp
      go_wp2_with fail
      exact ⟨rfl, rfl, HB3.out⟩
  | «syntax» =>
    obtain ⟨ta, va, hs⟩ := E.syn
    have HP : Hid _ := hide (Tryz.strconv_ParseInt_10_at64_syntax (bs l) (by rw [bs_size]; omega) (by rw [bs_list]; exact hp) (.iface ta va) w hs (.inr ⟨ta, va, rfl⟩))
    clear E h hp hs
    go_enter Tryz.func116, Tryz.ntmps116
    go_wp2_with fail
    refine HP.out.mono ?_
    rintro e w1 ⟨N, rfl, _, _, hb1⟩
    have HB1 : Hid _ := hide hb1
    clear hb1 HP
    go_wp2_with fail
    refine (want_no p t v _ (HE.out.below HB1.out)).mono ?_
    rintro e w2 ⟨rfl, hw⟩
    rw [hw]
    clear hw
    unfold gaveUp
    go_wp2_with fail
    exact ⟨rfl, rfl, HB1.out⟩
  | range =>
    obtain ⟨ta, va, hs⟩ := E.rng
    have HP : Hid _ := hide (Tryz.strconv_ParseInt_10_at64_range (bs l) (by rw [bs_size]; omega) (by rw [bs_list]; exact hp) (.iface ta va) w hs (.inr ⟨ta, va, rfl⟩))
    clear E h hp hs
    go_enter Tryz.func116, Tryz.ntmps116
    go_wp2_with fail
    refine HP.out.mono ?_
    rintro e w1 ⟨N, rfl, _, _, hb1⟩
    have HB1 : Hid _ := hide hb1
    clear hb1 HP
    go_wp2_with fail
    refine (want_no p t v _ (HE.out.below HB1.out)).mono ?_
    rintro e w2 ⟨rfl, hw⟩
    rw [hw]
    clear hw
    unfold gaveUp
    go_wp2_with fail
    exact ⟨rfl, rfl, HB1.out⟩
theorem hp_yes (r : List UInt8) : Lib.hasPrefix (32 :: r) [32] = true ∧ Lib.trimPrefix (32 :: r) [32] = r := by
  have h : Lib.hasPrefix (32 :: r) [32] = true := by simp [Lib.hasPrefix]
  exact ⟨h, by unfold Lib.trimPrefix; rw [if_pos h]; rfl⟩
theorem hp_no {l : List UInt8} (hn : l.head? ≠ some 32) : Lib.hasPrefix l [32] = false ∧ Lib.trimPrefix l [32] = l := by
  have h : Lib.hasPrefix l [32] = false := by
    cases l with
    | nil => rfl
    | cons c r =>
      simp only [List.head?_cons, ne_eq, Option.some.injEq] at hn
      simp [Lib.hasPrefix, List.isPrefixOf]
      exact fun e => hn e.symm
  exact ⟨h, by unfold Lib.trimPrefix; rw [h]; rfl⟩
set_option maxHeartbeats 2000000 in
theorem next_yes (B : Nat) (r : List UInt8) (w : World) (h : Blk B [.string (bs (32 :: r))] w) (hl : r.length ≤ 1048576) :
    Calls Tryz.prog 115 #[.pointer (some ⟨B, 0, none⟩)] w fun e w' => e = .returned (.string (bs (wordOf r))) ∧ RdTo B (restOf r) w w' := by
  have HB : Hid _ := hide (begins_any B (32 :: r) [32] w h)
  clear h
  go_enter Tryz.func115, Tryz.ntmps115
  go_wp2_with fail
  refine HB.out.mono ?_
  rintro e w1 ⟨rfl, hr1⟩
  rw [(hp_yes r).2] at hr1
  rw [(hp_yes r).1]
  have HR : Hid _ := hide hr1
  clear hr1 HB
  go_wp2_with fail
  refine (want_yes _ _).mono ?_
  rintro e w2 ⟨rfl, hw⟩
  rw [hw]
  clear hw
  go_wp2_with fail
  refine (rword_any B r _ HR.out.1 hl).mono ?_
  rintro e w3 ⟨rfl, hr3⟩
  have HR3 : Hid _ := hide (HR.out.trans hr3)
  clear hr3
  go_wp2_with fail
  go_ret
  exact ⟨rfl, HR3.out⟩
/-- a call that gives up; the reader alone may have turned -/
def GvTo (B : Nat) (t : TypeId) (v : Value) (w : World) (e : Ending) (w' : World) : Prop := e = gaveUp t v ∧ ∃ l, RdTo B l w w'
set_option maxHeartbeats 2000000 in
theorem next_no (B : Nat) (l : List UInt8) (t : TypeId) (v : Value) (w0 w : World) (E : Env t v w0) (h : Rg w0 B l w) (hn : l.head? ≠ some 32) :
    Calls Tryz.prog 115 #[.pointer (some ⟨B, 0, none⟩)] w fun e w' => GvTo B t v w e w' := by
  have HB : Hid _ := hide (begins_any B l [32] w h.r)
  have HE : Hid _ := hide E
  have HG : Hid _ := hide h
  have HN : Hid _ := hide (hp_no hn)
  clear h E hn
  go_enter Tryz.func115, Tryz.ntmps115
  go_wp2_with fail
  refine HB.out.mono ?_
  rintro e w1 ⟨rfl, hr1⟩
  rw [HN.out.2] at hr1
  rw [HN.out.1]
  have HR : Hid _ := hide hr1
  clear hr1 HB
  go_wp2_with fail
  refine (want_no _ t v _ ((HG.out.tor HR.out).env HE.out)).mono ?_
  rintro e w2 ⟨rfl, hw⟩
  rw [hw]
  clear hw
  unfold gaveUp
  go_wp2_with fail
  exact ⟨rfl, rfl, _, HR.out⟩
end Go.Proofs.YteaopalhbnhbaaaGreatDoor
/- The reader of texts: the next text, the next number, the kind of a command. -/
namespace Go.Proofs.YteaopalhbnhbaaaGreatDoor
open Go.ChangeShapes Go.WideShapes Go.ChangeAt Go.RowKit Go.Lib
set_option linter.unusedVariables false
set_option maxRecDepth 100000
theorem clone_any (s : ByteArray) (w : World) (h : s.size ≤ 1048576) : Calls Tryz.prog 114 #[.string s] w fun e w' => e = .returned (.string s) ∧ Below w.heap.size w w' := by
  go_enter Tryz.func114, Tryz.ntmps114
  go_wp2_with fail
  refine (Tryz.stringslite_Clone s w (by omega)).mono ?_
  rintro e w1 ⟨rfl, hb⟩
  have HB : Hid _ := hide hb
  clear hb
  go_wp2
  go_ret
  exact ⟨rfl, HB.out⟩
set_option maxHeartbeats 2000000 in
theorem nextText_yes (B : Nat) (r : List UInt8) (w : World) (h : Blk B [.string (bs (32 :: r))] w) (hl : r.length ≤ 1048576) :
    Calls Tryz.prog 94 #[.pointer (some ⟨B, 0, none⟩)] w fun e w' => e = .returned (.string (bs (wordOf r))) ∧ RdTo B (restOf r) w w' := by
  have HB : Hid _ := hide (next_yes B r w h hl)
  have hs := word_size r
  clear h
  go_enter Tryz.func94, Tryz.ntmps94
  go_wp2_with fail
  refine HB.out.mono ?_
  rintro e w1 ⟨rfl, hr1⟩
  have HR : Hid _ := hide hr1
  clear hr1 HB
  go_wp2_with fail
  refine (clone_any _ _ (by rw [bs_size]; omega)).mono ?_
  rintro e w2 ⟨rfl, hb2⟩
  have HR2 : Hid _ := hide (HR.out.below hb2)
  clear hb2
  go_wp2_with fail
  go_ret
  exact ⟨rfl, HR2.out⟩
set_option maxHeartbeats 2000000 in
theorem nextText_no (B : Nat) (l : List UInt8) (t : TypeId) (v : Value) (w0 w : World) (E : Env t v w0) (h : Rg w0 B l w) (hn : l.head? ≠ some 32) :
    Calls Tryz.prog 94 #[.pointer (some ⟨B, 0, none⟩)] w fun e w' => GvTo B t v w e w' := by
  have HB : Hid _ := hide (next_no B l t v w0 w E h hn)
  clear h E hn
  go_enter Tryz.func94, Tryz.ntmps94
  go_wp2_with fail
  refine HB.out.mono ?_
  rintro e w1 ⟨rfl, hr1⟩
  have HR : Hid _ := hide hr1
  clear hr1 HB
  unfold gaveUp
  go_wp2_with fail
  exact ⟨rfl, rfl, HR.out⟩
set_option maxHeartbeats 2000000 in
theorem nextNumber_yes (B : Nat) (r : List UInt8) (n : Int) (t : TypeId) (v : Value) (w0 w : World) (E : Env t v w0) (h : Rg w0 B (32 :: r) w) (hl : r.length ≤ 1048576) (hn : IsNum (wordOf r) n) :
    Calls Tryz.prog 95 #[.pointer (some ⟨B, 0, none⟩)] w fun e w' => e = .returned (.int .i64 n) ∧ RdTo B (restOf r) w w' := by
  have HB : Hid _ := hide (next_yes B r w h.r hl)
  have HE : Hid _ := hide E
  have HG : Hid _ := hide h
  have HN : Hid _ := hide hn
  clear h E hn
  go_enter Tryz.func95, Tryz.ntmps95
  go_wp2_with fail
  refine HB.out.mono ?_
  rintro e w1 ⟨rfl, hr1⟩
  have HR : Hid _ := hide hr1
  clear hr1 HB
  go_wp2_with fail
  refine (number_yes _ (wordOf r) n t v _ ((HG.out.tor HR.out).env HE.out) HN.out).mono ?_
  rintro e w2 ⟨rfl, hb2⟩
  have HR2 : Hid _ := hide (HR.out.below hb2)
  clear hb2
  go_wp2_with fail
  go_ret
  exact ⟨rfl, HR2.out⟩
set_option maxHeartbeats 2000000 in
theorem nextNumber_bad (B : Nat) (r : List UInt8) (t : TypeId) (v : Value) (w0 w : World) (E : Env t v w0) (h : Rg w0 B (32 :: r) w) (hl : r.length ≤ 1048576) (hn : ∀ n, ¬ IsNum (wordOf r) n) :
    Calls Tryz.prog 95 #[.pointer (some ⟨B, 0, none⟩)] w fun e w' => GvTo B t v w e w' := by
  have HB : Hid _ := hide (next_yes B r w h.r hl)
  have HE : Hid _ := hide E
  have HG : Hid _ := hide h
  have HN : Hid _ := hide hn
  have hs := word_size r
  clear h E hn
  go_enter Tryz.func95, Tryz.ntmps95
  go_wp2_with fail
  refine HB.out.mono ?_
  rintro e w1 ⟨rfl, hr1⟩
  have HR : Hid _ := hide hr1
  clear hr1 HB
  go_wp2_with fail
  refine (number_no _ (wordOf r) t v _ ((HG.out.tor HR.out).env HE.out) (by omega) HN.out).mono ?_
  rintro e w2 ⟨rfl, hb2⟩
  have HR2 : Hid _ := hide (HR.out.below hb2)
  clear hb2
  unfold gaveUp
  go_wp2_with fail
  exact ⟨rfl, rfl, _, HR2.out⟩
set_option maxHeartbeats 2000000 in
theorem nextNumber_no (B : Nat) (l : List UInt8) (t : TypeId) (v : Value) (w0 w : World) (E : Env t v w0) (h : Rg w0 B l w) (hn : l.head? ≠ some 32) :
    Calls Tryz.prog 95 #[.pointer (some ⟨B, 0, none⟩)] w fun e w' => GvTo B t v w e w' := by
  have HB : Hid _ := hide (next_no B l t v w0 w E h hn)
  clear h E hn
  go_enter Tryz.func95, Tryz.ntmps95
  go_wp2_with fail
  refine HB.out.mono ?_
  rintro e w1 ⟨rfl, hr1⟩
  have HR : Hid _ := hide hr1
  clear hr1 HB
  unfold gaveUp
  go_wp2_with fail
  exact ⟨rfl, rfl, HR.out⟩
end Go.Proofs.YteaopalhbnhbaaaGreatDoor
