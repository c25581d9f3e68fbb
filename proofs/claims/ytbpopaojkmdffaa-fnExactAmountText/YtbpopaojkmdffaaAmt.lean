/- The contracts of decimal, digit, within and AmountText, of the program and of its model. -/
import Derived.Test.YtbpopaojkmdffaaLets
import Derived.Test.YtbpopaojkmdffaaMath
import Derived.Below
import Derived.Laws.BytesArg
namespace Go.Proofs.Ytbpopaojkmdffaa
open Go.ChangeShapes Go.WideShapes Go.ChangeAt Go.RowKit
set_option linter.unusedVariables false

/-- of what was there nothing has turned -/
structure Kept (w w' : World) : Prop where
  grown : Grown w w'
  below : Below w.heap.size w w'
theorem Kept.refl (w : World) : Kept w w := ⟨Grown.refl _, Below.refl _ _⟩
theorem Kept.trans {a b c : World} (h : Kept a b) (k : Kept b c) : Kept a c :=
  ⟨⟨World.keptBut_trans h.grown.1 k.grown.1, fun x => (k.grown.2.1 x).trans (h.grown.2.1 x), Nat.le_trans h.grown.2.2 k.grown.2.2⟩, h.below.trans (k.below.mono h.below.size)⟩
theorem Kept.alloc {a w : World} (h : Kept a w) (c : Array Value) (t : TypeId) : Kept a (w.alloc (.cells c t)) := ⟨h.grown.alloc c t, h.below.alloc h.below.size _⟩
theorem Kept.setCell {a w : World} (h : Kept a w) {p : Addr} (hp : a.heap.size ≤ p.block) (v : Value) : Kept a (w.setCell p v) := ⟨h.grown.setCell hp v, h.below.setCell hp v⟩
theorem Kept.drew {a w : World} (h : Kept a w) : Kept a w.drew := ⟨h.grown.drew, h.below.drew⟩

theorem conv1 (w : World) (a : Int) : (convert 22 9 (.slice (some ⟨w.heap.size, 0, none⟩) 1 1)).run Try.prog (w.alloc (.cells #[.int .u8 a] 5)) = .ok (.string ⟨#[UInt8.ofNat a.toNat]⟩) (w.alloc (.cells #[.int .u8 a] 5)) := by
  have h := run_convert_bytes_arg (P := Try.prog) (w.alloc (.cells #[.int .u8 a] 5)) 22 5 Try.underlying22 Try.underlying5 w.heap.size 0 1 1 [a] rfl (fun i hi => by
    obtain rfl : i = 0 := by omega
    simp) 9 Try.underlying9
  rw [h]; rfl
theorem conv2 (w : World) (a b : Int) : (convert 22 9 (.slice (some ⟨w.heap.size, 0, none⟩) 2 2)).run Try.prog (w.alloc (.cells #[.int .u8 a, .int .u8 b] 5)) = .ok (.string ⟨#[UInt8.ofNat a.toNat, UInt8.ofNat b.toNat]⟩) (w.alloc (.cells #[.int .u8 a, .int .u8 b] 5)) := by
  have h := run_convert_bytes_arg (P := Try.prog) (w.alloc (.cells #[.int .u8 a, .int .u8 b] 5)) 22 5 Try.underlying22 Try.underlying5 w.heap.size 0 2 2 [a, b] rfl (fun i hi => by
    obtain rfl | rfl : i = 0 ∨ i = 1 := by omega
    · simp
    · simp) 9 Try.underlying9
  rw [h]; rfl

theorem digit_any (n : Int) (w : World) (h0 : 0 ≤ n) (h1 : n ≤ 1000000000000000) :
    Calls Try.prog 29 #[.int .i64 n] w fun e w' => e = .returned (.int .u8 (48 + n % 10)) ∧ w' = w := by
  go_enter Try.func29, Try.ntmps29
  go_wp2
  go_ret
  exact ⟨rfl, rfl⟩

set_option maxHeartbeats 400000 in
theorem l1Dec_any (n : Int) (w : World) (h0 : 0 ≤ n) (h1 : n ≤ 1000000000000000) :
    Calls Try.prog 32 #[.int .i64 n] w fun e w' => e = .returned (.string (bs (dec n.toNat))) ∧ Kept w w' := by
  have a1 : ¬ n < 0 := by omega
  go_enter Try.func32, Try.ntmps32
  go_wp2
  go_loopw [0, 3] (fun i s w' => ∃ (k : Int) (f : Nat), 0 ≤ k ∧ k ≤ n ∧ i = .int .i64 k ∧ ∃ b : ByteArray, s = .string b ∧ Kept w w' ∧ b.size + f ≤ 19 ∧ Hid (k.toNat < 10 ^ (f + 1)) ∧ Hid (decA (f + 1) k.toNat b.data.toList = dec n.toNat)) (fun i s w => (intOf i).toNat)
  case atStart => exact ⟨n, 19, h0, by omega, rfl, _, rfl, Kept.refl _, by decide, hide (by omega), hide rfl⟩
  case round =>
    obtain ⟨k, f, hk, hk2, rfl, b, rfl, HK, hb, HP, HD⟩ := hrel
    have hc := conv1
    by_cases h : 10 ≤ k
    · have HD2 : Hid (∃ g, f = g + 1 ∧ (k / 10).toNat < 10 ^ (g + 1) ∧ decA (g + 1) (k / 10).toNat (({ data := #[UInt8.ofNat (48 + k % 10).toNat] } : ByteArray) ++ b).data.toList = dec n.toNat) := hide (by
        have hp := HP.out
        have hd := HD.out
        obtain ⟨g, rfl⟩ : ∃ g, f = g + 1 := by
          rcases f with _ | g
          · simp at hp; omega
          · exact ⟨g, rfl⟩
        refine ⟨g, rfl, by rw [Nat.pow_succ] at hp; omega, ?_⟩
        have := dec_step g k.toNat b _ hd (by omega)
        rw [show (k / 10).toNat = k.toNat / 10 by omega, show (48 + k % 10).toNat = 48 + k.toNat % 10 by omega]
        exact this)
      clear HP HD
      go_wp2
      obtain ⟨g, rfl, hp, hd⟩ := HD2.out
      exact ⟨⟨k / 10, g, by omega, by omega, rfl, _, rfl, HK.alloc _ _, by rw [one_size]; omega, hide hp, hide hd⟩, by simp [intOf]; omega⟩
    · have HD2 : Hid (({ data := #[UInt8.ofNat (48 + k).toNat] } : ByteArray) ++ b = bs (dec n.toNat)) := hide (by
        have := dec_end f k.toNat b _ HD.out (by omega)
        rw [show (48 + k).toNat = 48 + k.toNat by omega]; exact this)
      clear HP HD
      go_wp2
      go_ret
      exact ⟨by rw [← HD2.out]; rfl, HK.alloc _ _⟩

def inB (lo hi n : Int) : Bool := decide (lo ≤ n ∧ n ≤ hi)
theorem within_any (n lo hi : Int) (w : World) :
    Calls Try.prog 27 #[.int .i64 n, .int .i64 lo, .int .i64 hi] w fun e w' => e = .returned (.bool (inB lo hi n)) ∧ w' = w := by
  by_cases h1 : lo ≤ n
  · by_cases h2 : n ≤ hi
    · have HR : Hid (inB lo hi n = true) := hide (by simp [inB, h1, h2])
      go_enter Try.func27, Try.ntmps27
      go_wp2
      go_ret
      exact ⟨by rw [HR.out]; rfl, rfl⟩
    · have HR : Hid (inB lo hi n = false) := hide (by simp [inB, h1, h2])
      go_enter Try.func27, Try.ntmps27
      go_wp2
      go_ret
      exact ⟨by rw [HR.out]; rfl, rfl⟩
  · have HR : Hid (inB lo hi n = false) := hide (by simp [inB, h1])
    go_enter Try.func27, Try.ntmps27
    go_wp2
    go_ret
    exact ⟨by rw [HR.out]; rfl, rfl⟩
theorem l1In_any (n lo hi : Int) (w : World) :
    Calls Try.prog 31 #[.int .i64 n, .int .i64 lo, .int .i64 hi] w fun e w' => e = .returned (.bool (inB lo hi n)) ∧ w' = w := by
  by_cases h1 : lo ≤ n
  · by_cases h2 : n ≤ hi
    · have HR : Hid (inB lo hi n = true) := hide (by simp [inB, h1, h2])
      go_enter Try.func31, Try.ntmps31
      go_wp2
      go_ret
      exact ⟨by rw [HR.out]; rfl, rfl⟩
    · have HR : Hid (inB lo hi n = false) := hide (by simp [inB, h1, h2])
      go_enter Try.func31, Try.ntmps31
      go_wp2
      go_ret
      exact ⟨by rw [HR.out]; rfl, rfl⟩
  · have HR : Hid (inB lo hi n = false) := hide (by simp [inB, h1])
    go_enter Try.func31, Try.ntmps31
    go_wp2
    go_ret
    exact ⟨by rw [HR.out]; rfl, rfl⟩

/-- the room of nineteen bytes in block B: from f on it holds acc -/
structure Room (B f : Nat) (acc : List UInt8) (w : World) : Prop where
  there : ∀ j, j < 19 → ∃ v, w.cell? ⟨B, j, none⟩ = some v
  open_ : ∀ j, w.frozen? ⟨B, j, none⟩ = false
  len : f + acc.length = 19
  holds : ∀ j (h : j < acc.length), w.cell? ⟨B, f + j, none⟩ = some (.int .u8 (acc[j].toNat : Int))
theorem room_start (w : World) (c : Array Value) (hc : c.size = 19) : Room w.heap.size 19 [] (w.alloc (.cells c 54)) :=
  ⟨fun j hj => ⟨c[j], by simp [hc, hj]⟩, fun j => by simp, rfl, fun j h => by simp at h⟩
theorem room_store {B f : Nat} {acc : List UInt8} {w : World} (h : Room B (f + 1) acc w) (c : UInt8) (n : Int) (hn : n = (c.toNat : Int)) : Room B f (c :: acc) (w.setCell ⟨B, f, none⟩ (.int .u8 n)) := by
  subst hn
  have hl := h.len
  obtain ⟨v, hv⟩ := h.there f (by omega)
  refine ⟨fun j hj => ?_, fun j => by simp [h.open_], by simp; omega, fun j hj => ?_⟩
  · obtain ⟨u, hu⟩ := h.there j hj
    exact cell?_setCell_some hu
  · rcases j with _ | j
    · rw [Nat.add_zero, World.cell?_setCell_same _ _ _ hv]; rfl
    · have hj' : j < acc.length := by simpa using hj
      rw [World.cell?_setCell_other _ _ _ _ (by simp), show f + (j + 1) = f + 1 + j by omega, h.holds j hj']
      rfl
theorem room_text {B f : Nat} {acc : List UInt8} {w : World} (h : Room B f acc w) (cap : Nat) : (convert 22 9 (.slice (some ⟨B, f, none⟩) acc.length cap)).run Try.prog w = .ok (.string (bs acc)) w := by
  have h' := run_convert_bytes_arg (P := Try.prog) w 22 5 Try.underlying22 Try.underlying5 B f acc.length cap (acc.map fun c => (c.toNat : Int)) (by simp) (fun i hi => by
    rw [h.holds i hi]; simp [List.getD, List.getElem?_eq_getElem hi]) 9 Try.underlying9
  rw [h']
  congr 2
  apply bs_of
  simp only [strOfNums, List.map_map]
  conv => rhs; rw [← List.map_id acc]
  apply List.map_congr_left
  intro x _
  simp
theorem dg_int (k : Int) (h : 0 ≤ k) : (48 + k % 10 : Int) = ((dg k.toNat).toNat : Int) := by rw [dg_toNat]; omega

theorem arr54 : Try.prog.underlying 54 = some (.array (Try.prog.arrayLen 54) (Try.prog.elem 54)) := by kernel_rfl
theorem len54 : Try.prog.arrayLen 54 = 19 := by kernel_rfl
theorem size54 (w : World) : (sizeOf (Try.prog.elem 54)).run Try.prog w = .ok 1 w := by kernel_rfl
theorem room_slice (w : World) (B f : Nat) (hf : f < 19) : (Instr.sliceAt 54 (.pointer (some ⟨B, 0, none⟩)) (some (.int .i64 (f : Int))) none none).run Try.prog w = .ok (.slice (some ⟨B, f, none⟩) (19 - f) (19 - f)) w := by
  rw [run_sliceAt_array_l w 54 ⟨B, 0, none⟩ arr54 .i64 f (by omega) (by rw [len54]; omega), size54, len54]
  simp only [Result.andThen, slicedAt, Int.toNat_natCast]
  rw [if_neg (by omega)]
  simp [Addr.add]; omega

set_option maxHeartbeats 400000 in
theorem decimal_any (n : Int) (w : World) (h0 : 0 ≤ n) (h1 : n ≤ 1000000000000000) :
    Calls Try.prog 28 #[.int .i64 n] w fun e w' => e = .returned (.string (bs (dec n.toNat))) ∧ Kept w w' := by
  go_enter Try.func28, Try.ntmps28
  go_wp2
  go_loopw [0, 4] (fun i p w' => ∃ (k : Int) (f : Nat) (acc : List UInt8), 0 ≤ k ∧ k ≤ n ∧ i = .int .i64 k ∧ f < 19 ∧ p = .int .i64 ((f : Int) + 1) ∧ Kept w w' ∧ Room w.heap.size (f + 1) acc w' ∧ Hid (k.toNat < 10 ^ (f + 1)) ∧ Hid (decA (f + 2) k.toNat acc = dec n.toNat)) (fun i p w => (intOf i).toNat + (intOf p).toNat)
  case atStart => exact ⟨n, 18, [], h0, by omega, rfl, by omega, rfl, (Kept.refl _).alloc _ _, room_start _ _ rfl, hide (by omega), hide rfl⟩
  case round =>
    obtain ⟨k, f, acc, hk, hk2, rfl, hf, rfl, HK, HM, HP, HD⟩ := hrel
    obtain ⟨v, hv⟩ := HM.there f hf
    have hz := HM.open_ f
    have HM2 := room_store HM (dg k.toNat) (48 + k % 10) (dg_int k hk)
    have hl := HM2.len
    have hlen : (dg k.toNat :: acc).length = 19 - f := by omega
    have hc := room_text HM2 (19 - f)
    rw [hlen] at hc
    have hs := fun wx => room_slice wx w.heap.size f hf
    clear hl hlen
    by_cases h : 10 ≤ k
    · have HD2 : Hid (∃ g, f = g + 1 ∧ (k / 10).toNat < 10 ^ (g + 1) ∧ decA (g + 2) (k / 10).toNat (dg k.toNat :: acc) = dec n.toNat) := hide (by
        have hp := HP.out
        have hd := HD.out
        obtain ⟨g, rfl⟩ : ∃ g, f = g + 1 := by
          rcases f with _ | g
          · simp at hp; omega
          · exact ⟨g, rfl⟩
        refine ⟨g, rfl, by rw [Nat.pow_succ] at hp; omega, ?_⟩
        rw [decA_big _ _ _ (by omega)] at hd
        rw [show (k / 10).toNat = k.toNat / 10 by omega]
        exact hd)
      have hne : (k / 10 == 0) = false := by simp; omega
      clear HP HD
      go_wp2
      obtain ⟨g, rfl, hp, hd⟩ := HD2.out
      exact ⟨⟨k / 10, g, _, by omega, by omega, rfl, by omega, by go_num, HK.setCell (by simp) _, HM2, hide hp, hide hd⟩, by simp [intOf]; omega⟩
    · have HD2 : Hid (dg k.toNat :: acc = dec n.toNat) := hide (by
        have hd := HD.out
        rw [decA_small _ _ _ (by omega)] at hd
        exact hd)
      have hne : (k / 10 == 0) = true := by simp; omega
      clear HP HD
      go_wp2
      go_ret
      exact ⟨by rw [← HD2.out]; rfl, HK.setCell (by simp) _⟩

theorem dec_size (m : Int) (h0 : 0 ≤ m) (h : m ≤ 10000000000) : (bs (dec m.toNat)).size ≤ 20 := by
  rw [bs_size]; have := dec_len 11 m.toNat (by omega) (by omega); omega
theorem text_pos (n : Int) (h0 : 0 ≤ n) (h1 : n ≤ 1000000000000) :
    bs (dec (n / 100).toNat) ++ { data := #[46] } ++ { data := #[UInt8.ofNat (48 + n / 10 % 10).toNat, UInt8.ofNat (48 + n % 10).toNat] } = bs (amt n) := by
  apply bs_of
  rw [list_append, list_append, bs_list]
  unfold amt
  rw [if_pos ⟨by omega, by omega⟩, if_neg (by omega)]
  rw [show (n / 100).toNat = n.natAbs / 100 by omega, show (48 + n / 10 % 10).toNat = 48 + n.natAbs / 10 % 10 by omega, show (48 + n % 10).toNat = 48 + n.natAbs % 10 by omega]
  simp [dg]
theorem text_neg (n : Int) (h0 : n < 0) (h1 : -1000000000000 ≤ n) :
    { data := #[45] } ++ bs (amt (-n)) = bs (amt n) := by
  apply bs_of
  rw [list_append, bs_list]
  unfold amt
  rw [if_pos ⟨by omega, by omega⟩, if_neg (by omega), if_pos ⟨by omega, by omega⟩, if_pos h0]
  simp
theorem text_neg' (m : Int) (h0 : 0 < m) (h1 : m ≤ 1000000000000) :
    { data := #[45] } ++ bs (dec (m / 100).toNat) ++ { data := #[46] } ++ { data := #[UInt8.ofNat (48 + m / 10 % 10).toNat, UInt8.ofNat (48 + m % 10).toNat] } = bs (amt (-m)) := by
  rw [← text_neg (-m) (by omega) (by omega), Int.neg_neg, ← text_pos m (by omega) (by omega)]
  apply ByteArray.ext
  simp

set_option maxHeartbeats 400000 in
theorem implAmountText_any (n : Int) (w : World) (hlo : -9223372036854775808 ≤ n) (hhi : n ≤ 9223372036854775807) :
    Calls Try.prog 11 #[.int .i64 n] w fun e w' => e = .returned (.string (bs (amt n))) ∧ Kept w w' := by
  have hc := conv2
  by_cases hr : -1000000000000 ≤ n ∧ n ≤ 1000000000000
  · have hin : inB (-1000000000000) 1000000000000 n = true := by simp [inB, hr.1, hr.2]
    obtain ⟨r1, r2⟩ := hr
    clear hlo hhi
    by_cases hn : n < 0
    · obtain ⟨m, rfl⟩ : ∃ m, n = -m := ⟨-n, by omega⟩
      have m0 : 0 < m := by omega
      have m1 : m ≤ 1000000000000 := by omega
      have HT : Hid _ := hide (text_neg' m m0 m1)
      have hsz := dec_size (m / 100) (by omega) (by omega)
      have hn' : -m < 0 := by omega
      clear hn
      go_enter Try.func11, Try.ntmps11
      go_wp2_with fail
      refine (within_any _ _ _ _).mono ?_
      rintro e w' ⟨rfl, rfl⟩
      rw [hin]
      clear hin
      go_wp2_with fail
      refine (decimal_any _ _ (by omega) (by omega)).mono ?_
      rintro e w1 ⟨rfl, HK⟩
      go_wp2_with fail
      refine (digit_any _ _ (by omega) (by omega)).mono ?_
      rintro e w2 ⟨rfl, rfl⟩
      go_wp2_with fail
      refine (digit_any _ _ (by omega) (by omega)).mono ?_
      rintro e w2 ⟨rfl, rfl⟩
      go_wp2
      go_ret
      exact ⟨by rw [← HT.out]; rfl, HK.alloc _ _⟩
    · have HT : Hid _ := hide (text_pos n (by omega) r2)
      have hn' : 0 ≤ n := by omega
      have hsz := dec_size (n / 100) (by omega) (by omega)
      go_enter Try.func11, Try.ntmps11
      go_wp2_with fail
      refine (within_any _ _ _ _).mono ?_
      rintro e w' ⟨rfl, rfl⟩
      rw [hin]
      clear hin
      go_wp2_with fail
      refine (decimal_any _ _ (by omega) (by omega)).mono ?_
      rintro e w1 ⟨rfl, HK⟩
      go_wp2_with fail
      refine (digit_any _ _ (by omega) (by omega)).mono ?_
      rintro e w2 ⟨rfl, rfl⟩
      go_wp2_with fail
      refine (digit_any _ _ (by omega) (by omega)).mono ?_
      rintro e w2 ⟨rfl, rfl⟩
      go_wp2
      go_ret
      exact ⟨by rw [← HT.out]; rfl, HK.alloc _ _⟩
  · have HT : Hid (amt n = []) := hide (by unfold amt; rw [if_neg hr])
    have hin : inB (-1000000000000) 1000000000000 n = false := by simp only [inB]; exact decide_eq_false hr
    clear hr
    go_enter Try.func11, Try.ntmps11
    go_wp2_with fail
    refine (within_any _ _ _ _).mono ?_
    rintro e w' ⟨rfl, rfl⟩
    rw [hin]
    go_wp2
    go_ret
    exact ⟨by rw [HT.out]; rfl, Kept.refl _⟩
end Go.Proofs.Ytbpopaojkmdffaa
