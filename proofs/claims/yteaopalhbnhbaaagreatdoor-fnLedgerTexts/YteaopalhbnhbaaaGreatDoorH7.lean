/- The reader's bytes, and a text that is hurt. -/
import Derived.Test.YteaopalhbnhbaaaGreatDoorGl
import Derived.OwnWalk
import Derived.WalkSmall
import Derived.BigRegion
namespace Go.Proofs.YteaopalhbnhbaaaGreatDoor
open Go.ChangeShapes Go.WideShapes Go.ChangeAt Go.RowKit
set_option linter.unusedVariables false
theorem own_apart {B : Nat} {w w1 : World} {base : Nat} {e : TypeId} {size : Nat} {v : Value} {n : Nat} {xs : List Value} (h : w.ownsRow base e size v n xs) (k : Aprt B w w1) (hB : B < base) : w1.ownsRow base e size v n xs := by
  refine ⟨h.1, ?_⟩
  rcases h.2 with hn | ⟨g, cap, cur, hv, hb, hg, rest⟩
  · exact .inl hn
  · have hlt : g < w.heap.size := by
      rcases Nat.lt_or_ge g w.heap.size with h | h
      · exact h
      · rw [Array.getElem?_eq_none h] at hg; cases hg
    exact .inr ⟨g, cap, cur, hv, hb, (k.block g hlt (by omega)).trans hg, rest⟩
theorem apart_grown {B : Nat} {a w w' : World} {row : Option Nat} (h : Aprt B a w) (hg : w.grownBy w' row) (hr : ∀ k, row = some k → a.heap.size ≤ k) : Aprt B a w' :=
  ⟨hg.os.trans h.os, hg.tape.trans h.tape, hg.output.trans h.output, Nat.le_trans h.size hg.size, fun k hk hB => (hg.block k (by have := h.size; omega) (fun e => by have := hr k e.symm; omega)).trans (h.block k hk hB)⟩
theorem rd_grown {B : Nat} {w w' : World} {row : Option Nat} (h : Rd B w) (hg : w.grownBy w' row) (hr : ∀ k, row = some k → B < k) : Rd B w' :=
  h.below ⟨hg.os, hg.tape, hg.output, hg.size, fun k hk => hg.block k (by have := h.lt; omega) (fun e => by have := hr k e.symm; omega)⟩
theorem info5 : (Tryz.prog.info? 5).map (fun i => (i.zero, i.size, i.bytes)) = some (some (.int .u8 0), 1, 1) := by kernel_rfl
theorem own_text {w : World} {base : Nat} {v : Value} {n : Nat} {xs : List Int} (h : w.ownsRow base 5 1 v n (xs.map (Value.int .u8))) (hl : xs.length = n) : (convert 22 9 v).run Tryz.prog w = .ok (.string (strOfNums xs)) w := by
  rcases h.2 with ⟨hv, hn⟩ | ⟨g, cap, cur, hv, hb, hg, hc, hm, hs, hx⟩
  · subst hv
    have : xs = [] := List.length_eq_zero_iff.1 (by omega)
    subst this
    exact run_convert_bytes_nil w 22 5 Tryz.underlying22 Tryz.underlying5 0 0 9 Tryz.underlying9
  · subst hv
    refine run_convert_bytes_arg w 22 5 Tryz.underlying22 Tryz.underlying5 g 0 n cap xs hl (fun i hi => ?_) 9 Tryz.underlying9
    rw [Nat.zero_add, h.cellAt i (by omega)]
    simp [List.getD, List.getElem?_eq_getElem (show i < xs.length by omega)]
theorem nums_size (xs : List Int) : (strOfNums xs).size = xs.length := by simp [strOfNums, ByteArray.size]
def TextEnd (B : Nat) (n : Nat) (w : World) (e : Ending) (w' : World) : Prop := (∃ s : ByteArray, s.size ≤ n ∧ e = .returned (.string s)) ∧ Rd B w' ∧ Aprt B w w'
set_option maxHeartbeats 1000000 in
set_option maxRecDepth 100000 in
theorem bytes_any (B : Nat) (w : World) (h : Rd B w) : Calls Tryz.prog 78 #[.pointer (some ⟨B, 0, none⟩), .int .i64 2] w fun e w' => TextEnd B 2 w e w' := by
  have H : Hid _ := hide h
  have hlt := h.lt
  clear h
  obtain ⟨i0, hi, hz0, hz1, hz2⟩ := info_parts info5
  go_enter Tryz.func78, Tryz.ntmps78
  go_wp2_with fail
  refine (below_any B 3 _ (H.out.kept ((Kept.refl _).alloc _ _)) (by omega)).mono ?_
  rintro e w1 ⟨⟨r, r0, r2, r1, rfl⟩, HR1, HA1⟩
  have HO : Hid (w1.ownsRow w.heap.size 5 1 (.slice (some ⟨w.heap.size, 0, none⟩) 0 0) 0 []) := hide (own_apart (World.ownsRow_made w #[] 0 (Nat.le_refl _) (by unfold maxLen; omega) rfl) HA1 hlt)
  have HAw : Aprt B w w1 := ((Kept.refl w).alloc #[] 5).to_apart.trans HA1
  have r3 : r < 3 := by omega
  clear r2 HA1
  go_wp2
  go_loopw [5, 6] (fun v i wr => ∃ (k n : Nat) (xs : List Int), i = .int .i64 (k : Int) ∧ k + n ≤ 2 ∧ xs.length = n ∧ Hid (wr.ownsRow w.heap.size 5 1 v n (xs.map (Value.int .u8))) ∧ Rd B wr ∧ Aprt B w wr) (fun v i wr => (intOf i).toNat)
  case atStart => exact ⟨r.toNat, 0, [], by rw [Int.toNat_of_nonneg r0], by omega, rfl, HO, HR1, HAw⟩
  case round =>
    clear HR1 HO HAw
    obtain ⟨k, n, xs, rfl, hkn, hxl, HO, HR, HA⟩ := hrel
    by_cases hk : 0 < k
    · have hk' : (0 : Int) < (k : Int) := by omega
      go_wp2_with fail
      refine (below_any B 256 _ HR (by omega)).mono ?_
      rintro e w2 ⟨⟨x, x0, x2, x1, rfl⟩, HR2, HA2⟩
      have x3 : x ≤ 255 := by omega
      have HO2 := own_apart HO.out HA2 hlt
      have hrow := HO2.lt
      clear x2 x1 HO
      go_wp2_with (at_builtin; refine wpList_append_own _ rfl _ _ 22 rfl w.heap.size 5 i0 (.int .u8 0) 1 1 Tryz.underlying22 hi hz0 hz1 hz2 rfl (by decide) _ _ _ rfl (HO2.alloc _) ⟨w2.heap.size, 0, none⟩ 1 1 [.int .u8 x] rfl rfl ?c1 ?c2 ?c3 ?c4 ?c5 ?_)
      case c1 =>
        intro j u hj
        match j, hj with
        | 0, hj => simp at hj; subst hj; simp [Addr.add]
      case c2 => intro u hu; simp at hu; subst hu; rfl
      case c3 => unfold maxLen; omega
      case c4 => omega
      case c5 => have := HA.size; have := HA2.size; simp; omega
      · intro v' w3 hown' hgrow _
        have HA3 := apart_grown ((HA.trans HA2).trans ((Kept.refl w2).alloc #[.int .u8 x] 5).to_apart) hgrow (fun k hk => (hrow k hk).1)
        have HR3 := rd_grown (HR2.kept ((Kept.refl w2).alloc #[.int .u8 x] 5)) hgrow (fun k hk => by have := (hrow k hk).1; omega)
        have HO3 : Hid _ := hide hown'
        clear hown' hgrow hrow HO2
        go_wp2
        exact ⟨⟨k - 1, n + 1, xs ++ [x], by go_num, by omega, by simp; omega, by simpa using HO3, HR3, HA3⟩, by simp [intOf]; omega⟩
    · have hk' : ¬ (0 : Int) < (k : Int) := by omega
      obtain ⟨v, hv⟩ : ∃ v, v = 1 := ⟨_, rfl⟩
      have hcv := own_text HO.out hxl
      clear hv
      go_wp2
      go_ret
      exact ⟨⟨_, by rw [nums_size]; omega, rfl⟩, HR, HA⟩
end Go.Proofs.YteaopalhbnhbaaaGreatDoor
/- A text that is hurt, and the drawn texts. -/
namespace Go.Proofs.YteaopalhbnhbaaaGreatDoor
open Go.ChangeShapes Go.WideShapes Go.ChangeAt Go.RowKit
set_option linter.unusedVariables false
def five : Array Value := #[.string ⟨#[48]⟩, .string ⟨#[49]⟩, .string ⟨#[32]⟩, .string ⟨#[45]⟩, .string ⟨#[46]⟩]
def pick5 (m : Nat) : ByteArray := if m = 0 then ⟨#[48]⟩ else if m = 1 then ⟨#[49]⟩ else if m = 2 then ⟨#[32]⟩ else if m = 3 then ⟨#[45]⟩ else ⟨#[46]⟩
theorem pick5_size (m : Nat) : (pick5 m).size ≤ 1 := by
  unfold pick5
  split
  · exact Nat.le_of_eq rfl
  · split
    · exact Nat.le_of_eq rfl
    · split
      · exact Nat.le_of_eq rfl
      · split
        · exact Nat.le_of_eq rfl
        · exact Nat.le_of_eq rfl
theorem wrapI (x : Int) (h0 : -9223372036854775808 ≤ x) (h1 : x ≤ 9223372036854775807) : IntKind.i64.wrap x = x := by
  simp only [IntKind.wrap, IntKind.signed, IntKind.bits]; simp; omega
theorem rd_drew {B : Nat} {w : World} (h : Rd B w) : Rd B w.drew := h.drewN 1
theorem five_cell (w : World) (m : Nat) (h : m < 5) : (w.alloc (.cells #[.string ⟨#[48]⟩, .string ⟨#[49]⟩, .string ⟨#[32]⟩, .string ⟨#[45]⟩, .string ⟨#[46]⟩] 9)).cell? ⟨w.heap.size, m, none⟩ = some (.string (pick5 m)) := by
  obtain rfl | rfl | rfl | rfl | rfl : m = 0 ∨ m = 1 ∨ m = 2 ∨ m = 3 ∨ m = 4 := by omega
  all_goals simp [pick5]
theorem five_apart {w w1 : World} {B : Nat} (HA : Aprt B (w.alloc (.cells #[.string ⟨#[48]⟩, .string ⟨#[49]⟩, .string ⟨#[32]⟩, .string ⟨#[45]⟩, .string ⟨#[46]⟩] 9)).drew w1) (hB : B < w.heap.size) (m : Nat) (h : m < 5) : w1.cell? ⟨w.heap.size, m, none⟩ = some (.string (pick5 m)) := by
  rw [← five_cell w m h]
  exact HA.cell (w := (w.alloc (.cells #[.string ⟨#[48]⟩, .string ⟨#[49]⟩, .string ⟨#[32]⟩, .string ⟨#[45]⟩, .string ⟨#[46]⟩] 9)).drew) (by show w.heap.size < (w.alloc _).heap.size; simp) (by omega)
theorem hurt_size (s : ByteArray) (m q : Nat) (h : m < s.size) : (s.extract 0 m ++ pick5 q ++ s.extract (m + 1) s.size).size ≤ s.size + 2 := by
  have := pick5_size q
  rw [ByteArray.size_append, ByteArray.size_append]; simp; omega
set_option maxHeartbeats 1000000 in
set_option maxRecDepth 100000 in
theorem hurt_any (B : Nat) (s : ByteArray) (w : World) (h : Rd B w) (hs : s.size ≤ 100000) : Calls Tryz.prog 36 #[.pointer (some ⟨B, 0, none⟩), .string s] w fun e w' => TextEnd B (s.size + 2) w e w' := by
  have H : Hid _ := hide h
  clear h
  go_enter Tryz.func36, Tryz.ntmps36
  go_wp2_with fail
  refine (below_any B 6 _ H.out (by omega)).mono ?_
  rintro e w1 ⟨⟨r, r0, _, r1, rfl⟩, HR1, HA1⟩
  by_cases c0 : (r == 0) = true
  · go_wp2_with fail
    refine (bytes_any B _ HR1).mono ?_
    rintro e w2 ⟨⟨t, ht, rfl⟩, HR2, HA2⟩
    go_wp2
    go_ret
    exact ⟨⟨s ++ t, by rw [ByteArray.size_append]; omega, rfl⟩, HR2, HA1.trans HA2⟩
  · have c0' : (r == 0) = false := by simpa using c0
    clear c0
    by_cases c1 : (r == 1) = true
    · go_wp2_with fail
      refine (below_any B _ _ HR1 (by omega)).mono ?_
      rintro e w2 ⟨⟨x, x0, x2, x1, rfl⟩, HR2, HA2⟩
      obtain ⟨m, rfl⟩ := Int.eq_ofNat_of_zero_le x0
      have x3 : m ≤ s.size := by omega
      clear x2
      go_wp2
      go_ret
      exact ⟨⟨s.extract 0 m, by simp; omega, rfl⟩, HR2, HA1.trans HA2⟩
    · have c1' : (r == 1) = false := by simpa using c1
      clear c1
      by_cases c2 : (r == 2) = true
      · by_cases hz : 0 < s.size
        · have hz' : (0 : Int) < (s.size : Int) := by omega
          go_wp2_with fail
          refine (below_any B _ _ HR1 (by omega)).mono ?_
          rintro e w2 ⟨⟨x, x0, x2, x1, rfl⟩, HR2, HA2⟩
          obtain ⟨m, rfl⟩ := Int.eq_ofNat_of_zero_le x0
          have x3 : m < s.size := by omega
          have hlt := HR2.lt
          have e1 := wrapI ((m : Int) + 1) (by omega) (by omega)
          have hle : m ≤ s.size := by omega
          have hle2 : (0 : Int) ≤ (m : Int) + 1 ∧ (m : Int) + 1 ≤ (s.size : Int) := by omega
          have hle3 : (0 : Int) ≤ (m : Int) + 1 := by omega
          have hle4 : (m : Int) + 1 ≤ (s.size : Int) := by omega
          have hE : (s.extract 0 m).size = m := by simp; omega
          have hE2 : (s.extract (m + 1) s.size).size ≤ 100000 := by simp; omega
          clear x2
          go_wp2_with fail
          go_region_with (go_at_call 49; refine (below_any B 5 _ (by first | exact rd_drew (HR2.kept ((Kept.refl _).alloc _ _)) | exact rd_drew HR2) (by omega)).mono ?_; rintro e w3 ⟨⟨y, y0, y2, y1, rfl⟩, HR3, HA3⟩; obtain ⟨q, rfl⟩ := Int.eq_ofNat_of_zero_le y0; have y3 : q < 5 := (by omega); have y4 : (q : Int) < 5 := (by omega); have hcell := fun wx => five_cell wx q y3; have hps := pick5_size q; try (have hx := five_apart HA3 hlt q y3))
          all_goals go_wp2
          all_goals go_ret
          all_goals first | exact ⟨⟨_, hurt_size s m q x3, rfl⟩, HR3, HA1.trans (HA2.trans (((Kept.refl _).alloc _ _).drew.to_apart.trans HA3))⟩ | exact ⟨⟨_, hurt_size s m q x3, rfl⟩, HR3.kept ((Kept.refl _).alloc _ _), HA1.trans (HA2.trans (((Kept.refl _).drew.to_apart.trans HA3).trans ((Kept.refl _).alloc _ _).to_apart))⟩
        · have hz' : ¬ (0 : Int) < (s.size : Int) := by omega
          go_wp2
          go_ret
          exact ⟨⟨s, by omega, rfl⟩, HR1, HA1⟩
      · have c2' : (r == 2) = false := by simpa using c2
        clear c2
        go_wp2
        go_ret
        exact ⟨⟨s, by omega, rfl⟩, HR1, HA1⟩
end Go.Proofs.YteaopalhbnhbaaaGreatDoor
