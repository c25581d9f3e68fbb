/- The reader's bytes, and a text that is hurt. -/
import Derived.Test.YtbcodlgpdehdhaaGreatDoorGl
import Derived.OwnWalk
import Derived.WalkSmall
namespace Go.Proofs.YtbcodlgpdehdhaaGreatDoor
open Go.ChangeShapes Go.WideShapes Go.ChangeAt Go.RowKit
set_option linter.unusedVariables false
theorem own_apart {B : Nat} {w w1 : World} {base : Nat} {e : TypeId} {size : Nat} {v : Value} {n : Nat} {xs : List Value} (h : w.ownsRow base e size v n xs) (k : Aprt B w w1) (hB : B < base) : w1.ownsRow base e size v n xs := by
  refine ⟨h.1, ?_⟩
  rcases h.2 with hn | ⟨g, cap, cur, hv, hb, hg, rest⟩
  · exact .inl hn
  · have hlt : g < w.heap.size := by
      rcases Nat.lt_or_ge g w.heap.size with h | h
      · exact h
      · rw [Array.getElem?_eq_none h] at hg; cases hg
    exact .inr ⟨g, cap, cur, hv, hb, (k.block g hlt (by omega)).trans hg, rest⟩
theorem apart_grown {B : Nat} {a w w' : World} {row : Option Nat} (h : Aprt B a w) (hg : w.grownBy w' row) (hr : ∀ k, row = some k → a.heap.size ≤ k) : Aprt B a w' :=
  ⟨hg.os.trans h.os, hg.tape.trans h.tape, hg.output.trans h.output, Nat.le_trans h.size hg.size, fun k hk hB => (hg.block k (by have := h.size; omega) (fun e => by have := hr k e.symm; omega)).trans (h.block k hk hB)⟩
theorem rd_grown {B : Nat} {w w' : World} {row : Option Nat} (h : Rd B w) (hg : w.grownBy w' row) (hr : ∀ k, row = some k → B < k) : Rd B w' :=
  h.below ⟨hg.os, hg.tape, hg.output, hg.size, fun k hk => hg.block k (by have := h.lt; omega) (fun e => by have := hr k e.symm; omega)⟩
theorem info5 : (Tryz.prog.info? 5).map (fun i => (i.zero, i.size, i.bytes)) = some (some (.int .u8 0), 1, 1) := by kernel_rfl
theorem own_text {w : World} {base : Nat} {v : Value} {n : Nat} {xs : List Int} (h : w.ownsRow base 5 1 v n (xs.map (Value.int .u8))) (hl : xs.length = n) : (convert 22 9 v).run Tryz.prog w = .ok (.string (strOfNums xs)) w := by
  rcases h.2 with ⟨hv, hn⟩ | ⟨g, cap, cur, hv, hb, hg, hc, hm, hs, hx⟩
  · subst hv
    have : xs = [] := List.length_eq_zero_iff.1 (by omega)
    subst this
    exact run_convert_bytes_nil w 22 5 Tryz.underlying22 Tryz.underlying5 0 0 9 Tryz.underlying9
  · subst hv
    refine run_convert_bytes_arg w 22 5 Tryz.underlying22 Tryz.underlying5 g 0 n cap xs hl (fun i hi => ?_) 9 Tryz.underlying9
    rw [Nat.zero_add, h.cellAt i (by omega)]
    simp [List.getD, List.getElem?_eq_getElem (show i < xs.length by omega)]
theorem nums_size (xs : List Int) : (strOfNums xs).size = xs.length := by simp [strOfNums, ByteArray.size]
def TextEnd (B : Nat) (n : Nat) (w : World) (e : Ending) (w' : World) : Prop := (∃ s : ByteArray, s.size ≤ n ∧ e = .returned (.string s)) ∧ Rd B w' ∧ Aprt B w w'
set_option maxHeartbeats 1000000 in
set_option maxRecDepth 100000 in
theorem bytes_any (B : Nat) (w : World) (h : Rd B w) : Calls Tryz.prog 51 #[.pointer (some ⟨B, 0, none⟩), .int .i64 2] w fun e w' => TextEnd B 2 w e w' := by
  have H : Hid _ := hide h
  have hlt := h.lt
  clear h
  obtain ⟨i0, hi, hz0, hz1, hz2⟩ := info_parts info5
  go_enter Tryz.func51, Tryz.ntmps51
  go_wp2_with fail
  refine (below_any B 3 _ (H.out.kept ((Kept.refl _).alloc _ _)) (by omega)).mono ?_
  rintro e w1 ⟨⟨r, r0, r2, r1, rfl⟩, HR1, HA1⟩
  have HO : Hid (w1.ownsRow w.heap.size 5 1 (.slice (some ⟨w.heap.size, 0, none⟩) 0 0) 0 []) := hide (own_apart (World.ownsRow_made w #[] 0 (Nat.le_refl _) (by unfold maxLen; omega) rfl) HA1 hlt)
  have HAw : Aprt B w w1 := ((Kept.refl w).alloc #[] 5).to_apart.trans HA1
  have r3 : r < 3 := by omega
  clear r2 HA1
  go_wp2
  go_loopw [5, 6] (fun v i wr => ∃ (k n : Nat) (xs : List Int), i = .int .i64 (k : Int) ∧ k + n ≤ 2 ∧ xs.length = n ∧ Hid (wr.ownsRow w.heap.size 5 1 v n (xs.map (Value.int .u8))) ∧ Rd B wr ∧ Aprt B w wr) (fun v i wr => (intOf i).toNat)
  case atStart => exact ⟨r.toNat, 0, [], by rw [Int.toNat_of_nonneg r0], by omega, rfl, HO, HR1, HAw⟩
  case round =>
    clear HR1 HO HAw
    obtain ⟨k, n, xs, rfl, hkn, hxl, HO, HR, HA⟩ := hrel
    by_cases hk : 0 < k
    · have hk' : (0 : Int) < (k : Int) := by omega
      go_wp2_with fail
      refine (below_any B 256 _ HR (by omega)).mono ?_
      rintro e w2 ⟨⟨x, x0, x2, x1, rfl⟩, HR2, HA2⟩
      have x3 : x ≤ 255 := by omega
      have HO2 := own_apart HO.out HA2 hlt
      have hrow := HO2.lt
      clear x2 x1 HO
      go_wp2_with (at_builtin; refine wpList_append_own _ rfl _ _ 22 rfl w.heap.size 5 i0 (.int .u8 0) 1 1 Tryz.underlying22 hi hz0 hz1 hz2 rfl (by decide) _ _ _ rfl (HO2.alloc _) ⟨w2.heap.size, 0, none⟩ 1 1 [.int .u8 x] rfl rfl ?c1 ?c2 ?c3 ?c4 ?c5 ?_)
      case c1 =>
        intro j u hj
        match j, hj with
        | 0, hj => simp at hj; subst hj; simp [Addr.add]
      case c2 => intro u hu; simp at hu; subst hu; rfl
      case c3 => unfold maxLen; omega
      case c4 => omega
      case c5 => have := HA.size; have := HA2.size; simp; omega
      · intro v' w3 hown' hgrow _
        have HA3 := apart_grown ((HA.trans HA2).trans ((Kept.refl w2).alloc #[.int .u8 x] 5).to_apart) hgrow (fun k hk => (hrow k hk).1)
        have HR3 := rd_grown (HR2.kept ((Kept.refl w2).alloc #[.int .u8 x] 5)) hgrow (fun k hk => by have := (hrow k hk).1; omega)
        have HO3 : Hid _ := hide hown'
        clear hown' hgrow hrow HO2
        go_wp2
        exact ⟨⟨k - 1, n + 1, xs ++ [x], by go_num, by omega, by simp; omega, by simpa using HO3, HR3, HA3⟩, by simp [intOf]; omega⟩
    · have hk' : ¬ (0 : Int) < (k : Int) := by omega
      obtain ⟨v, hv⟩ : ∃ v, v = 1 := ⟨_, rfl⟩
      have hcv := own_text HO.out hxl
      clear hv
      go_wp2
      go_ret
      exact ⟨⟨_, by rw [nums_size]; omega, rfl⟩, HR, HA⟩
end Go.Proofs.YtbcodlgpdehdhaaGreatDoor
