/- The drawn list of slots and the two drawn numbers of the law FnPaths; sameInts. -/
import Derived.Test.YthgjdkeckpddaaaSl
import Derived.Test.YthgjdkeckpddaaaPTo
namespace Go.Proofs.Ythgjdkeckpddaaa
open Go.ChangeShapes Go.WideShapes Go.ChangeAt Go.RowKit
set_option linter.unusedVariables false
theorem OwnRow.keep {x y : World} {g cap : Nat} {l : List Slt} (h : OwnRow 3 sltCells x g (some ⟨g, 0, none⟩) cap l) (hl : 0 < l.length) (e : y.heap[g]? = x.heap[g]?) : OwnRow 3 sltCells y g (some ⟨g, 0, none⟩) cap l := by
  have hg := h.lt hl
  have hgy : g < y.heap.size := by
    rcases Nat.lt_or_ge g y.heap.size with k | k
    · exact k
    · rw [Array.getElem?_eq_none k, Array.getElem?_eq_getElem hg] at e; cases e
  refine ⟨fun i hi => ?_, fun h0 => ⟨rfl, fun j => ?_⟩, h.room⟩
  · obtain ⟨b, off, e2, _, hc⟩ := h.rows i hi
    simp only [Option.some.injEq, Addr.mk.injEq, and_true] at e2
    obtain ⟨rfl, rfl⟩ := e2
    exact ⟨g, 0, rfl, hgy, fun r v hv => (World.cell?_of_block (w := x) e).trans (hc r v hv)⟩
  · exact (World.frozen?_of_block (w := x) e).trans ((h.own h0).2 j)
def DrawPEnd (w : World) (e : Ending) (w' : World) : Prop := ∃ (l : List Slt) (g cap : Nat) (a b : Int), l.length ≤ 7 ∧ l.length ≤ cap ∧ (1 ≤ a ∧ a ≤ 7) ∧ (1 ≤ b ∧ b ≤ 7) ∧ e = .returned (.tuple #[.slice (some ⟨g, 0, none⟩) l.length cap, .int .i64 a, .int .i64 b]) ∧ SlotAt w' (some ⟨g, 0, none⟩) l ∧ Below w.heap.size w w'
set_option maxHeartbeats 1000000 in
set_option maxRecDepth 100000 in
theorem drawPath_any (a : Option Addr) (len cap : Nat) (w : World) (h : IsCode w a len) : Calls Try.prog 5 #[.slice a len cap] w fun e w' => DrawPEnd w e w' := by
  have HC : Hid _ := hide h
  clear h
  go_enter Try.func5, Try.ntmps5
  go_wp2_with fail
  refine (l1Open_any a len cap w).mono ?_
  rintro e w1 ⟨rfl, rfl⟩
  have HR : Hid _ := hide (rd_open (cap := cap) HC.out)
  have HB1 : Hid _ := hide (below_alloc (Below.refl w.heap.size w) (.cells #[.slice a len cap, .int .i64 0] 39))
  go_wp2_with fail
  refine (slots_any w.heap.size _ HR.out).mono ?_
  rintro e w2 ⟨⟨l, g, gc, hl1, hl7, hp, hg, rfl, ho⟩, hr2, ha2⟩
  have hgw : w.heap.size < g := by simp at hg; omega
  have HB2 : Hid _ := hide (below_apart HB1.out (Nat.le_refl _) ha2)
  have HO2 : Hid _ := hide ho
  have HR2 : Hid _ := hide hr2
  have HP : Hid _ := hide hp
  have hl1' : (1 : Int) ≤ (l.length : Int) := by omega
  have hl7' : (l.length : Int) ≤ 7 := by omega
  clear hp ho hr2 ha2 hg HR HB1 HC
  go_wp2_with fail
  refine (below_any w.heap.size (l.length : Int) _ HR2.out (by omega)).mono ?_
  rintro e w3 ⟨⟨r, r0, r2, r1, rfl⟩, hr3, ha3⟩
  have r3 : r < (l.length : Int) := by omega
  have HB3 : Hid _ := hide (below_apart HB2.out (Nat.le_refl _) ha3)
  have HO3 : Hid _ := hide (HO2.out.keep (by omega) (ha3.block g (HO2.out.lt (by omega)) (by omega)))
  have HR3 : Hid _ := hide hr3
  clear hr3 ha3 r2 r1 HB2 HO2 HR2
  go_wp2_with fail
  refine (below_any w.heap.size (l.length : Int) _ HR3.out (by omega)).mono ?_
  rintro e w4 ⟨⟨s, s0, s2, s1, rfl⟩, hr4, ha4⟩
  have s3 : s < (l.length : Int) := by omega
  have HB4 : Hid _ := hide (below_apart HB3.out (Nat.le_refl _) ha4)
  have HO4 : Hid _ := hide (HO3.out.keep (by omega) (ha4.block g (HO3.out.lt (by omega)) (by omega)))
  clear hr4 ha4 s2 s1 HB3 HO3 HR3
  go_wp2
  go_ret3
  exact ⟨l, g, gc, 1 + r, 1 + s, hl7, HO4.out.room, ⟨by omega, by omega⟩, ⟨by omega, by omega⟩, rfl, slot_of_row HO4.out.rows HP.out, HB4.out⟩
set_option maxHeartbeats 2000000 in
theorem sameInts_any (a c : Option Addr) (l : List Int) (ca cc : Nat) (w : World) (hn : l.length ≤ 4000000000) (h : RowAt 1 intCells w a l) (h' : RowAt 1 intCells w c l) :
    Calls Try.prog 7 #[.slice a l.length ca, .slice c l.length cc] w fun e w' => YesEnd w e w' := by
  have HL : Hid _ := hide h
  have HL' : Hid _ := hide h'
  clear h h'
  have hln : ((l.length : Int) != (l.length : Int)) = false := by simp
  go_enter Try.func7, Try.ntmps7
  go_wp2
  go_loopw [5] (fun i wr => ∃ k : Nat, k ≤ l.length ∧ i = .int .i64 (k : Int) ∧ Below w.heap.size w wr) (fun i wr => l.length - (intOf i).toNat)
  case atStart => exact ⟨0, Nat.zero_le _, rfl, Below.refl _ _⟩
  case round =>
    obtain ⟨k, hk, rfl, HB⟩ := hrel
    by_cases hlt : k < l.length
    · obtain ⟨b, off, rfl, hb, d0⟩ := int_row (HL.out.below HB) k hlt
      obtain ⟨b2, off2, rfl, hc, e0⟩ := int_row (HL'.out.below HB) k hlt
      have hlt' : (k : Int) < (l.length : Int) := by omega
      have hz : (l[k] != l[k]) = false := by simp
      go_wp2_with fail
      go_quiet (fail)
      go_wp2
      exact ⟨⟨k + 1, by omega, by go_num, below_drewN HB _⟩, by simp [intOf]; omega⟩
    · have hk' : ¬ (k : Int) < (l.length : Int) := by omega
      go_wp2
      go_ret
      exact ⟨rfl, HB⟩
end Go.Proofs.Ythgjdkeckpddaaa
