/- Moves along a way, and the contracts of the laws' helpers over moves and of movesAlong. -/
import Derived.Test.YtfkadhkgpfembaaIPath2
namespace Go.Proofs.Ytfkadhkgpfembaa
open Go.ChangeShapes Go.WideShapes Go.ChangeAt Go.RowKit
set_option linter.unusedVariables false
theorem info36 : (Try.prog.info? 34).map (fun i => (i.zero, i.size, i.bytes)) = some (some (.agg #[.int .i64 0, .int .i64 0, .int .i64 0]), 3, 24) := by kernel_rfl
/-- the first k moves along a way (a move lies as a slot does: three numbers) -/
def movesK (y : List Int) (t : Int) (k : Nat) : List Slt := (List.range k).map fun i => ⟨y.getD i 0, y.getD (i + 1) 0, t⟩
theorem movesK_len (y : List Int) (t : Int) (k : Nat) : (movesK y t k).length = k := by simp [movesK]
theorem movesK_next (y : List Int) (t : Int) (k : Nat) (h : k + 1 < y.length) : movesK y t (k + 1) = movesK y t k ++ [⟨y[k], y[k + 1], t⟩] := by
  simp only [movesK, List.range_succ, List.map_append, List.map_cons, List.map_nil, List.getD_eq_getElem?_getD]
  rw [List.getElem?_eq_getElem (show k < y.length by omega), List.getElem?_eq_getElem h]
  rfl
def movesL (y : List Int) (t : Int) : List Slt := movesK y t (y.length - 1)
def OwnMoves (l : List Slt) (w : World) (e : Ending) (w' : World) : Prop := Below w.heap.size w w' ∧ ∃ v, e = .returned v ∧ w'.ownsRow w.heap.size 34 3 v l.length (l.flatMap sltCells)
theorem three_news (w : World) (x y z : Value) (t : TypeId) : ∀ j u, [x, y, z][j]? = some u → (w.alloc (.cells #[x, y, z] t)).drew.cell? ((⟨w.heap.size, 0, none⟩ : Addr).add j) = some u := by
  intro j u hj
  rw [addr_add, Nat.zero_add]
  show (w.alloc (.cells #[x, y, z] t)).cell? ⟨w.heap.size, j, none⟩ = some u
  match j, hj with
  | 0, hj => simp at hj; subst hj; exact World.cell?_alloc_at _ _ _ _ rfl
  | 1, hj => simp at hj; subst hj; exact World.cell?_alloc_at _ _ _ _ rfl
  | 2, hj => simp at hj; subst hj; exact World.cell?_alloc_at _ _ _ _ rfl
theorem three_one (a b c : Int) : ∀ u ∈ [Value.int .i64 a, Value.int .i64 b, Value.int .i64 c], u.oneCell' = true := fun u hu => by
  simp only [List.mem_cons, List.not_mem_nil, or_false] at hu
  rcases hu with rfl | rfl | rfl <;> rfl
set_option maxRecDepth 100000 in
set_option maxHeartbeats 8000000 in
theorem movesAlong_any (a : Option Addr) (y : List Int) (cap : Nat) (t : Int) (w : World) (hy : y.length ≤ 2000000001) (h : RowAt 1 intCells w a y) :
    Calls Try.prog 22 #[.slice a y.length cap, .int .i64 t] w fun e w' => OwnMoves (movesL y t) w e w' := by
  obtain ⟨i0, hinfo, hz0, hz1, hz2⟩ := info_parts info36
  have hu45 : Try.prog.underlying 27 = some (.slice 34) := by kernel_rfl
  have HC : Hid _ := hide h
  clear h
  go_enter Try.func22, Try.ntmps22
  go_wp2
  go_loopw [5, 6] (fun s5 s6 wr => ∃ k : Nat, k ≤ y.length - 1 ∧ s6 = .int .i64 ((k : Int) + 1) ∧ Hid (wr.ownsRow w.heap.size 34 3 s5 k ((movesK y t k).flatMap sltCells)) ∧ Hid (Below w.heap.size w wr)) (fun s5 s6 wr => y.length - (intOf s6).toNat)
  case atStart => exact ⟨0, Nat.zero_le _, by simp, hide (World.ownsRow_nil _ _ _ _), hide (Below.refl _ _)⟩
  case round =>
    obtain ⟨k, hk, rfl, HO, HB⟩ := hrel
    by_cases hlt : k + 1 < y.length
    · have hlt' : (k : Int) + 1 < (y.length : Int) := by omega
      have hk0 : (k : Int) < (y.length : Int) := by omega
      obtain ⟨b, off, rfl, hb, d0⟩ := int_row (HC.out.below HB.out) k (by omega)
      obtain ⟨b', off', heq, _, d1⟩ := int_row (HC.out.below HB.out) (k + 1) hlt
      simp only [Option.some.injEq, Addr.mk.injEq, and_true] at heq
      obtain ⟨rfl, rfl⟩ := heq
      obtain ⟨va, vc, rfl⟩ := row_shape HO.out
      have HNX : Hid _ := hide (movesK_next y t k hlt)
      have hwl := HB.out.size
      have hk1 : (0 : Int) ≤ (k : Int) + 1 := by omega
      have hwk : IntKind.i64.wrap (k : Int) = (k : Int) := by simp only [IntKind.wrap, IntKind.signed, IntKind.bits]; simp; omega
      generalize hp0 : y[k] = p0 at *
      generalize hp1 : y[k + 1] = p1 at *
      clear hp0 hp1
      go_wp2_with fail
      go_region_law (refine step_append_own rfl (.tmp 13) (.tmp 25) 27 rfl w.heap.size 34 i0 _ 3 24 hu45 hinfo hz0 hz1 hz2 rfl (by decide) (.slice va k vc) k ((movesK y t k).flatMap sltCells) (by simp [Act.eval]; done) (own_keep HO.out ((below_alloc (Below.refl _ _) _).drew)) ⟨wr.heap.size, 0, none⟩ 1 1 [.int .i64 p0, .int .i64 p1, .int .i64 t] (by simp [Act.eval]; done) rfl (three_news _ _ _ _ _) (three_one _ _ _) (by unfold maxLen; omega) (by omega) (by simp; omega) ?_; intro v' w' ho' hg'; have HB' : Hid (Below w.heap.size w w') := hide (((HB.out.alloc hwl _).drew).grown hg' (by simp; omega) (own_base HO.out)); have HO' : Hid (w'.ownsRow w.heap.size 34 3 v' (k + 1) ((movesK y t (k + 1)).flatMap sltCells)) := hide (by rw [HNX.out, List.flatMap_append]; simpa [sltCells] using ho'); clear ho' hg')
      all_goals
        go_wp2
        exact ⟨⟨k + 1, by omega, by simp, HO', HB'⟩, by simp [intOf]; omega⟩
    · have hlt' : ¬ (k : Int) + 1 < (y.length : Int) := by omega
      obtain ⟨va, vc, rfl⟩ := row_shape HO.out
      have HF : Hid (OwnMoves (movesL y t) w (.returned (.slice va k vc)) wr) := hide (by
        have e : k = y.length - 1 := by omega
        refine ⟨HB.out, _, rfl, ?_⟩
        have ho := HO.out
        unfold movesL
        rw [movesK_len, ← e]
        exact ho)
      go_wp2
      go_ret
      exact HF.out
end Go.Proofs.Ytfkadhkgpfembaa
