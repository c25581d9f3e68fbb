/- Moves along a way, and the contracts of the laws' helpers over moves and of movesAlong. -/
import Derived.Test.YthlkhdhheikadaaIPath2
namespace Go.Proofs.Ythlkhdhheikadaa
open Go.ChangeShapes Go.WideShapes Go.ChangeAt Go.RowKit
set_option linter.unusedVariables false
set_option maxHeartbeats 1000000 in
theorem eqMove_any (x y z : Int) (w : World) :
    Calls Try.prog 48 #[.agg #[.int .i64 x, .int .i64 y, .int .i64 z], .agg #[.int .i64 x, .int .i64 y, .int .i64 z]] w fun e w' => YesEnd w e w' := by
  have h0 : (x != x) = false := by simp
  have h1 : (y != y) = false := by simp
  have h2 : (z != z) = false := by simp
  go_enter Try.func48, Try.ntmps48
  go_wp2
  go_ret
  exact ⟨rfl, below_alloc (below_alloc (Below.refl _ _) _) _⟩
set_option maxHeartbeats 2000000 in
theorem eqMoveS_any (a c : Option Addr) (l : List Slt) (ca cc : Nat) (w : World) (hn : l.length ≤ 20000000000) (h : RowAt 3 sltCells w a l) (h' : RowAt 3 sltCells w c l) :
    Calls Try.prog 30 #[.slice a l.length ca, .slice c l.length cc] w fun e w' => YesEnd w e w' := by
  have HL : Hid _ := hide h
  have HL' : Hid _ := hide h'
  clear h h'
  have hln : ((l.length : Int) != (l.length : Int)) = false := by simp
  go_enter Try.func30, Try.ntmps30
  go_wp2
  go_loopw [5] (fun i wr => ∃ k : Nat, k ≤ l.length ∧ i = .int .i64 (k : Int) ∧ Below w.heap.size w wr) (fun i wr => l.length - (intOf i).toNat)
  case atStart => exact ⟨0, Nat.zero_le _, rfl, Below.refl _ _⟩
  case round =>
    obtain ⟨k, hk, rfl, HB⟩ := hrel
    by_cases hlt : k < l.length
    · obtain ⟨b, off, rfl, hb, d0, d1, d2⟩ := slt_row (HL.out.below HB) k hlt
      obtain ⟨b2, off2, rfl, hc, e0, e1, e2⟩ := slt_row (HL'.out.below HB) k hlt
      have hlt' : (k : Int) < (l.length : Int) := by omega
      have d0' := fun y : Later wr => (y.below.cell hb).trans d0
      have d1' := fun y : Later wr => (y.below.cell hb).trans d1
      have d2' := fun y : Later wr => (y.below.cell hb).trans d2
      have e0' := fun y : Later wr => (y.below.cell hc).trans e0
      have e1' := fun y : Later wr => (y.below.cell hc).trans e1
      have e2' := fun y : Later wr => (y.below.cell hc).trans e2
      clear d0 d1 d2 e0 e1 e2
      have hne : Nonempty (Later wr) := later_there _
      go_wp2_with fail
      refine wp_region_later wr (by kernel_rfl) (by kernel_rfl) ((Below.refl _ _).drew) ?_
      repeat (go_big_quiet_step (first | (go_at_call 48; exact later_of (eqMove_any _ _ _ _))))
      refine wpQuiet_nil ?_
      intro _ hw'
      obtain ⟨nx, rfl⟩ := hw'
      go_wp2
      exact ⟨⟨k + 1, by omega, by go_num, below_trans HB nx.below⟩, by simp [intOf]; omega⟩
    · have hk' : ¬ (k : Int) < (l.length : Int) := by omega
      go_wp2
      go_ret
      exact ⟨rfl, HB⟩
set_option maxRecDepth 100000 in
set_option maxHeartbeats 4000000 in
theorem markMoveS_any (a : Option Addr) (l : List Slt) (cap g : Nat) (q : Int) (w : World) (hn : l.length ≤ 20000000000) (hq : 0 ≤ q ∧ q ≤ 1000) (h : OwnRow 3 sltCells w g a cap l) :
    Calls Try.prog 31 #[.slice a l.length cap, .int .i64 q] w fun e w' => MarkEnd q g a cap l.length w e w' := by
  have HL : Hid _ := hide h
  clear h
  obtain ⟨q0, q1⟩ := hq
  by_cases h0 : 0 < l.length
  · have HO : Hid _ := hide (mid_of_own sltLen (by decide) (cells := fun i => ((markL q l.length)[i]?).elim [] sltCells) HL.out h0)
    obtain ⟨rfl, _⟩ := HL.out.own h0
    go_enter Try.func31, Try.ntmps31
    go_wp2
    go_loopw [1, 5] (fun s i wr => ∃ k : Nat, k ≤ l.length ∧ i = .int .i64 (k : Int) ∧ s = .int .i64 (q + 3 * (k : Int)) ∧ Hid (Turned g w wr) ∧ Hid (RowMid g l.length 3 (fun i => ((markL q l.length)[i]?).elim [] sltCells) k wr)) (fun s i wr => l.length - (intOf i).toNat)
    case atStart => exact ⟨0, Nat.zero_le _, rfl, by simp, hide (Turned.refl _ _), HO⟩
    case round =>
      obtain ⟨k, hk, rfl, rfl, HT, HM⟩ := hrel
      by_cases hlt : k < l.length
      · have hlt' : (k : Int) < (l.length : Int) := by omega
        have hM1 := HM.out
        have HP : Hid _ := hide ((((hM1.put).set hlt (by decide) (v := .int .i64 (q + 3 * (k : Int))) (by simp [markL_at q _ k hlt, sltCells]) rfl).set hlt (by decide) (v := .int .i64 (q + 3 * (k : Int) + 1)) (by simp [markL_at q _ k hlt, sltCells]) rfl).set hlt (by decide) (v := .int .i64 (q + 3 * (k : Int) + 2)) (by simp [markL_at q _ k hlt, sltCells]) rfl).whole
        have HT2 : Hid _ := hide (((HT.out.setCell (o := k * 3 + 0) (.int .i64 (q + 3 * (k : Int)))).setCell (o := k * 3 + 1) (.int .i64 (q + 3 * (k : Int) + 1))).setCell (o := k * 3 + 2) (.int .i64 (q + 3 * (k : Int) + 2)))
        obtain ⟨v0, f0⟩ := hM1.there (k * 3 + 0) (by omega)
        obtain ⟨v1, f1⟩ := hM1.there (k * 3 + 1) (by omega)
        obtain ⟨v2, f2⟩ := hM1.there (k * 3 + 2) (by omega)
        have z0 := hM1.free (k * 3 + 0)
        have z1 := hM1.free (k * 3 + 1)
        have z2 := hM1.free (k * 3 + 2)
        simp only [Nat.add_zero] at f0 z0
        clear hM1
        have e2 : q + 3 * (k : Int) + 1 + 1 = q + 3 * (k : Int) + 2 := by omega
        have e3 : q + 3 * (k : Int) + 2 + 1 = q + 3 * ((k + 1 : Nat) : Int) := by omega
        go_wp2
        exact ⟨⟨k + 1, by omega, by go_num, by go_num, HT2, HP⟩, by simp [intOf]; omega⟩
      · have hk' : ¬ (k : Int) < (l.length : Int) := by omega
        have HE : Hid (MarkEnd q g (some ⟨g, 0, none⟩) cap l.length w (.returned (.int .i64 (q + 3 * (k : Int)))) wr) := hide (by
          have M := HM.out
          have ek : k = l.length := by omega
          subst ek
          have O := own_of_mid (l := markL q l.length) sltLen (by rw [markL_len]; exact M) (cap := cap) (by rw [markL_len]; exact HL.out.room)
          exact ⟨rfl, HT.out, O⟩)
        go_wp2
        go_ret
        exact HE.out
  · have hz : l = [] := List.eq_nil_of_length_eq_zero (by omega)
    subst hz
    go_enter Try.func31, Try.ntmps31
    go_wp2
    refine wp_loop_rounds 1 ?_
    rw [rounds_succ]
    go_wp2
    go_ret
    exact ⟨by simp, Turned.refl _ _, OwnRow.nil⟩
set_option maxRecDepth 100000 in
set_option maxHeartbeats 4000000 in
theorem heldMoveS_any (a : Option Addr) (n cap : Nat) (q : Int) (w : World) (hn : n ≤ 20000000000) (hq : 0 ≤ q ∧ q ≤ 1000) (h : RowAt 3 sltCells w a (markL q n)) :
    Calls Try.prog 32 #[.slice a n cap, .int .i64 q] w fun e w' => e = .returned (.int .i64 (q + 3 * (n : Int))) ∧ w' = w := by
  have HL : Hid _ := hide h
  clear h
  obtain ⟨q0, q1⟩ := hq
  go_enter Try.func32, Try.ntmps32
  go_wp2
  go_loop [1, 5] (fun s i => ∃ k : Nat, k ≤ n ∧ i = .int .i64 (k : Int) ∧ s = .int .i64 (q + 3 * (k : Int))) (fun s i => n - (intOf i).toNat)
  case atStart => exact ⟨0, Nat.zero_le _, rfl, by simp⟩
  case round =>
    obtain ⟨k, hk, rfl, rfl⟩ := hrel
    by_cases hlt : k < n
    · have hlt' : (k : Int) < (n : Int) := by omega
      obtain ⟨b, off, rfl, hb, d0, d1, d2⟩ := mark_row HL.out k hlt
      have e2 : q + 3 * (k : Int) + 1 + 1 = q + 3 * (k : Int) + 2 := by omega
      have e3 : q + 3 * (k : Int) + 2 + 1 = q + 3 * ((k + 1 : Nat) : Int) := by omega
      go_wp2
      exact ⟨⟨k + 1, by omega, by go_num, by go_num⟩, by simp [intOf]; omega⟩
    · have hk' : ¬ (k : Int) < (n : Int) := by omega
      have HE : Hid (k = n) := hide (by omega)
      go_wp2
      go_ret
      exact ⟨by rw [HE.out]; rfl, rfl⟩
theorem info36 : (Try.prog.info? 36).map (fun i => (i.zero, i.size, i.bytes)) = some (some (.agg #[.int .i64 0, .int .i64 0, .int .i64 0]), 3, 24) := by kernel_rfl
/-- the first k moves along a way (a move lies as a slot does: three numbers) -/
def movesK (y : List Int) (t : Int) (k : Nat) : List Slt := (List.range k).map fun i => ⟨y.getD i 0, y.getD (i + 1) 0, t⟩
theorem movesK_len (y : List Int) (t : Int) (k : Nat) : (movesK y t k).length = k := by simp [movesK]
theorem movesK_next (y : List Int) (t : Int) (k : Nat) (h : k + 1 < y.length) : movesK y t (k + 1) = movesK y t k ++ [⟨y[k], y[k + 1], t⟩] := by
  simp only [movesK, List.range_succ, List.map_append, List.map_cons, List.map_nil, List.getD_eq_getElem?_getD]
  rw [List.getElem?_eq_getElem (show k < y.length by omega), List.getElem?_eq_getElem h]
  rfl
def movesL (y : List Int) (t : Int) : List Slt := movesK y t (y.length - 1)
def OwnMoves (l : List Slt) (w : World) (e : Ending) (w' : World) : Prop := Below w.heap.size w w' ∧ ∃ v, e = .returned v ∧ w'.ownsRow w.heap.size 36 3 v l.length (l.flatMap sltCells)
theorem three_news (w : World) (x y z : Value) (t : TypeId) : ∀ j u, [x, y, z][j]? = some u → (w.alloc (.cells #[x, y, z] t)).drew.cell? ((⟨w.heap.size, 0, none⟩ : Addr).add j) = some u := by
  intro j u hj
  rw [addr_add, Nat.zero_add]
  show (w.alloc (.cells #[x, y, z] t)).cell? ⟨w.heap.size, j, none⟩ = some u
  match j, hj with
  | 0, hj => simp at hj; subst hj; exact World.cell?_alloc_at _ _ _ _ rfl
  | 1, hj => simp at hj; subst hj; exact World.cell?_alloc_at _ _ _ _ rfl
  | 2, hj => simp at hj; subst hj; exact World.cell?_alloc_at _ _ _ _ rfl
theorem three_one (a b c : Int) : ∀ u ∈ [Value.int .i64 a, Value.int .i64 b, Value.int .i64 c], u.oneCell' = true := fun u hu => by
  simp only [List.mem_cons, List.not_mem_nil, or_false] at hu
  rcases hu with rfl | rfl | rfl <;> rfl
set_option maxRecDepth 100000 in
set_option maxHeartbeats 8000000 in
theorem movesAlong_any (a : Option Addr) (y : List Int) (cap : Nat) (t : Int) (w : World) (hy : y.length ≤ 2000000001) (h : RowAt 1 intCells w a y) :
    Calls Try.prog 47 #[.slice a y.length cap, .int .i64 t] w fun e w' => OwnMoves (movesL y t) w e w' := by
  obtain ⟨i0, hinfo, hz0, hz1, hz2⟩ := info_parts info36
  have hu45 : Try.prog.underlying 45 = some (.slice 36) := by kernel_rfl
  have HC : Hid _ := hide h
  clear h
  go_enter Try.func47, Try.ntmps47
  go_wp2
  go_loopw [5, 6] (fun s5 s6 wr => ∃ k : Nat, k ≤ y.length - 1 ∧ s6 = .int .i64 ((k : Int) + 1) ∧ Hid (wr.ownsRow w.heap.size 36 3 s5 k ((movesK y t k).flatMap sltCells)) ∧ Hid (Below w.heap.size w wr)) (fun s5 s6 wr => y.length - (intOf s6).toNat)
  case atStart => exact ⟨0, Nat.zero_le _, by simp, hide (World.ownsRow_nil _ _ _ _), hide (Below.refl _ _)⟩
  case round =>
    obtain ⟨k, hk, rfl, HO, HB⟩ := hrel
    by_cases hlt : k + 1 < y.length
    · have hlt' : (k : Int) + 1 < (y.length : Int) := by omega
      have hk0 : (k : Int) < (y.length : Int) := by omega
      obtain ⟨b, off, rfl, hb, d0⟩ := int_row (HC.out.below HB.out) k (by omega)
      obtain ⟨b', off', heq, _, d1⟩ := int_row (HC.out.below HB.out) (k + 1) hlt
      simp only [Option.some.injEq, Addr.mk.injEq, and_true] at heq
      obtain ⟨rfl, rfl⟩ := heq
      obtain ⟨va, vc, rfl⟩ := row_shape HO.out
      have HNX : Hid _ := hide (movesK_next y t k hlt)
      have hwl := HB.out.size
      have hk1 : (0 : Int) ≤ (k : Int) + 1 := by omega
      have hwk : IntKind.i64.wrap (k : Int) = (k : Int) := by simp only [IntKind.wrap, IntKind.signed, IntKind.bits]; simp; omega
      generalize hp0 : y[k] = p0 at *
      generalize hp1 : y[k + 1] = p1 at *
      clear hp0 hp1
      go_wp2_with fail
      go_region_law (refine step_append_own rfl (.tmp 13) (.tmp 25) 45 rfl w.heap.size 36 i0 _ 3 24 hu45 hinfo hz0 hz1 hz2 rfl (by decide) (.slice va k vc) k ((movesK y t k).flatMap sltCells) (by simp [Act.eval]; done) (own_keep HO.out ((below_alloc (Below.refl _ _) _).drew)) ⟨wr.heap.size, 0, none⟩ 1 1 [.int .i64 p0, .int .i64 p1, .int .i64 t] (by simp [Act.eval]; done) rfl (three_news _ _ _ _ _) (three_one _ _ _) (by unfold maxLen; omega) (by omega) (by simp; omega) ?_; intro v' w' ho' hg'; have HB' : Hid (Below w.heap.size w w') := hide (((HB.out.alloc hwl _).drew).grown hg' (by simp; omega) (own_base HO.out)); have HO' : Hid (w'.ownsRow w.heap.size 36 3 v' (k + 1) ((movesK y t (k + 1)).flatMap sltCells)) := hide (by rw [HNX.out, List.flatMap_append]; simpa [sltCells] using ho'); clear ho' hg')
      all_goals
        go_wp2
        exact ⟨⟨k + 1, by omega, by simp, HO', HB'⟩, by simp [intOf]; omega⟩
    · have hlt' : ¬ (k : Int) + 1 < (y.length : Int) := by omega
      obtain ⟨va, vc, rfl⟩ := row_shape HO.out
      have HF : Hid (OwnMoves (movesL y t) w (.returned (.slice va k vc)) wr) := hide (by
        have e : k = y.length - 1 := by omega
        refine ⟨HB.out, _, rfl, ?_⟩
        have ho := HO.out
        unfold movesL
        rw [movesK_len, ← e]
        exact ho)
      go_wp2
      go_ret
      exact HF.out
end Go.Proofs.Ythlkhdhheikadaa
