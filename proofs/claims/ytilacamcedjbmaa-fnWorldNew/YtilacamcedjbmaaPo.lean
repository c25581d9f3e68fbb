/- The program's peersOf and WorldNew. -/
import Derived.Test.YtilacamcedjbmaaNB
import Derived.Test.YtilacamcedjbmaaOk2
import Derived.Test.YtilacamcedjbmaaInv2
import Derived.Deep.Onto
namespace Go.Proofs.Ytilacamcedjbmaa
open Go.ChangeShapes Go.WideShapes Go.ChangeAt Go.RowKit
set_option linter.unusedVariables false
def newP (id : Int) : Pr := ⟨id, none, 0, ⟨[], 0, 0⟩⟩
def peersL (l : List Slt) (s : Slt) : List Pr := (l.filter (fun o => nbB s o)).map (fun o => newP o.id)
theorem peersL_next (l : List Slt) (s : Slt) (k : Nat) (h : k < l.length) : peersL (l.take (k + 1)) s = peersL (l.take k) s ++ (if nbB s l[k] = true then [newP l[k].id] else []) := by
  unfold peersL
  rw [take_next l k h, List.filter_append, List.map_append]
  cases e : nbB s l[k] <;> simp [e]
theorem peersL_len (l : List Slt) (s : Slt) : (peersL l s).length ≤ l.length := by
  unfold peersL
  rw [List.length_map]
  exact List.length_filter_le _ _
theorem pr_one (l : List Pr) : ∀ u ∈ l.flatMap prCells, u.oneCell' = true := fun u hu => by
  obtain ⟨x, _, hx⟩ := List.mem_flatMap.1 hu
  simp only [prCells, List.mem_cons, List.not_mem_nil, or_false] at hx
  rcases hx with rfl | rfl | rfl | rfl <;> rfl
theorem infoP : (Try.prog.info? 50).map (fun i => (i.zero, i.size, i.bytes)) = some (some (.agg #[.int .i64 0, .slice none 0 0, .int .i64 0, .int .i64 0]), 4, 48) := by kernel_rfl
theorem huP : Try.prog.underlying 33 = some (.slice 50) := by kernel_rfl
theorem news4 {x : World} {g : Nat} {v0 v1 v2 v3 : Value} (c0 : x.cell? ⟨g, 0, none⟩ = some v0) (c1 : x.cell? ⟨g, 1, none⟩ = some v1) (c2 : x.cell? ⟨g, 2, none⟩ = some v2) (c3 : x.cell? ⟨g, 3, none⟩ = some v3) (j : Nat) (u : Value) (hj : [v0, v1, v2, v3][j]? = some u) : x.cell? ((⟨g, 0, none⟩ : Addr).add j) = some u := by
  rw [addr_add]
  match j, hj with
  | 0, hj => simp at hj; rw [← hj]; exact c0
  | 1, hj => simp at hj; rw [← hj]; exact c1
  | 2, hj => simp at hj; rw [← hj]; exact c2
  | 3, hj => simp at hj; rw [← hj]; exact c3
set_option maxRecDepth 100000 in
set_option maxHeartbeats 4000000 in
theorem peersOf_any (a : Option Addr) (l : List Slt) (cap : Nat) (s : Slt) (w : World) (hl : l.length ≤ 1048576) (h : SlotAt w a l) :
    Calls Try.prog 15 #[.slice a l.length cap, .agg #[.int .i64 s.id, .int .i64 s.up, .int .i64 s.has]] w fun e w' => Below w.heap.size w w' ∧ ∃ v, e = .returned v ∧ w'.ownsRow w.heap.size 50 4 v (peersL l s).length ((peersL l s).flatMap prCells) := by
  have HC : Hid _ := hide h
  clear h
  obtain ⟨i0, hi0, hz0, hz1, hz2⟩ := info_parts infoP
  have huP := huP
  have HX0 : Hid (Below (w.heap.size + 1) (w.alloc (.cells #[.int .i64 s.id, .int .i64 s.up, .int .i64 s.has] 37)) (w.alloc (.cells #[.int .i64 s.id, .int .i64 s.up, .int .i64 s.has] 37))) := hide (Below.refl _ _)
  go_enter Try.func15, Try.ntmps15
  go_wp2
  go_loopw [5, 10] (fun v i wr => ∃ (k : Nat), k ≤ l.length ∧ i = .int .i64 (k : Int) ∧ Hid (Below (w.heap.size + 1) (w.alloc (.cells #[.int .i64 s.id, .int .i64 s.up, .int .i64 s.has] 37)) wr) ∧ Hid (wr.ownsRow (w.heap.size + 1) 50 4 v (peersL (l.take k) s).length ((peersL (l.take k) s).flatMap prCells))) (fun v i wr => l.length - (intOf i).toNat)
  case atStart => exact ⟨0, by omega, rfl, HX0, hide ⟨by simp [peersL], .inl ⟨rfl, by simp [peersL]⟩⟩⟩
  case round =>
    obtain ⟨k, hk, rfl, HX, HO⟩ := hrel
    clear HX0
    obtain ⟨va, vc, rfl⟩ := row_shape HO.out
    obtain ⟨x0, x1, x2⟩ := cell_new3 (show Below (w.alloc (.cells #[.int .i64 s.id, .int .i64 s.up, .int .i64 s.has] 37)).heap.size _ wr by simpa using HX.out)
    by_cases hlt : k < l.length
    · have hlt' : (k : Int) < (l.length : Int) := by omega
      have hbel : Below w.heap.size w wr := (below_alloc (Below.refl _ _) _).trans (HX.out.mono (by omega))
      obtain ⟨b, off, rfl, hb, c0, c1, c2, _⟩ := (HC.out.below hbel) k hlt
      have HNX : Hid _ := hide (peersL_next l s k hlt)
      have HS : Hid (w.heap.size + 1 ≤ wr.heap.size) := hide (by have := HX.out.size; simpa using this)
      have hlw : w.heap.size < wr.heap.size := by have := HS.out; omega
      have HLN : Hid ((peersL (l.take k) s).length ≤ 1048576) := hide (Nat.le_trans (peersL_len _ _) (by rw [List.length_take]; omega))
      clear hbel
      go_wp2_with fail
      refine (neighbours_any s l[k] _).mono ?_
      rintro e w4 ⟨rfl, hb4⟩
      obtain ⟨y0, y1, y2⟩ := cell_new3 hb4
      have b4 : Below wr.heap.size wr w4 := below_trans (below_alloc (Below.refl _ _) _) hb4
      have HX4 : Hid _ := hide (HX.out.trans (b4.mono HS.out))
      have HO4 : Hid _ := hide (own_keep HO.out b4)
      have HS4 : Hid (w.heap.size + 1 ≤ w4.heap.size) := hide (Nat.le_trans HS.out b4.size)
      clear hb4 b4 HX HO
      cases hnb : nbB s l[k]
      · have hnx := HNX.out
        rw [hnb] at hnx
        simp only [Bool.false_eq_true, if_false, List.append_nil] at hnx
        have HO5 : Hid (w4.ownsRow (w.heap.size + 1) 50 4 (.slice va (peersL (l.take k) s).length vc) (peersL (l.take (k + 1)) s).length ((peersL (l.take (k + 1)) s).flatMap prCells)) := hide (by rw [hnx]; exact HO4.out)
        clear hnx HNX HO4
        go_wp2
        exact ⟨⟨k + 1, by omega, by go_num, HX4, HO5⟩, by simp [intOf]; omega⟩
      · go_wp2_with (first | (at_builtin; refine Shut2.mk ?_) | fail)
        refine Shut2.mk' ?_
        refine wpList_append_own_at _ rfl _ _ 33 rfl (w.heap.size + 1) 50 i0 _ 4 48 huP hi0 hz0 hz1 hz2 rfl (by decide) (.slice va (peersL (l.take k) s).length vc) (peersL (l.take k) s).length ((peersL (l.take k) s).flatMap prCells) rfl ?own ⟨w4.heap.size, 0, none⟩ 1 1 [.int .i64 l[k].id, .slice none 0 0, .int .i64 0, .int .i64 0] rfl rfl ?news (by simp [Value.oneCell']) (by have := HLN.out; unfold maxLen; omega) (by have := HLN.out; omega) ?base ?_
        case own => exact own_keep HO4.out (below_alloc (Below.refl _ _) _)
        case news => exact news4 (World.cell?_alloc_at _ _ _ _ rfl) (World.cell?_alloc_at _ _ _ _ rfl) (World.cell?_alloc_at _ _ _ _ rfl) (World.cell?_alloc_at _ _ _ _ rfl)
        case base => have := HS4.out; simp; omega
        intro v6 w6 ho6 hg6 _ _
        have hnx := HNX.out
        rw [hnb] at hnx
        simp only [if_true] at hnx
        have HO6 : Hid (w6.ownsRow (w.heap.size + 1) 50 4 v6 (peersL (l.take (k + 1)) s).length ((peersL (l.take (k + 1)) s).flatMap prCells)) := hide (by
          rw [hnx, List.flatMap_append]
          simpa [prCells, newP] using ho6)
        have HX6 : Hid _ := hide ((HX4.out.alloc HS4.out _).grown hg6 (by have := HS4.out; simp; omega) (fun j hj => own_base HO4.out j hj))
        clear hnx HNX HO4 ho6 hg6
        go_wp2
        exact ⟨⟨k + 1, by omega, by go_num, HX6, HO6⟩, by simp [intOf]; omega⟩
    · have hlt' : ¬ (k : Int) < (l.length : Int) := by omega
      have HE : Hid (Below w.heap.size w wr ∧ wr.ownsRow w.heap.size 50 4 (.slice va (peersL (l.take k) s).length vc) (peersL l s).length ((peersL l s).flatMap prCells)) := hide ⟨(below_alloc (Below.refl _ _) _).trans (HX.out.mono (by omega)), by
        have := HO.out
        rw [List.take_of_length_le (by omega)] at this
        rw [List.take_of_length_le (by omega)]
        exact this.mono (by omega)⟩
      go_wp2
      go_ret
      exact ⟨HE.out.1, _, rfl, HE.out.2⟩
end Go.Proofs.Ytilacamcedjbmaa
