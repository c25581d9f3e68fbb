/- The contracts of slices.Clone, of holds and of answers: a row of its own. -/
import Derived.Test.YteaopalhbnhbaaaGreatDoorSOk
import Derived.Maps.AppendAt
import Derived.OwnWalk
namespace Go.Proofs.YteaopalhbnhbaaaGreatDoor
open Go.ChangeShapes Go.WideShapes Go.ChangeAt Go.RowKit
set_option linter.unusedVariables false
set_option maxRecDepth 100000
def hldCells (x : Hld) : List Value := [.int .i64 x.id, .string x.fr, .string x.to, .int .i64 x.amount]
def snCells (x : Sn) : List Value := [.int .i64 x.id, .int .i64 x.code]
def accCells (x : Acc) : List Value := [.string x.name, .string x.cur, .int .i64 x.limit, .int .i64 x.posted]
theorem hld_news {w : World} {b off : Nat} {l : List Hld} (h : HoldAt w (some ⟨b, off, none⟩) l) : ∀ j u, (l.flatMap hldCells)[j]? = some u → w.cell? ((⟨b, off, none⟩ : Addr).add j) = some u := by
  intro j u hj
  have hlen := flat_len hldCells 4 (fun _ => rfl) l
  have hj' : j < (l.flatMap hldCells).length := (List.getElem?_eq_some_iff.1 hj).1
  rw [hlen] at hj'
  have hi : j / 4 < l.length := by omega
  have hr : j % 4 < 4 := Nat.mod_lt _ (by decide)
  have hg := flat_get hldCells 4 (fun _ => rfl) l (j / 4) hi (j % 4) hr
  rw [show j / 4 * 4 + j % 4 = j by omega, hj] at hg
  obtain ⟨b', off', e, _, c0, c1, c2, c3, _⟩ := h (j / 4) hi
  simp only [Option.some.injEq, Addr.mk.injEq, and_true] at e
  obtain ⟨rfl, rfl⟩ := e
  rw [addr_add]
  have : j % 4 = 0 ∨ j % 4 = 1 ∨ j % 4 = 2 ∨ j % 4 = 3 := by omega
  rcases this with h0 | h0 | h0 | h0 <;> rw [h0] at hg <;> simp only [hldCells, List.getElem?_cons_zero, List.getElem?_cons_succ, Option.some.injEq] at hg <;> subst hg
  · rw [show off + j = off + j / 4 * 4 by omega]; exact c0
  · rw [show off + j = off + j / 4 * 4 + 1 by omega]; exact c1
  · rw [show off + j = off + j / 4 * 4 + 2 by omega]; exact c2
  · rw [show off + j = off + j / 4 * 4 + 3 by omega]; exact c3
theorem ans_news {w : World} {b off : Nat} {l : List Sn} (h : AnsAt w (some ⟨b, off, none⟩) l) : ∀ j u, (l.flatMap snCells)[j]? = some u → w.cell? ((⟨b, off, none⟩ : Addr).add j) = some u := by
  intro j u hj
  have hlen := flat_len snCells 2 (fun _ => rfl) l
  have hj' : j < (l.flatMap snCells).length := (List.getElem?_eq_some_iff.1 hj).1
  rw [hlen] at hj'
  have hi : j / 2 < l.length := by omega
  have hr : j % 2 < 2 := Nat.mod_lt _ (by decide)
  have hg := flat_get snCells 2 (fun _ => rfl) l (j / 2) hi (j % 2) hr
  rw [show j / 2 * 2 + j % 2 = j by omega, hj] at hg
  obtain ⟨b', off', e, _, c0, c1, _⟩ := h (j / 2) hi
  simp only [Option.some.injEq, Addr.mk.injEq, and_true] at e
  obtain ⟨rfl, rfl⟩ := e
  rw [addr_add]
  have : j % 2 = 0 ∨ j % 2 = 1 := by omega
  rcases this with h0 | h0 <;> rw [h0] at hg <;> simp only [snCells, List.getElem?_cons_zero, List.getElem?_cons_succ, Option.some.injEq] at hg <;> subst hg
  · rw [show off + j = off + j / 2 * 2 by omega]; exact c0
  · rw [show off + j = off + j / 2 * 2 + 1 by omega]; exact c1
/-- a row that is owned, read anew -/
theorem hld_owned {w : World} {base : Nat} {e : TypeId} {v : Value} {l : List Hld} (h : w.ownsRow base e 4 v l.length (l.flatMap hldCells)) (hs : ∀ x ∈ l, x.fr.size ≤ maxLen ∧ x.to.size ≤ maxLen ∧ I64 x.id ∧ I64 x.amount) :
    ∃ a cap, v = .slice a l.length cap ∧ HoldAt w a l := by
  obtain ⟨_, ⟨rfl, h0⟩ | ⟨g, cap, cur, rfl, hb, hg, hn, hc, hz, ht⟩⟩ := h
  · exact ⟨none, 0, by rw [h0], fun i hi => by omega⟩
  · refine ⟨_, _, rfl, fun i hi => ?_⟩
    have hgs : g < w.heap.size := (Array.getElem?_eq_some_iff.1 hg).1
    have hcell : ∀ r, r < 4 → w.cell? ⟨g, 0 + i * 4 + r, none⟩ = (hldCells l[i])[r]? := fun r hr => by
      have h1 := flat_get hldCells 4 (fun _ => rfl) l i hi r hr
      have hlt : i * 4 + r < l.length * 4 := by omega
      rw [← ht, List.getElem?_take_of_lt hlt] at h1
      simp only [World.cell?, hg]
      rw [← h1]
      simp
    have hm := hs _ (List.getElem_mem hi)
    exact ⟨g, 0, rfl, hgs, by have := hcell 0 (by decide); simpa [hldCells] using this, by have := hcell 1 (by decide); simpa [hldCells] using this, by have := hcell 2 (by decide); simpa [hldCells] using this, by have := hcell 3 (by decide); simpa [hldCells] using this, hm⟩
theorem ans_owned {w : World} {base : Nat} {e : TypeId} {v : Value} {l : List Sn} (h : w.ownsRow base e 2 v l.length (l.flatMap snCells)) (hs : ∀ x ∈ l, I64 x.id ∧ I64 x.code) :
    ∃ a cap, v = .slice a l.length cap ∧ AnsAt w a l := by
  obtain ⟨_, ⟨rfl, h0⟩ | ⟨g, cap, cur, rfl, hb, hg, hn, hc, hz, ht⟩⟩ := h
  · exact ⟨none, 0, by rw [h0], fun i hi => by omega⟩
  · refine ⟨_, _, rfl, fun i hi => ?_⟩
    have hgs : g < w.heap.size := (Array.getElem?_eq_some_iff.1 hg).1
    have hcell : ∀ r, r < 2 → w.cell? ⟨g, 0 + i * 2 + r, none⟩ = (snCells l[i])[r]? := fun r hr => by
      have h1 := flat_get snCells 2 (fun _ => rfl) l i hi r hr
      have hlt : i * 2 + r < l.length * 2 := by omega
      rw [← ht, List.getElem?_take_of_lt hlt] at h1
      simp only [World.cell?, hg]
      rw [← h1]
      simp
    have hm := hs _ (List.getElem_mem hi)
    exact ⟨g, 0, rfl, hgs, by have := hcell 0 (by decide); simpa [snCells] using this, by have := hcell 1 (by decide); simpa [snCells] using this, hm⟩
theorem hld_parts {w : World} {a : Option Addr} {l : List Hld} (h : HoldAt w a l) : ∀ x ∈ l, x.fr.size ≤ maxLen ∧ x.to.size ≤ maxLen ∧ I64 x.id ∧ I64 x.amount := fun x hx => by
  obtain ⟨i, hi, rfl⟩ := List.getElem_of_mem hx
  obtain ⟨_, _, _, _, _, _, _, _, r⟩ := h i hi
  exact r
theorem ans_parts {w : World} {a : Option Addr} {l : List Sn} (h : AnsAt w a l) : ∀ x ∈ l, I64 x.id ∧ I64 x.code := fun x hx => by
  obtain ⟨i, hi, rfl⟩ := List.getElem_of_mem hx
  obtain ⟨_, _, _, _, _, _, r⟩ := h i hi
  exact r
theorem hld_one (l : List Hld) : ∀ u ∈ l.flatMap hldCells, u.oneCell' = true := fun u hu => by
  obtain ⟨x, _, hx⟩ := List.mem_flatMap.1 hu
  simp only [hldCells, List.mem_cons, List.not_mem_nil, or_false] at hx
  rcases hx with rfl | rfl | rfl | rfl <;> rfl
theorem ans_one (l : List Sn) : ∀ u ∈ l.flatMap snCells, u.oneCell' = true := fun u hu => by
  obtain ⟨x, _, hx⟩ := List.mem_flatMap.1 hu
  simp only [snCells, List.mem_cons, List.not_mem_nil, or_false] at hx
  rcases hx with rfl | rfl <;> rfl
def CloneH (l : List Hld) (w : World) (e : Ending) (w' : World) : Prop := Below w.heap.size w w' ∧ ∃ a cap, e = .returned (.slice a l.length cap) ∧ HoldAt w' a l
def CloneA (l : List Sn) (w : World) (e : Ending) (w' : World) : Prop := Below w.heap.size w w' ∧ ∃ a cap, e = .returned (.slice a l.length cap) ∧ AnsAt w' a l
theorem below_grown {w w' : World} {row : Option Nat} (h : w.grownBy w' row) {w0 : World} (k : Below w0.heap.size w0 w) (hr : ∀ j, row = some j → w0.heap.size ≤ j) : Below w0.heap.size w0 w' := k.grown h k.size hr
theorem info46 : (Tryz.prog.info? 53).map (fun i => (i.zero, i.size, i.bytes)) = some (some (.agg #[.int .i64 0, .string ByteArray.empty, .string ByteArray.empty, .int .i64 0]), 4, 48) := by kernel_rfl
theorem info51 : (Tryz.prog.info? 55).map (fun i => (i.zero, i.size, i.bytes)) = some (some (.agg #[.int .i64 0, .int .i64 0]), 2, 16) := by kernel_rfl
theorem Shut2.mk' {p : Prop} (h : p) : Shut2 p := h
set_option maxRecDepth 100000 in
set_option maxHeartbeats 1000000 in
theorem cloneH_aux (ad : Addr) (l : List Hld) (cap : Nat) (w : World) (hl : l.length ≤ 1048576) (hn : ∀ j u, (l.flatMap hldCells)[j]? = some u → w.cell? (ad.add j) = some u) (hs : ∀ x ∈ l, x.fr.size ≤ maxLen ∧ x.to.size ≤ maxLen ∧ I64 x.id ∧ I64 x.amount) :
    Calls Tryz.prog 72 #[.slice (some ad) l.length cap] w fun e w' => CloneH l w e w' := by
  obtain ⟨i0, hi, hz0, hz1, hz2⟩ := info_parts info46
  have HN : Hid _ := hide hn
  have HS : Hid _ := hide hs
  clear hn hs
  have he : ∀ w : World, (binOp .eql 25 (.slice (some ad) l.length cap) (.slice none 0 0)).run Tryz.prog w = .ok (.bool false) w := fun _ => rfl
  have u30 : Tryz.prog.underlying 25 = some (.slice 53) := by kernel_rfl
  go_enter Tryz.func72, Tryz.ntmps72
  go_wp2_with (first | (at_builtin; refine Shut2.mk ?_) | go_in)
  refine Shut2.mk' ?_
  refine wpList_append_own_at _ rfl _ _ 25 rfl w.heap.size 53 i0 _ 4 48 u30 hi hz0 hz1 hz2 rfl (by decide) _ 0 [] rfl ?own ad l.length cap (l.flatMap hldCells) rfl (flat_len hldCells 4 (fun _ => rfl) l) ?news (hld_one l) (by unfold maxLen; omega) (by omega) ?base ?_
  case own => exact World.ownsRow_made w #[] 0 (Nat.le_refl _) (by unfold maxLen; omega) rfl
  case news => exact fun j u hj => (World.grownBy_alloc w _ none).cell (HN.out j u hj) (by simp)
  case base => simp
  intro v' w1 hown' hgrow hnil hloc
  have HB : Hid (Below w.heap.size w w1) := hide (below_grown hgrow (below_alloc (Below.refl _ _) _) (fun j hj => by cases hj; exact Nat.le_refl _))
  have HO : Hid _ := hide hown'
  clear hown' hgrow hnil hloc
  go_wp2
  go_ret
  refine ⟨HB.out, ?_⟩
  have ho := HO.out
  rw [List.nil_append, Nat.zero_add] at ho
  obtain ⟨a', cap', rfl, ha⟩ := hld_owned ho HS.out
  exact ⟨a', cap', rfl, ha⟩
set_option maxRecDepth 100000 in
set_option maxHeartbeats 1000000 in
theorem cloneH_any (a : Option Addr) (l : List Hld) (cap : Nat) (w : World) (hl : l.length ≤ 1048576) (h : HoldAt w a l) :
    Calls Tryz.prog 72 #[.slice a l.length cap] w fun e w' => CloneH l w e w' := by
  match a with
  | some ad =>
    cases l with
    | nil => exact cloneH_aux ad [] cap w hl (fun j u hj => by simp at hj) (fun x hx => by cases hx)
    | cons x xs =>
      obtain ⟨b, off, e, _⟩ := h 0 (by simp)
      cases e
      exact cloneH_aux _ _ cap w hl (hld_news h) (hld_parts h)
  | none =>
    have h0 : l.length = 0 := by
      rcases Nat.eq_zero_or_pos l.length with h0 | h0
      · exact h0
      · obtain ⟨b, off, e, _⟩ := h 0 h0
        cases e
    obtain rfl : l = [] := List.eq_nil_of_length_eq_zero h0
    have he : ∀ w : World, (binOp .eql 25 (.slice none 0 cap) (.slice none 0 0)).run Tryz.prog w = .ok (.bool true) w := fun _ => rfl
    show Calls Tryz.prog 72 #[.slice none 0 cap] w fun e w' => CloneH [] w e w'
    go_enter Tryz.func72, Tryz.ntmps72
    go_wp2
    go_ret
    exact ⟨Below.refl _ _, none, 0, rfl, fun i hi => by simp at hi⟩
set_option maxRecDepth 100000 in
set_option maxHeartbeats 1000000 in
theorem cloneA_aux (ad : Addr) (l : List Sn) (cap : Nat) (w : World) (hl : l.length ≤ 1048576) (hn : ∀ j u, (l.flatMap snCells)[j]? = some u → w.cell? (ad.add j) = some u) (hs : ∀ x ∈ l, I64 x.id ∧ I64 x.code) :
    Calls Tryz.prog 73 #[.slice (some ad) l.length cap] w fun e w' => CloneA l w e w' := by
  obtain ⟨i0, hi, hz0, hz1, hz2⟩ := info_parts info51
  have HN : Hid _ := hide hn
  have HS : Hid _ := hide hs
  clear hn hs
  have he : ∀ w : World, (binOp .eql 26 (.slice (some ad) l.length cap) (.slice none 0 0)).run Tryz.prog w = .ok (.bool false) w := fun _ => rfl
  have u30 : Tryz.prog.underlying 26 = some (.slice 55) := by kernel_rfl
  go_enter Tryz.func73, Tryz.ntmps73
  go_wp2_with (first | (at_builtin; refine Shut2.mk ?_) | go_in)
  refine Shut2.mk' ?_
  refine wpList_append_own_at _ rfl _ _ 26 rfl w.heap.size 55 i0 _ 2 16 u30 hi hz0 hz1 hz2 rfl (by decide) _ 0 [] rfl ?own ad l.length cap (l.flatMap snCells) rfl (flat_len snCells 2 (fun _ => rfl) l) ?news (ans_one l) (by unfold maxLen; omega) (by omega) ?base ?_
  case own => exact World.ownsRow_made w #[] 0 (Nat.le_refl _) (by unfold maxLen; omega) rfl
  case news => exact fun j u hj => (World.grownBy_alloc w _ none).cell (HN.out j u hj) (by simp)
  case base => simp
  intro v' w1 hown' hgrow hnil hloc
  have HB : Hid (Below w.heap.size w w1) := hide (below_grown hgrow (below_alloc (Below.refl _ _) _) (fun j hj => by cases hj; exact Nat.le_refl _))
  have HO : Hid _ := hide hown'
  clear hown' hgrow hnil hloc
  go_wp2
  go_ret
  refine ⟨HB.out, ?_⟩
  have ho := HO.out
  rw [List.nil_append, Nat.zero_add] at ho
  obtain ⟨a', cap', rfl, ha⟩ := ans_owned ho HS.out
  exact ⟨a', cap', rfl, ha⟩
set_option maxRecDepth 100000 in
set_option maxHeartbeats 1000000 in
theorem cloneA_any (a : Option Addr) (l : List Sn) (cap : Nat) (w : World) (hl : l.length ≤ 1048576) (h : AnsAt w a l) :
    Calls Tryz.prog 73 #[.slice a l.length cap] w fun e w' => CloneA l w e w' := by
  match a with
  | some ad =>
    cases l with
    | nil => exact cloneA_aux ad [] cap w hl (fun j u hj => by simp at hj) (fun x hx => by cases hx)
    | cons x xs =>
      obtain ⟨b, off, e, _⟩ := h 0 (by simp)
      cases e
      exact cloneA_aux _ _ cap w hl (ans_news h) (ans_parts h)
  | none =>
    have h0 : l.length = 0 := by
      rcases Nat.eq_zero_or_pos l.length with h0 | h0
      · exact h0
      · obtain ⟨b, off, e, _⟩ := h 0 h0
        cases e
    obtain rfl : l = [] := List.eq_nil_of_length_eq_zero h0
    have he : ∀ w : World, (binOp .eql 26 (.slice none 0 cap) (.slice none 0 0)).run Tryz.prog w = .ok (.bool true) w := fun _ => rfl
    show Calls Tryz.prog 73 #[.slice none 0 cap] w fun e w' => CloneA [] w e w'
    go_enter Tryz.func73, Tryz.ntmps73
    go_wp2
    go_ret
    exact ⟨Below.refl _ _, none, 0, rfl, fun i hi => by simp at hi⟩
end Go.Proofs.YteaopalhbnhbaaaGreatDoor
