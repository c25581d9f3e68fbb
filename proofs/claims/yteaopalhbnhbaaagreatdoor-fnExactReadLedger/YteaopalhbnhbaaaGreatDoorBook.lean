/- The book of the program: accounts as pointers in a map. -/
import Derived.Test.YteaopalhbnhbaaaGreatDoorClone
import Derived.Test.YteaopalhbnhbaaaGreatDoorIAcc
import Derived.Maps.OwnOps
import Derived.Maps.OwnSet
import Derived.Maps.RangeWalk
import Derived.Maps.Views
namespace Go.Proofs.YteaopalhbnhbaaaGreatDoor
open Go.ChangeShapes Go.WideShapes Go.ChangeAt Go.RowKit Go.Maps
set_option linter.unusedVariables false
set_option maxRecDepth 100000
theorem u9 : Tryz.prog.underlying 9 = some .string := by kernel_rfl
theorem u64 : Tryz.prog.underlying 100 = some (.map 9 105) := by kernel_rfl
theorem zero63 (w : World) : (zeroValue 105).run Tryz.prog w = .ok (.pointer none) w := by kernel_rfl
theorem law9 : Keyed Tryz.prog 9 := string_keyed u9
def kn (s : ByteArray) : Lit := .string s.data.toList
theorem kn_of {s : ByteArray} (h : s.size ≤ maxLen) : keyOf Tryz.prog 9 (.string s) = some (kn s) := _root_.Go.WideMaps.keyOf_string_mk u9 h
theorem kn_inj {a b : ByteArray} (h : kn a = kn b) : a = b := by
  simp only [kn, Lit.string.injEq] at h
  exact ByteArray.ext (Array.toList_inj.1 h)
theorem kn_key (s : ByteArray) : WideAt.IsKeyLit (kn s) := trivial
def ptrD (p : Nat) : DataW Unit := .lit (.int .i64 (p : Int))
/-- how a pointer to a whole block reads: as the block's number -/
def ptrElem (v : Value) : Option (DataW Unit × List MemPlace) := match v with
  | .pointer (some ⟨p, 0, none⟩) => some (ptrD p, [])
  | _ => none
theorem ptr_mk (p : Nat) : ptrElem (.pointer (some ⟨p, 0, none⟩)) = some (ptrD p, []) := rfl
theorem ptr_inv {v : Value} {y : DataW Unit × List MemPlace} (h : ptrElem v = some y) : ∃ p, v = .pointer (some ⟨p, 0, none⟩) ∧ y = (ptrD p, []) := by
  unfold ptrElem at h
  split at h
  · exact ⟨_, rfl, (Option.some.inj h).symm⟩
  · cases h
theorem ptrD_inj {a b : Nat} (h : ptrD a = ptrD b) : a = b := by
  simp [ptrD] at h
  omega
def AccBlk (w : World) (q : Nat) (x : Acc) : Prop :=
  q < w.heap.size ∧ w.cell? ⟨q, 0, none⟩ = some (.string x.name) ∧ w.cell? ⟨q, 1, none⟩ = some (.string x.cur) ∧ w.cell? ⟨q, 2, none⟩ = some (.int .i64 x.limit) ∧ w.cell? ⟨q, 3, none⟩ = some (.int .i64 x.posted)
theorem AccBlk.kept {w w' : World} {q : Nat} {x : Acc} (h : AccBlk w q x) (hs : w.heap.size ≤ w'.heap.size) (hk : ∀ a v, w.cell? a = some v → w'.cell? a = some v) : AccBlk w' q x :=
  ⟨Nat.lt_of_lt_of_le h.1 hs, hk _ _ h.2.1, hk _ _ h.2.2.1, hk _ _ h.2.2.2.1, hk _ _ h.2.2.2.2⟩
structure MapIs (w : World) (D : DataW Unit) (l : List Acc) : Prop where
  at_ : ∀ i (h : i < l.length), ∃ q, (∀ z, D.atKey (kn l[i].name) z = ptrD q) ∧ AccBlk w q l[i]
  only : ∀ kl, Maps.has D kl = true → ∃ i, ∃ h : i < l.length, kl = kn l[i].name
theorem MapIs.kept {w w' : World} {D : DataW Unit} {l : List Acc} (h : MapIs w D l) (hs : w.heap.size ≤ w'.heap.size) (hk : ∀ a v, w.cell? a = some v → w'.cell? a = some v) : MapIs w' D l :=
  ⟨fun i hi => by obtain ⟨q, h1, h2⟩ := h.at_ i hi; exact ⟨q, h1, h2.kept hs hk⟩, h.only⟩
def MapHas (w : World) (m : Nat) (l : List Acc) : Prop := ∃ D, w.ownsMap Tryz.prog 9 ptrElem m l.length D ∧ MapIs w D l
theorem mapHas_made (w : World) : MapHas (w.alloc (.map #[] 0)) w.heap.size [] :=
  ⟨.map [], World.ownsMap_made _ _ _ _, fun i hi => by simp at hi, fun kl h => by simp [Maps.has] at h⟩
theorem below_grownBy {w w' : World} (b : Below w.heap.size w w') : w.grownBy w' none := ⟨b.os, b.tape, b.output, b.size, fun i hi _ => b.block i hi⟩
theorem MapHas.below {w w' : World} {m : Nat} {l : List Acc} (h : MapHas w m l) (b : Below w.heap.size w w') : MapHas w' m l := by
  obtain ⟨D, ho, hi⟩ := h
  exact ⟨D, ho.kept (below_grownBy b) (by simp), hi.kept b.size (below_keeps b)⟩
/-- a map's block bears no cell -/
theorem map_no_cell {w : World} {m n : Nat} {D : DataW Unit} (h : w.ownsMap Tryz.prog 9 ptrElem m n D) {a : Addr} {v : Value} (hc : w.cell? a = some v) : a.block ≠ m := by
  obtain ⟨es, clock, hb, _⟩ := h
  intro e
  unfold World.cell? at hc
  rw [e, hb] at hc
  simp at hc
theorem map_keeps {w w' : World} {m n : Nat} {D : DataW Unit} (h : w.ownsMap Tryz.prog 9 ptrElem m n D) (g : w.grownBy w' (some m)) : ∀ a v, w.cell? a = some v → w'.cell? a = some v :=
  fun a v hc => g.cell hc (fun e => map_no_cell h hc (Option.some.inj e))
/-- one account more -/
theorem mapIs_put {w w' : World} {D : DataW Unit} {l : List Acc} {x : Acc} {q : Nat} (hm : Maps.IsMap D) (h : MapIs w D l) (hs : w.heap.size ≤ w'.heap.size) (hk : ∀ a v, w.cell? a = some v → w'.cell? a = some v)
    (hx : ∀ i (hi : i < l.length), l[i].name ≠ x.name) (hq : AccBlk w' q x) : MapIs w' (D.put (kn x.name) (ptrD q)) (l ++ [x]) := by
  refine ⟨fun i hi => ?_, fun kl hkl => ?_⟩
  · rcases Nat.lt_or_ge i l.length with h1 | h1
    · obtain ⟨q', a1, a2⟩ := h.at_ i h1
      rw [List.getElem_append_left h1]
      exact ⟨q', fun z => by rw [atKey_put_other (fun e => hx i h1 (kn_inj e))]; exact a1 z, a2.kept hs hk⟩
    · have : i = l.length := by simp at hi; omega
      subst this
      simp only [List.getElem_concat_length]
      exact ⟨q, fun z => atKey_put_same hm (kn_key _) _ z, hq⟩
  · by_cases e : kl = kn x.name
    · exact ⟨l.length, by simp, by simp [e]⟩
    · rw [has_put_other e] at hkl
      obtain ⟨i, hi, rfl⟩ := h.only kl hkl
      exact ⟨i, by simp; omega, by rw [List.getElem_append_left hi]⟩
/-- the step of a range over the book's map -/
theorem wpList_next_book {ops : Array Oper} {rest : List Oper} {o : Oper} {a : Act} {Q : Exit → Act → World → Prop} (w : World) (hg : o.guard = none) (it : Operand) (hop : o.op = Op.next it false) (m r n : Nat) (D : DataW Unit) (left : Lit → Bool) (cnt : Nat)
    (hit : a.eval it = .pointer (some ⟨r, 0, none⟩)) (h : w.ranges Tryz.prog 9 ptrElem m r n D left cnt) (l : List Acc) (hi : MapIs w D l)
    (hDone : (∀ kl, left kl = false) → wpList Tryz.prog ops Q rest (a.put o.dst (.tuple #[.bool false])) w)
    (hMore : ∀ (j : Nat) (hj : j < l.length) (q : Nat) (w' : World) (cnt' : Nat), left (kn l[j].name) = true → AccBlk w q l[j] → w'.ranges Tryz.prog 9 ptrElem m r n D (fun z => left z && !z.sameKey (kn l[j].name)) cnt' → cnt' < cnt → w.grownBy w' (some r) → w'.heap.size = w.heap.size →
      (Instr.entry (.pointer (some ⟨r, 0, none⟩))).run Tryz.prog w' = .ok (.tuple #[.string l[j].name, .pointer (some ⟨q, 0, none⟩)]) w' → wpList Tryz.prog ops Q rest (a.put o.dst (.tuple #[.bool true, .string l[j].name, .pointer (some ⟨q, 0, none⟩)])) w') :
    wpList Tryz.prog ops Q (o :: rest) a w := by
  refine wpList_next_ranges w hg it hop 9 law9 ptrElem Value.string (fun q : Nat => .pointer (some ⟨q, 0, none⟩)) (fun key kl hk => by obtain ⟨s, rfl, _⟩ := WideMaps.string_of_keyOf u9 hk; exact ⟨s, rfl⟩) (fun v y hv => by obtain ⟨p, rfl, _⟩ := ptr_inv hv; exact ⟨p, rfl⟩)
    m r n D left cnt hit h (fun _ hl => hDone hl) (fun x c kl y w' cnt' hkey hlk hv hat hrg hlt hgr hsz hen => ?_)
  obtain ⟨j, hj, rfl⟩ := hi.only kl (has_true_of_atKey hat)
  obtain ⟨q, hq, hb⟩ := hi.at_ j hj
  obtain ⟨p, e1, rfl⟩ := ptr_inv hv
  simp only [Value.pointer.injEq, Option.some.injEq, Addr.mk.injEq, and_true] at e1
  subst e1
  obtain rfl := ptrD_inj ((hat (ptrD 0)).symm.trans (hq (ptrD 0)))
  obtain ⟨s, e2, e3, _⟩ := WideMaps.string_of_keyOf u9 hkey
  cases e2
  obtain rfl := kn_inj (a := l[j].name) e3
  exact hMore j hj _ w' cnt' hlk hb hrg hlt hgr hsz hen
theorem look_at {x : World} {m n : Nat} {D : DataW Unit} (ho : x.ownsMap Tryz.prog 9 ptrElem m n D) {nm : ByteArray} (hn : nm.size ≤ maxLen) {q : Nat} (hq : ∀ z, D.atKey (kn nm) z = ptrD q) :
    (Instr.lookup 100 (.map (some m)) (.string nm) false).run Tryz.prog x = .ok (.pointer (some ⟨q, 0, none⟩)) x := by
  obtain ⟨es, clock, hb, F, _, rfl⟩ := ho
  rcases Maps.fit_look (t := 100) (e := 105) false law9 u64 (zero63 x) hb F (kn_of hn) with ⟨hrun, hno, hat⟩ | ⟨e0, y, _, _, hrun, hR, hat, _⟩
  · have h2 := (hq (ptrD (q + 1))).symm.trans (hat (ptrD (q + 1)))
    have := ptrD_inj h2
    omega
  · obtain ⟨p, e1, rfl⟩ := ptr_inv hR
    obtain rfl := ptrD_inj ((hat (ptrD 0)).symm.trans (hq (ptrD 0)))
    rw [hrun, e1]
    rfl
theorem look_no {x : World} {m n : Nat} {D : DataW Unit} (ho : x.ownsMap Tryz.prog 9 ptrElem m n D) {nm : ByteArray} (hn : nm.size ≤ maxLen) (hq : Maps.has D (kn nm) = false) :
    (Instr.lookup 100 (.map (some m)) (.string nm) false).run Tryz.prog x = .ok (.pointer none) x := by
  obtain ⟨es, clock, hb, F, _, rfl⟩ := ho
  rcases Maps.fit_look (t := 100) (e := 105) false law9 u64 (zero63 x) hb F (kn_of hn) with ⟨hrun, hno, hat⟩ | ⟨e0, y, _, _, hrun, hR, hat, _⟩
  · exact hrun
  · rw [has_true_of_atKey hat] at hq; cases hq
theorem drewN_below (w : World) : ∀ k, Below w.heap.size w (w.drewN k)
  | 0 => Below.refl _ _
  | k + 1 => (drewN_below w k).drew
/-- 'm[k]' of the book's map -/
theorem look_book {w : World} {m : Nat} {l : List Acc} (h : MapHas w m l) {nm : ByteArray} (hn : nm.size ≤ maxLen) :
    (∃ j, ∃ hj : j < l.length, ∃ q, l[j].name = nm ∧ AccBlk w q l[j] ∧ ∀ k, (Instr.lookup 100 (.map (some m)) (.string nm) false).run Tryz.prog (w.drewN k) = .ok (.pointer (some ⟨q, 0, none⟩)) (w.drewN k)) ∨
    ((∀ j (hj : j < l.length), l[j].name ≠ nm) ∧ ∀ k, (Instr.lookup 100 (.map (some m)) (.string nm) false).run Tryz.prog (w.drewN k) = .ok (.pointer none) (w.drewN k)) := by
  obtain ⟨D, ho, hi⟩ := h
  have hoN : ∀ k, (w.drewN k).ownsMap Tryz.prog 9 ptrElem m l.length D := fun k => ho.kept (below_grownBy (drewN_below w k)) (by simp)
  by_cases hex : ∃ j, ∃ hj : j < l.length, l[j].name = nm
  · obtain ⟨j, hj, e⟩ := hex
    obtain ⟨q, hq, hb⟩ := hi.at_ j hj
    rw [e] at hq
    exact .inl ⟨j, hj, q, e, hb, fun k => look_at (hoN k) hn hq⟩
  · have hno : ∀ j (hj : j < l.length), l[j].name ≠ nm := fun j hj e => hex ⟨j, hj, e⟩
    refine .inr ⟨hno, fun k => look_no (hoN k) hn ?_⟩
    rw [Bool.eq_false_iff]
    intro hh
    obtain ⟨j, hj, e⟩ := hi.only _ hh
    exact hno j hj (kn_inj e).symm
end Go.Proofs.YteaopalhbnhbaaaGreatDoor
