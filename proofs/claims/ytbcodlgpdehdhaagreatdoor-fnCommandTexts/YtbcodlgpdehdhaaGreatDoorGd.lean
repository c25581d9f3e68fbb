/- The contracts of the program's seenOk and accountsOk. -/
import Derived.Test.YtbcodlgpdehdhaaGreatDoorGc
import Derived.Maps.OwnOps
import Derived.Maps.OwnSet
import Derived.Maps.RangeWalk
import Derived.Maps.Views
import Derived.Deep.RegionHeld
import Derived.Deep.CutRange
namespace Go.Proofs.YtbcodlgpdehdhaaGreatDoor
open Go.ChangeShapes Go.WideShapes Go.ChangeAt Go.RowKit
set_option linter.unusedVariables false
set_option maxRecDepth 100000
def ledB (c : Int) : Bool := decide (c = 0) || inB 4 9 c
theorem ansB_led {L : Led} {k : Nat} (h : k < L.seen.length) : ansB L k = (inB 1 1000000000 (L.seen[k]).id && risesB (L.seen.map Sn.id) k && ledB (L.seen[k]).code) := ansB_at h
end Go.Proofs.YtbcodlgpdehdhaaGreatDoor
/- The contract of the program's accountsOk. -/
namespace Go.Proofs.YtbcodlgpdehdhaaGreatDoor
open Go.ChangeShapes Go.WideShapes Go.ChangeAt Go.RowKit
set_option linter.unusedVariables false
set_option maxRecDepth 100000
/-- what the program asks of an account by itself -/
def accI (L : Led) (k : Nat) : Bool := match L.acc[k]? with
  | none => true
  | some x => nameRises L k && nameB x.name && curB x.cur && inB (-1) 1000000000000 x.limit && inB (-1000000000000) 1000000000000 x.posted
theorem accI_at {L : Led} {k : Nat} (h : k < L.acc.length) : accI L k = (nameRises L k && nameB (L.acc[k]).name && curB (L.acc[k]).cur && inB (-1) 1000000000000 (L.acc[k]).limit && inB (-1000000000000) 1000000000000 (L.acc[k]).posted) := by
  simp [accI, List.getElem?_eq_getElem h]
end Go.Proofs.YtbcodlgpdehdhaaGreatDoor
/- A region that draws its order, reads what was there and calls what lays new blocks alone: one walk, in the order of the text, serves every order. -/
namespace Go.Proofs.YtbcodlgpdehdhaaGreatDoor
open Go.ChangeShapes Go.WideShapes Go.ChangeAt Go.RowKit
set_option linter.unusedVariables false
set_option maxRecDepth 100000
theorem later_box {w wr : World} {va vh vs : Value} (o : Obj) (hsz : w.heap.size < wr.heap.size) (e0 : wr.cell? ⟨w.heap.size, 0, none⟩ = some va) (e1 : wr.cell? ⟨w.heap.size, 1, none⟩ = some vh) (e2 : wr.cell? ⟨w.heap.size, 2, none⟩ = some vs) :
    (∀ x : Later (wr.alloc o), x.w.cell? ⟨w.heap.size, 0, none⟩ = some va) ∧ (∀ x : Later (wr.alloc o), x.w.cell? ⟨w.heap.size, 1, none⟩ = some vh) ∧ (∀ x : Later (wr.alloc o), x.w.cell? ⟨w.heap.size, 2, none⟩ = some vs) := by
  have h0 : w.heap.size < (wr.alloc o).heap.size := by simp; omega
  exact ⟨fun x => (x.below.cell h0).trans ((World.cell?_alloc_past _ _ _ hsz).trans e0), fun x => (x.below.cell h0).trans ((World.cell?_alloc_past _ _ _ hsz).trans e1), fun x => (x.below.cell h0).trans ((World.cell?_alloc_past _ _ _ hsz).trans e2)⟩
theorem later_new {wr : World} {v0 v1 v2 v3 : Value} {T : TypeId} :
    (∀ x : Later (wr.alloc (.cells #[v0, v1, v2, v3] T)), x.w.cell? ⟨wr.heap.size, 0, none⟩ = some v0) ∧ (∀ x : Later (wr.alloc (.cells #[v0, v1, v2, v3] T)), x.w.cell? ⟨wr.heap.size, 1, none⟩ = some v1) ∧ (∀ x : Later (wr.alloc (.cells #[v0, v1, v2, v3] T)), x.w.cell? ⟨wr.heap.size, 2, none⟩ = some v2) := by
  have h1 : wr.heap.size < (wr.alloc (.cells #[v0, v1, v2, v3] T)).heap.size := by simp
  exact ⟨fun x => (x.below.cell h1).trans (World.cell?_alloc_at _ _ _ _ rfl), fun x => (x.below.cell h1).trans (World.cell?_alloc_at _ _ _ _ rfl), fun x => (x.below.cell h1).trans (World.cell?_alloc_at _ _ _ _ rfl)⟩
theorem later_old {wr : World} {o : Obj} {b f : Nat} {v : Value} (hb : b < wr.heap.size) (h : wr.cell? ⟨b, f, none⟩ = some v) : ∀ x : Later (wr.alloc o), x.w.cell? ⟨b, f, none⟩ = some v :=
  fun x => (x.below.cell (by simp; omega)).trans ((World.cell?_alloc_past _ _ _ hb).trans h)
end Go.Proofs.YtbcodlgpdehdhaaGreatDoor
/- The book of the program: accounts as pointers in a map. -/
namespace Go.Proofs.YtbcodlgpdehdhaaGreatDoor
open Go.ChangeShapes Go.WideShapes Go.ChangeAt Go.RowKit Go.Maps
set_option linter.unusedVariables false
set_option maxRecDepth 100000
theorem u9 : Tryz.prog.underlying 9 = some .string := by kernel_rfl
theorem law9 : Keyed Tryz.prog 9 := string_keyed u9
def kn (s : ByteArray) : Lit := .string s.data.toList
theorem kn_of {s : ByteArray} (h : s.size ≤ maxLen) : keyOf Tryz.prog 9 (.string s) = some (kn s) := _root_.Go.WideMaps.keyOf_string_mk u9 h
theorem kn_inj {a b : ByteArray} (h : kn a = kn b) : a = b := by
  simp only [kn, Lit.string.injEq] at h
  exact ByteArray.ext (Array.toList_inj.1 h)
theorem kn_key (s : ByteArray) : WideAt.IsKeyLit (kn s) := trivial
def ptrD (p : Nat) : DataW Unit := .lit (.int .i64 (p : Int))
/-- how a pointer to a whole block reads: as the block's number -/
def ptrElem (v : Value) : Option (DataW Unit × List MemPlace) := match v with
  | .pointer (some ⟨p, 0, none⟩) => some (ptrD p, [])
  | _ => none
theorem ptr_mk (p : Nat) : ptrElem (.pointer (some ⟨p, 0, none⟩)) = some (ptrD p, []) := rfl
theorem ptr_inv {v : Value} {y : DataW Unit × List MemPlace} (h : ptrElem v = some y) : ∃ p, v = .pointer (some ⟨p, 0, none⟩) ∧ y = (ptrD p, []) := by
  unfold ptrElem at h
  split at h
  · exact ⟨_, rfl, (Option.some.inj h).symm⟩
  · cases h
theorem ptrD_inj {a b : Nat} (h : ptrD a = ptrD b) : a = b := by
  simp [ptrD] at h
  omega
def AccBlk (w : World) (q : Nat) (x : Acc) : Prop :=
  q < w.heap.size ∧ w.cell? ⟨q, 0, none⟩ = some (.string x.name) ∧ w.cell? ⟨q, 1, none⟩ = some (.string x.cur) ∧ w.cell? ⟨q, 2, none⟩ = some (.int .i64 x.limit) ∧ w.cell? ⟨q, 3, none⟩ = some (.int .i64 x.posted)
theorem AccBlk.kept {w w' : World} {q : Nat} {x : Acc} (h : AccBlk w q x) (hs : w.heap.size ≤ w'.heap.size) (hk : ∀ a v, w.cell? a = some v → w'.cell? a = some v) : AccBlk w' q x :=
  ⟨Nat.lt_of_lt_of_le h.1 hs, hk _ _ h.2.1, hk _ _ h.2.2.1, hk _ _ h.2.2.2.1, hk _ _ h.2.2.2.2⟩
structure MapIs (w : World) (D : DataW Unit) (l : List Acc) : Prop where
  at_ : ∀ i (h : i < l.length), ∃ q, (∀ z, D.atKey (kn l[i].name) z = ptrD q) ∧ AccBlk w q l[i]
  only : ∀ kl, Maps.has D kl = true → ∃ i, ∃ h : i < l.length, kl = kn l[i].name
theorem MapIs.kept {w w' : World} {D : DataW Unit} {l : List Acc} (h : MapIs w D l) (hs : w.heap.size ≤ w'.heap.size) (hk : ∀ a v, w.cell? a = some v → w'.cell? a = some v) : MapIs w' D l :=
  ⟨fun i hi => by obtain ⟨q, h1, h2⟩ := h.at_ i hi; exact ⟨q, h1, h2.kept hs hk⟩, h.only⟩
def MapHas (w : World) (m : Nat) (l : List Acc) : Prop := ∃ D, w.ownsMap Tryz.prog 9 ptrElem m l.length D ∧ MapIs w D l
theorem mapHas_made (w : World) : MapHas (w.alloc (.map #[] 0)) w.heap.size [] :=
  ⟨.map [], World.ownsMap_made _ _ _ _, fun i hi => by simp at hi, fun kl h => by simp [Maps.has] at h⟩
theorem below_grownBy {w w' : World} (b : Below w.heap.size w w') : w.grownBy w' none := ⟨b.os, b.tape, b.output, b.size, fun i hi _ => b.block i hi⟩
theorem MapHas.below {w w' : World} {m : Nat} {l : List Acc} (h : MapHas w m l) (b : Below w.heap.size w w') : MapHas w' m l := by
  obtain ⟨D, ho, hi⟩ := h
  exact ⟨D, ho.kept (below_grownBy b) (by simp), hi.kept b.size (below_keeps b)⟩
/-- a map's block bears no cell -/
theorem map_no_cell {w : World} {m n : Nat} {D : DataW Unit} (h : w.ownsMap Tryz.prog 9 ptrElem m n D) {a : Addr} {v : Value} (hc : w.cell? a = some v) : a.block ≠ m := by
  obtain ⟨es, clock, hb, _⟩ := h
  intro e
  unfold World.cell? at hc
  rw [e, hb] at hc
  simp at hc
theorem map_keeps {w w' : World} {m n : Nat} {D : DataW Unit} (h : w.ownsMap Tryz.prog 9 ptrElem m n D) (g : w.grownBy w' (some m)) : ∀ a v, w.cell? a = some v → w'.cell? a = some v :=
  fun a v hc => g.cell hc (fun e => map_no_cell h hc (Option.some.inj e))
/-- one account more -/
theorem mapIs_put {w w' : World} {D : DataW Unit} {l : List Acc} {x : Acc} {q : Nat} (hm : Maps.IsMap D) (h : MapIs w D l) (hs : w.heap.size ≤ w'.heap.size) (hk : ∀ a v, w.cell? a = some v → w'.cell? a = some v)
    (hx : ∀ i (hi : i < l.length), l[i].name ≠ x.name) (hq : AccBlk w' q x) : MapIs w' (D.put (kn x.name) (ptrD q)) (l ++ [x]) := by
  refine ⟨fun i hi => ?_, fun kl hkl => ?_⟩
  · rcases Nat.lt_or_ge i l.length with h1 | h1
    · obtain ⟨q', a1, a2⟩ := h.at_ i h1
      rw [List.getElem_append_left h1]
      exact ⟨q', fun z => by rw [atKey_put_other (fun e => hx i h1 (kn_inj e))]; exact a1 z, a2.kept hs hk⟩
    · have : i = l.length := by simp at hi; omega
      subst this
      simp only [List.getElem_concat_length]
      exact ⟨q, fun z => atKey_put_same hm (kn_key _) _ z, hq⟩
  · by_cases e : kl = kn x.name
    · exact ⟨l.length, by simp, by simp [e]⟩
    · rw [has_put_other e] at hkl
      obtain ⟨i, hi, rfl⟩ := h.only kl hkl
      exact ⟨i, by simp; omega, by rw [List.getElem_append_left hi]⟩
/-- the step of a range over the book's map -/
theorem wpList_next_book {ops : Array Oper} {rest : List Oper} {o : Oper} {a : Act} {Q : Exit → Act → World → Prop} (w : World) (hg : o.guard = none) (it : Operand) (hop : o.op = Op.next it false) (m r n : Nat) (D : DataW Unit) (left : Lit → Bool) (cnt : Nat)
    (hit : a.eval it = .pointer (some ⟨r, 0, none⟩)) (h : w.ranges Tryz.prog 9 ptrElem m r n D left cnt) (l : List Acc) (hi : MapIs w D l)
    (hDone : (∀ kl, left kl = false) → wpList Tryz.prog ops Q rest (a.put o.dst (.tuple #[.bool false])) w)
    (hMore : ∀ (j : Nat) (hj : j < l.length) (q : Nat) (w' : World) (cnt' : Nat), left (kn l[j].name) = true → AccBlk w q l[j] → w'.ranges Tryz.prog 9 ptrElem m r n D (fun z => left z && !z.sameKey (kn l[j].name)) cnt' → cnt' < cnt → w.grownBy w' (some r) → w'.heap.size = w.heap.size →
      (Instr.entry (.pointer (some ⟨r, 0, none⟩))).run Tryz.prog w' = .ok (.tuple #[.string l[j].name, .pointer (some ⟨q, 0, none⟩)]) w' → wpList Tryz.prog ops Q rest (a.put o.dst (.tuple #[.bool true, .string l[j].name, .pointer (some ⟨q, 0, none⟩)])) w') :
    wpList Tryz.prog ops Q (o :: rest) a w := by
  refine wpList_next_ranges w hg it hop 9 law9 ptrElem Value.string (fun q : Nat => .pointer (some ⟨q, 0, none⟩)) (fun key kl hk => by obtain ⟨s, rfl, _⟩ := WideMaps.string_of_keyOf u9 hk; exact ⟨s, rfl⟩) (fun v y hv => by obtain ⟨p, rfl, _⟩ := ptr_inv hv; exact ⟨p, rfl⟩)
    m r n D left cnt hit h (fun _ hl => hDone hl) (fun x c kl y w' cnt' hkey hlk hv hat hrg hlt hgr hsz hen => ?_)
  obtain ⟨j, hj, rfl⟩ := hi.only kl (has_true_of_atKey hat)
  obtain ⟨q, hq, hb⟩ := hi.at_ j hj
  obtain ⟨p, e1, rfl⟩ := ptr_inv hv
  simp only [Value.pointer.injEq, Option.some.injEq, Addr.mk.injEq, and_true] at e1
  subst e1
  obtain rfl := ptrD_inj ((hat (ptrD 0)).symm.trans (hq (ptrD 0)))
  obtain ⟨s, e2, e3, _⟩ := WideMaps.string_of_keyOf u9 hkey
  cases e2
  obtain rfl := kn_inj (a := l[j].name) e3
  exact hMore j hj _ w' cnt' hlk hb hrg hlt hgr hsz hen
theorem drewN_below (w : World) : ∀ k, Below w.heap.size w (w.drewN k)
  | 0 => Below.refl _ _
  | k + 1 => (drewN_below w k).drew
end Go.Proofs.YtbcodlgpdehdhaaGreatDoor
/- The contract of the program's bookOf. -/
namespace Go.Proofs.YtbcodlgpdehdhaaGreatDoor
open Go.ChangeShapes Go.WideShapes Go.ChangeAt Go.RowKit Go.Maps
set_option linter.unusedVariables false
set_option maxRecDepth 100000
def BookAt (w : World) (q : Nat) (L : Led) : Prop := q < w.heap.size ∧ ∃ m h s ch cs, w.cell? ⟨q, 0, none⟩ = some (.map (some m)) ∧ w.cell? ⟨q, 1, none⟩ = some (.slice h L.hold.length ch) ∧ w.cell? ⟨q, 2, none⟩ = some (.slice s L.seen.length cs) ∧
  HoldAt w h L.hold ∧ AnsAt w s L.seen ∧ MapHas w m L.acc
theorem BookAt.below {w w' : World} {q : Nat} {L : Led} (k : BookAt w q L) (b : Below w.heap.size w w') : BookAt w' q L := by
  obtain ⟨hq, m, h, s, ch, cs, c0, c1, c2, hh, ha, hm⟩ := k
  exact ⟨Nat.lt_of_lt_of_le hq b.size, m, h, s, ch, cs, below_keeps b _ _ c0, below_keeps b _ _ c1, below_keeps b _ _ c2, hh.below b, ha.below b, hm.below b⟩
def BookEnd (L : Led) (w : World) (e : Ending) (w' : World) : Prop := Below w.heap.size w w' ∧ ∃ q, e = .returned (.pointer (some ⟨q, 0, none⟩)) ∧ BookAt w' q L
/-- the box of the argument, read in a later world -/
def BoxIn (w : World) (va vh vs : Value) (x : World) : Prop := x.cell? ⟨w.heap.size, 1, none⟩ = some vh ∧ x.cell? ⟨w.heap.size, 2, none⟩ = some vs ∧ Hid (Below (w.heap.size + 1) (w.alloc (.cells #[va, vh, vs] 39)) x)
theorem boxIn_of {w : World} {va vh vs : Value} {x : World} (h : Below (w.heap.size + 1) (w.alloc (.cells #[va, vh, vs] 39)) x) : BoxIn w va vh vs x :=
  ⟨by rw [h.cell (by simp)]; simp, by rw [h.cell (by simp)]; simp, hide h⟩
theorem BoxIn.alloc {w : World} {va vh vs : Value} {x : World} (h : BoxIn w va vh vs x) (o : Obj) : BoxIn w va vh vs (x.alloc o) :=
  boxIn_of (h.2.2.out.alloc (by have := h.2.2.out.size; simp at this; omega) o)
theorem BoxIn.on {w : World} {va vh vs : Value} {x y : World} (h : BoxIn w va vh vs x) (b : Below x.heap.size x y) : BoxIn w va vh vs y :=
  boxIn_of (h.2.2.out.trans (b.mono (by have := h.2.2.out.size; simp at this; omega)))
theorem BoxIn.old {w : World} {va vh vs : Value} {x : World} (h : BoxIn w va vh vs x) : Below w.heap.size w x :=
  ((Below.refl w.heap.size w).alloc (Nat.le_refl _) _).trans (h.2.2.out.mono (by omega))
/-- what the first region leaves -/
def CutIs (w : World) (va vh vs : Value) (L : Led) (q : Nat) (x : World) (m : Nat) : Prop :=
  BoxIn w va vh vs x ∧ w.heap.size + 1 ≤ m ∧ q < x.heap.size ∧ x.cell? ⟨q, 0, none⟩ = some (.map (some m)) ∧ (∃ h ch, x.cell? ⟨q, 1, none⟩ = some (.slice h L.hold.length ch) ∧ HoldAt x h L.hold) ∧ (∃ s cs, x.cell? ⟨q, 2, none⟩ = some (.slice s L.seen.length cs) ∧ AnsAt x s L.seen) ∧ MapHas x m []
theorem mapHas_drew {w : World} {m : Nat} {l : List Acc} (h : MapHas w m l) : MapHas w.drew m l := h.below (Below.refl _ _).drew
/-- the loop's state -/
structure MidIs (w : World) (va vh vs : Value) (L : Led) (q m : Nat) (h s : Option Addr) (ch cs : Nat) (l : List Acc) (x : World) : Prop where
  box : BoxIn w va vh vs x
  lt : q < x.heap.size
  c0 : x.cell? ⟨q, 0, none⟩ = some (.map (some m))
  c1 : x.cell? ⟨q, 1, none⟩ = some (.slice h L.hold.length ch)
  c2 : x.cell? ⟨q, 2, none⟩ = some (.slice s L.seen.length cs)
  hold : HoldAt x h L.hold
  seen : AnsAt x s L.seen
  map : MapHas x m l
def accObj (x : Acc) : Obj := .cells #[.string x.name, .string x.cur, .int .i64 x.limit, .int .i64 x.posted] 66
theorem HoldAt.keeps {w w' : World} {a : Option Addr} {l : List Hld} (h : HoldAt w a l) (hs : w.heap.size ≤ w'.heap.size) (hk : ∀ a v, w.cell? a = some v → w'.cell? a = some v) : HoldAt w' a l := fun i hi => by
  obtain ⟨b, off, e, hb, h0, h1, h2, h3, r⟩ := h i hi
  exact ⟨b, off, e, by omega, hk _ _ h0, hk _ _ h1, hk _ _ h2, hk _ _ h3, r⟩
theorem AnsAt.keeps {w w' : World} {a : Option Addr} {l : List Sn} (h : AnsAt w a l) (hs : w.heap.size ≤ w'.heap.size) (hk : ∀ a v, w.cell? a = some v → w'.cell? a = some v) : AnsAt w' a l := fun i hi => by
  obtain ⟨b, off, e, hb, h0, h1, r⟩ := h i hi
  exact ⟨b, off, e, by omega, hk _ _ h0, hk _ _ h1, r⟩
theorem blk_two (x : World) (y : Acc) : AccBlk ((x.alloc (accObj y)).alloc (accObj y)) (x.heap.size + 1) y := by
  unfold accObj
  exact ⟨by simp, by simp, by simp, by simp, by simp⟩
end Go.Proofs.YtbcodlgpdehdhaaGreatDoor
/- The contracts of the book's held and total. -/
namespace Go.Proofs.YtbcodlgpdehdhaaGreatDoor
open Go.ChangeShapes Go.WideShapes Go.ChangeAt Go.RowKit Go.Maps
set_option linter.unusedVariables false
set_option maxRecDepth 100000
/-- the sum over those that have come -/
def doneSum (left : Lit → Bool) (cur : ByteArray) : List Acc → Int
  | [] => 0
  | x :: xs => (if left (kn x.name) = true then 0 else if x.cur = cur then x.posted else 0) + doneSum left cur xs
theorem doneSum_start {left : Lit → Bool} {cur : ByteArray} {l : List Acc} (h : ∀ x ∈ l, left (kn x.name) = true) : doneSum left cur l = 0 := by
  induction l with
  | nil => rfl
  | cons x xs ih => simp only [doneSum, h x (by simp), if_true]; rw [ih (fun y hy => h y (by simp [hy]))]; rfl
theorem doneSum_end {left : Lit → Bool} {cur : ByteArray} {l : List Acc} (h : ∀ kl, left kl = false) : doneSum left cur l = totL cur l := by
  induction l with
  | nil => rfl
  | cons x xs ih => simp only [doneSum, totL, h, ih]; simp
theorem doneSum_congr {left left' : Lit → Bool} {cur : ByteArray} {l : List Acc} (h : ∀ x ∈ l, left (kn x.name) = left' (kn x.name)) : doneSum left cur l = doneSum left' cur l := by
  induction l with
  | nil => rfl
  | cons x xs ih => simp only [doneSum, h x (by simp)]; rw [ih (fun y hy => h y (by simp [hy]))]
def Apart (l : List Acc) : Prop := ∀ i j (hi : i < l.length) (hj : j < l.length), i < j → l[i].name ≠ l[j].name
theorem sameKey_kn {a b : ByteArray} : (kn a).sameKey (kn b) = true ↔ a = b := by
  constructor
  · intro h
    by_cases e : kn a = kn b
    · exact kn_inj e
    · rw [sameKey_ne e] at h; cases h
  · rintro rfl
    exact WideAt.sameKey_self (kn_key _)
theorem doneSum_step {left : Lit → Bool} {cur : ByteArray} : ∀ {l : List Acc} (hd : Apart l) {j : Nat} (hj : j < l.length), left (kn l[j].name) = true →
    doneSum (fun z => left z && !z.sameKey (kn l[j].name)) cur l = doneSum left cur l + (if l[j].cur = cur then l[j].posted else 0) := by
  intro l
  induction l with
  | nil => intro hd j hj; simp at hj
  | cons x xs ih =>
    intro hd j hj hl
    have hd' : Apart xs := fun a b ha hb hab => hd (a + 1) (b + 1) (by simpa using ha) (by simpa using hb) (by omega)
    cases j with
    | zero =>
      simp only [List.getElem_cons_zero] at hl ⊢
      have hself : (kn x.name).sameKey (kn x.name) = true := sameKey_kn.2 rfl
      simp only [doneSum, hl, hself, if_true, Bool.not_true, Bool.and_false, Bool.false_eq_true, if_false]
      rw [doneSum_congr (left' := left) (fun y hy => by
        obtain ⟨i, hi, rfl⟩ := List.getElem_of_mem hy
        have hne := hd 0 (i + 1) (by simp) (by simpa using hi) (by omega)
        simp only [List.getElem_cons_zero, List.getElem_cons_succ] at hne
        have : (kn xs[i].name).sameKey (kn x.name) = false := by
          rw [Bool.eq_false_iff]; intro e; exact hne (sameKey_kn.1 e).symm
        simp [this])]
      omega
    | succ i =>
      simp only [List.getElem_cons_succ] at hl ⊢
      have hi : i < xs.length := by simpa using hj
      have hne := hd 0 (i + 1) (by simp) (by simpa using hi) (by omega)
      simp only [List.getElem_cons_zero, List.getElem_cons_succ] at hne
      have : (kn x.name).sameKey (kn xs[i].name) = false := by
        rw [Bool.eq_false_iff]; intro e; exact hne (sameKey_kn.1 e)
      simp only [doneSum, this, Bool.not_false, Bool.and_true]
      rw [ih hd' hi hl]
      omega
theorem doneSum_bd {left : Lit → Bool} {cur : ByteArray} {l : List Acc} (h : ∀ x ∈ l, -1000000000000 ≤ x.posted ∧ x.posted ≤ 1000000000000) : -(1000000000000 * l.length : Int) ≤ doneSum left cur l ∧ doneSum left cur l ≤ 1000000000000 * l.length := by
  induction l with
  | nil => simp [doneSum]
  | cons x xs ih =>
    have h1 := h x (by simp)
    have h2 := ih (fun y hy => h y (by simp [hy]))
    simp only [doneSum, List.length_cons]
    split
    · omega
    · split <;> omega
theorem done_small {left : Lit → Bool} {cur : ByteArray} {l : List Acc} (h : SmallA l) : -12000000000000 ≤ doneSum left cur l ∧ doneSum left cur l ≤ 12000000000000 := by
  have h1 := doneSum_bd (left := left) (cur := cur) h.2
  have := h.1
  omega
theorem iter_no_cell {w : World} {m r n cnt : Nat} {D : DataW Unit} {left : Lit → Bool} (h : w.ranges Tryz.prog 9 ptrElem m r n D left cnt) {a : Addr} {v : Value} (hc : w.cell? a = some v) : a.block ≠ r := by
  obtain ⟨es, clock, since, seen, c0, hb, _, _, _, hr, _⟩ := h
  intro e
  unfold World.cell? at hc
  rw [e, hr] at hc
  simp at hc
theorem iter_keeps {w w' : World} {m r n cnt : Nat} {D : DataW Unit} {left : Lit → Bool} (h : w.ranges Tryz.prog 9 ptrElem m r n D left cnt) (g : w.grownBy w' (some r)) : ∀ a v, w.cell? a = some v → w'.cell? a = some v :=
  fun a v hc => g.cell hc (fun e => iter_no_cell h hc (Option.some.inj e))
end Go.Proofs.YtbcodlgpdehdhaaGreatDoor
/- The contracts of the book's covers and pair, and of denied. -/
namespace Go.Proofs.YtbcodlgpdehdhaaGreatDoor
open Go.ChangeShapes Go.WideShapes Go.ChangeAt Go.RowKit Go.Maps
set_option linter.unusedVariables false
set_option maxRecDepth 100000
theorem wrap64_id {n : Int} (h : -9223372036854775808 ≤ n ∧ n ≤ 9223372036854775807) : IntKind.i64.wrap n = n := by
  simp only [IntKind.wrap, IntKind.signed, IntKind.bits]; simp; omega
/-- does an account cover an amount more? -/
def covB (x : Acc) (held amt : Int) : Bool := decide (x.limit = -1) || decide (-x.limit ≤ x.posted - held - amt)
def SmallX (x : Acc) : Prop := (-1 ≤ x.limit ∧ x.limit ≤ 1000000000000) ∧ -1000000000000 ≤ x.posted ∧ x.posted ≤ 1000000000000
end Go.Proofs.YtbcodlgpdehdhaaGreatDoor
/- The contract of the pair of the book. -/
namespace Go.Proofs.YtbcodlgpdehdhaaGreatDoor
open Go.ChangeShapes Go.WideShapes Go.ChangeAt Go.RowKit Go.Maps
set_option linter.unusedVariables false
set_option maxRecDepth 100000
end Go.Proofs.YtbcodlgpdehdhaaGreatDoor
/- The contract of the book's holdsOk. -/
namespace Go.Proofs.YtbcodlgpdehdhaaGreatDoor
open Go.ChangeShapes Go.WideShapes Go.ChangeAt Go.RowKit Go.Maps
set_option linter.unusedVariables false
set_option maxRecDepth 100000
/-- two accounts that are there, of one currency -/
def pairI (L : Led) (fr tn : ByteArray) : Bool := match idxA L.acc fr, idxA L.acc tn with
  | some i, some j => (match L.acc[i]?, L.acc[j]? with
    | some p, some q => sameB p.cur q.cur
    | _, _ => false)
  | _, _ => false
theorem idxA_of {l : List Acc} (hd : Apart l) {i : Nat} (hi : i < l.length) : idxA l l[i].name = some i := idxA_some hi rfl (fun j hj => hd j i (by omega) hi hj)
theorem pairI_at {L : Led} (hd : Apart L.acc) {i j : Nat} (hi : i < L.acc.length) (hj : j < L.acc.length) {fr tn : ByteArray} (h1 : L.acc[i].name = fr) (h2 : L.acc[j].name = tn) : pairI L fr tn = sameB L.acc[i].cur L.acc[j].cur := by
  subst h1 h2
  simp [pairI, idxA_of hd hi, idxA_of hd hj, List.getElem?_eq_getElem hi, List.getElem?_eq_getElem hj]
theorem pairI_no {L : Led} {fr tn : ByteArray} (h : (∀ i (hi : i < L.acc.length), L.acc[i].name ≠ fr) ∨ ∀ i (hi : i < L.acc.length), L.acc[i].name ≠ tn) : pairI L fr tn = false := by
  rcases h with h | h
  · simp [pairI, idxA_none h]
  · unfold pairI; rw [idxA_none h]; cases idxA L.acc fr <;> rfl
/-- what the program asks of a hold -/
def hldI (L : Led) (k : Nat) : Bool := match L.hold[k]? with
  | none => true
  | some x => risesB (L.hold.map Hld.id) k && inB 1 1000000000 x.id && inB 1 1000000000000 x.amount && !sameB x.fr x.to && pairI L x.fr x.to
theorem hldI_at {L : Led} {k : Nat} (h : k < L.hold.length) : hldI L k = (risesB (L.hold.map Hld.id) k && inB 1 1000000000 (L.hold[k]).id && inB 1 1000000000000 (L.hold[k]).amount && !sameB (L.hold[k]).fr (L.hold[k]).to && pairI L (L.hold[k]).fr (L.hold[k]).to) := by
  simp [hldI, List.getElem?_eq_getElem h]
end Go.Proofs.YtbcodlgpdehdhaaGreatDoor
/- The contract of the book's balancesOk. -/
namespace Go.Proofs.YtbcodlgpdehdhaaGreatDoor
open Go.ChangeShapes Go.WideShapes Go.ChangeAt Go.RowKit Go.Maps
set_option linter.unusedVariables false
set_option maxRecDepth 100000
/-- what the program asks of an account beside all others -/
def balI (L : Led) (x : Acc) : Bool := decide (heldL x.name L.hold ≤ 1000000000000) && covB x (heldL x.name L.hold) 0 && decide (totL x.cur L.acc = 0)
theorem all_false {A : Type} {f : A → Bool} {l : List A} {j : Nat} (hj : j < l.length) (h : f l[j] = false) : l.all f = false := by
  rw [List.all_eq_false]
  exact ⟨l[j], List.getElem_mem hj, by simp [h]⟩
theorem struck {left : Lit → Bool} {L : Led} {f : Acc → Bool} (hd : Apart L.acc) {j : Nat} (hj : j < L.acc.length) (h : ∀ i (hi : i < L.acc.length), left (kn L.acc[i].name) = false → f L.acc[i] = true) (hf : f L.acc[j] = true) :
    ∀ i (hi : i < L.acc.length), (left (kn L.acc[i].name) && !(kn L.acc[i].name).sameKey (kn L.acc[j].name)) = false → f L.acc[i] = true := fun i hi hs => by
  cases hl : left (kn L.acc[i].name)
  · exact h i hi hl
  · rw [hl] at hs
    have : (kn L.acc[i].name).sameKey (kn L.acc[j].name) = true := by simpa using hs
    have e := sameKey_kn.1 this
    rcases Nat.lt_trichotomy i j with h1 | h1 | h1
    · exact absurd e (hd i j hi hj h1)
    · subst h1; exact hf
    · exact absurd e.symm (hd j i hj hi h1)
end Go.Proofs.YtbcodlgpdehdhaaGreatDoor
/- What the program asks of a ledger, and that it is what the model asks. -/
namespace Go.Proofs.YtbcodlgpdehdhaaGreatDoor
open Go.ChangeShapes Go.WideShapes Go.ChangeAt Go.RowKit Go.Maps
set_option linter.unusedVariables false
set_option maxRecDepth 100000
theorem less_eq : ∀ (x y : List UInt8), Op.bytesLess x y = decide (x < y)
  | [], [] => rfl
  | [], _ :: _ => rfl
  | _ :: _, [] => rfl
  | a :: s, b :: t => by
    rw [Op.bytesLess, less_eq s t, Bool.eq_iff_iff]
    simp [List.cons_lt_cons_iff]
theorem rises_less {L : Led} (h : allTo (accI L) L.acc.length = true) : ∀ (d i : Nat) (hi : i + d + 1 < L.acc.length), L.acc[i].name.toList < L.acc[i + d + 1].name.toList := by
  intro d
  induction d with
  | zero =>
    intro i hi
    have h1 := allTo_get h hi
    rw [accI_at hi] at h1
    simp only [Bool.and_eq_true] at h1
    have h2 := h1.1.1.1.1
    rw [rises_name hi, less_eq] at h2
    exact of_decide_eq_true h2
  | succ d ih =>
    intro i hi
    have h1 := ih i (by omega)
    have h3 := allTo_get h hi
    rw [accI_at hi] at h3
    simp only [Bool.and_eq_true] at h3
    have h2 := h3.1.1.1.1
    rw [show i + (d + 1) + 1 = (i + d + 1) + 1 by omega, rises_name (by omega), less_eq] at h2
    exact List.lt_trans h1 (of_decide_eq_true h2)
theorem apart_of {L : Led} (h : allTo (accI L) L.acc.length = true) : Apart L.acc := fun i j hi hj hij e => by
  have h1 := rises_less h (j - i - 1) i (by omega)
  simp only [show i + (j - i - 1) + 1 = j by omega] at h1
  rw [e] at h1
  exact absurd h1 (List.lt_irrefl _)
theorem accI_parts {L : Led} (h : allTo (accI L) L.acc.length = true) : ∀ x ∈ L.acc, SmallX x := fun x hx => by
  obtain ⟨i, hi, rfl⟩ := List.getElem_of_mem hx
  have h1 := allTo_get h hi
  rw [accI_at hi] at h1
  simp only [Bool.and_eq_true] at h1
  exact ⟨inB_iff.1 h1.1.2, inB_iff.1 h1.2⟩
theorem smallA_acc {L : Led} (g : L.acc.length ≤ 12) (h : allTo (accI L) L.acc.length = true) : SmallA L.acc := ⟨g, fun x hx => (accI_parts h x hx).2⟩
theorem smallH_hld {L : Led} (g : L.hold.length ≤ 10) (h : allTo (hldI L) L.hold.length = true) : SmallH L.hold := ⟨g, fun x hx => by
  obtain ⟨i, hi, rfl⟩ := List.getElem_of_mem hx
  have h1 := allTo_get h hi
  rw [hldI_at hi] at h1
  simp only [Bool.and_eq_true] at h1
  have := inB_iff.1 h1.1.1.2
  omega⟩
/-- what the program asks -/
def ledI (L : Led) : Bool :=
  decide (L.acc.length ≤ 12) && decide (L.hold.length ≤ 10) && decide (L.seen.length ≤ 40) && allTo (accI L) L.acc.length && allTo (ansB L) L.seen.length && allTo (hldI L) L.hold.length && L.acc.all (balI L)
theorem allTo_iff {f : Nat → Bool} {n : Nat} : allTo f n = true ↔ ∀ k, k < n → f k = true := by
  constructor
  · exact fun h k hk => allTo_get h hk
  · intro h
    induction n with
    | zero => rfl
    | succ n ih => simp only [allTo, Bool.and_eq_true]; exact ⟨ih (fun k hk => h k (by omega)), h n (by omega)⟩
theorem pair_same {L : Led} {x : Hld} : pairB L x = (!sameB x.fr x.to && pairI L x.fr x.to && inB 1 1000000000000 x.amount) := by
  unfold pairB pairI
  cases h1 : idxA L.acc x.fr with
  | none => simp
  | some i =>
    cases h2 : idxA L.acc x.to with
    | none => simp
    | some j =>
      obtain ⟨hi, e1, _⟩ := idxA_lt h1
      obtain ⟨hj, e2, _⟩ := idxA_lt h2
      have : decide (i ≠ j) = !sameB x.fr x.to := by
        by_cases e : x.fr = x.to
        · have : i = j := by rw [e, h2] at h1; exact (Option.some.inj h1).symm
          rw [sameB_iff.2 e]; simp [this]
        · have hne : i ≠ j := fun e' => by subst e'; exact e (e1.symm.trans e2)
          have : sameB x.fr x.to = false := by rw [Bool.eq_false_iff]; exact fun h => e (sameB_iff.1 h)
          rw [this]; simp [hne]
      simp only [this, List.getElem?_eq_getElem hi, List.getElem?_eq_getElem hj]
theorem hold_same {L : Led} {k : Nat} : holdB L k = hldI L k := by
  unfold holdB hldI
  cases L.hold[k]? with
  | none => rfl
  | some x =>
    simp only [pair_same]
    cases inB 1 1000000000 x.id <;> cases risesB (L.hold.map Hld.id) k <;> cases inB 1 1000000000000 x.amount <;> cases sameB x.fr x.to <;> cases pairI L x.fr x.to <;> rfl
theorem within_same {x : Acc} {held : Int} (h : -1 ≤ x.limit) : withinB x held = (inB (-1000000000000) 1000000000000 x.posted && decide (held ≤ 1000000000000) && covB x held 0) := by
  unfold withinB covB
  have e1 : decide (x.limit < 0) = decide (x.limit = -1) := by
    by_cases e : x.limit = -1
    · simp [e]
    · have : ¬ x.limit < 0 := by omega
      simp [e, this]
  rw [e1, Int.sub_zero]
theorem led_same (L : Led) : ledI L = ledS L := by
  rw [Bool.eq_iff_iff]
  simp only [ledI, ledS, Bool.and_eq_true, allTo_iff, List.all_eq_true]
  constructor
  · rintro ⟨⟨⟨⟨⟨⟨g1, g2⟩, g3⟩, ha⟩, hs⟩, hh⟩, hb⟩
    refine ⟨⟨⟨⟨⟨⟨g1, g2⟩, g3⟩, fun k hk => ?_⟩, fun k hk => ?_⟩, fun k hk => ?_⟩, hs⟩
    · have h1 := ha k hk
      rw [accI_at hk] at h1
      simp only [Bool.and_eq_true] at h1
      rw [postB_at hk]
      exact h1.2
    · rw [hold_same]; exact hh k hk
    · have h1 := ha k hk
      rw [accI_at hk] at h1
      simp only [Bool.and_eq_true] at h1
      have h2 := hb _ (List.getElem_mem hk)
      unfold balI at h2
      simp only [Bool.and_eq_true] at h2
      rw [accB_at hk, within_same (inB_iff.1 h1.1.2).1]
      simp only [Bool.and_eq_true]
      exact ⟨⟨⟨⟨⟨h1.1.1.1.2, h1.1.1.2⟩, h1.1.2⟩, h1.1.1.1.1⟩, ⟨⟨h1.2, h2.1.1⟩, h2.1.2⟩⟩, h2.2⟩
  · rintro ⟨⟨⟨⟨⟨⟨g1, g2⟩, g3⟩, hp⟩, hh⟩, ha⟩, hs⟩
    have hparts : ∀ k (hk : k < L.acc.length), (nameB (L.acc[k]).name = true ∧ curB (L.acc[k]).cur = true ∧ inB (-1) 1000000000000 (L.acc[k]).limit = true ∧ nameRises L k = true) ∧ (inB (-1000000000000) 1000000000000 (L.acc[k]).posted = true ∧ decide (heldL (L.acc[k]).name L.hold ≤ 1000000000000) = true ∧ covB (L.acc[k]) (heldL (L.acc[k]).name L.hold) 0 = true) ∧ decide (totL (L.acc[k]).cur L.acc = 0) = true := fun k hk => by
      have h1 := ha k hk
      rw [accB_at hk] at h1
      simp only [Bool.and_eq_true] at h1
      rw [within_same (inB_iff.1 h1.1.1.1.2).1] at h1
      simp only [Bool.and_eq_true] at h1
      exact ⟨⟨h1.1.1.1.1.1, h1.1.1.1.1.2, h1.1.1.1.2, h1.1.1.2⟩, ⟨h1.1.2.1.1, h1.1.2.1.2, h1.1.2.2⟩, h1.2⟩
    refine ⟨⟨⟨⟨⟨⟨g1, g2⟩, g3⟩, fun k hk => ?_⟩, hs⟩, fun k hk => ?_⟩, fun x hx => ?_⟩
    · obtain ⟨⟨a1, a2, a3, a4⟩, ⟨b1, b2, b3⟩, c1⟩ := hparts k hk
      rw [accI_at hk, a1, a2, a3, a4, b1]; rfl
    · rw [← hold_same]; exact hh k hk
    · obtain ⟨i, hi, rfl⟩ := List.getElem_of_mem hx
      obtain ⟨⟨a1, a2, a3, a4⟩, ⟨b1, b2, b3⟩, c1⟩ := hparts i hi
      unfold balI
      rw [b2, b3, c1]; rfl
end Go.Proofs.YtbcodlgpdehdhaaGreatDoor
