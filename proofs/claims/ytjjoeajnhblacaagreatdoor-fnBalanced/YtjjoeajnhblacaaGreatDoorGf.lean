/- The contract of the program's accountsOk. -/
import Derived.Test.YtjjoeajnhblacaaGreatDoorGc
import Derived.Maps.OwnOps
import Derived.Maps.OwnSet
import Derived.Maps.RangeWalk
import Derived.Maps.Views
namespace Go.Proofs.YtjjoeajnhblacaaGreatDoor
open Go.ChangeShapes Go.WideShapes Go.ChangeAt Go.RowKit
set_option linter.unusedVariables false
set_option maxRecDepth 100000
/-- what the program asks of an account by itself -/
def accI (L : Led) (k : Nat) : Bool := match L.acc[k]? with
  | none => true
  | some x => nameRises L k && nameB x.name && curB x.cur && inB (-1) 1000000000000 x.limit && inB (-1000000000000) 1000000000000 x.posted
theorem accI_at {L : Led} {k : Nat} (h : k < L.acc.length) : accI L k = (nameRises L k && nameB (L.acc[k]).name && curB (L.acc[k]).cur && inB (-1) 1000000000000 (L.acc[k]).limit && inB (-1000000000000) 1000000000000 (L.acc[k]).posted) := by
  simp [accI, List.getElem?_eq_getElem h]
set_option maxHeartbeats 4000000 in
theorem accountsOk_any (a : Option Addr) (L : Led) (cap : Nat) (w : World) (hl : L.acc.length ≤ 12) (h : AccAt w a L.acc) :
    Calls Tryz.prog 38 #[.slice a L.acc.length cap] w fun e w' => e = .returned (.bool (allTo (accI L) L.acc.length)) ∧ Below w.heap.size w w' := by
  have HL : Hid _ := hide h
  clear h
  go_enter Tryz.func38, Tryz.ntmps38
  go_wp2
  go_loopw [7] (fun i wr => ∃ k : Nat, k ≤ L.acc.length ∧ i = .int .i64 (k : Int) ∧ Below w.heap.size w wr ∧ Hid (allTo (accI L) k = true)) (fun i wr => L.acc.length - (intOf i).toNat)
  case atStart => exact ⟨0, Nat.zero_le _, rfl, Below.refl _ _, hide rfl⟩
  case round =>
    obtain ⟨k, hk, rfl, HB, HS⟩ := hrel
    by_cases hlt : k < L.acc.length
    · obtain ⟨b, off, rfl, hb, c0, c1, c2, c3, s1, s2, _, _⟩ := (HL.out.below HB) k hlt
      have hlt' : (k : Int) < (L.acc.length : Int) := by omega
      by_cases hz : k = 0
      · have hri : Hid (nameRises L k = true) := hide (by rw [hz]; rfl)
        have hz' : decide ((0 : Int) < (k : Int)) = false := by simp; omega
        have hz'' : decide (0 < k) = false := by simp; omega
        clear hz
        cases q1 : nameB (L.acc[k]).name
        · have HR : Hid (allTo (accI L) L.acc.length = false) := hide (by rw [allTo_false hlt (by rw [accI_at hlt, hri.out, q1]; simp)])
          go_wp2_with (fail)
          go_quiet (fail)
          go_wp2_with (first | (go_at_call 44; refine (implNameOk_any _ _ s1).mono ?_; rintro e w' ⟨rfl, rfl⟩) | (go_at_call 45; refine (implCurOk_any _ _ s2).mono ?_; rintro e w' ⟨rfl, rfl⟩) | (go_at_call 46; refine (within_any _ _ _ _).mono ?_; rintro e w' ⟨rfl, rfl⟩))
          go_ret
          exact ⟨by rw [HR.out]; rfl, below_drewN (below_alloc HB _) _⟩
        ·
          cases q2 : curB (L.acc[k]).cur
          · have HR : Hid (allTo (accI L) L.acc.length = false) := hide (by rw [allTo_false hlt (by rw [accI_at hlt, hri.out, q1, q2]; simp)])
            go_wp2_with (fail)
            go_quiet (fail)
            go_wp2_with (first | (go_at_call 44; refine (implNameOk_any _ _ s1).mono ?_; rintro e w' ⟨rfl, rfl⟩) | (go_at_call 45; refine (implCurOk_any _ _ s2).mono ?_; rintro e w' ⟨rfl, rfl⟩) | (go_at_call 46; refine (within_any _ _ _ _).mono ?_; rintro e w' ⟨rfl, rfl⟩))
            go_ret
            exact ⟨by rw [HR.out]; rfl, below_drewN (below_alloc HB _) _⟩
          ·
            cases q3 : inB (-1) 1000000000000 (L.acc[k]).limit
            · have HR : Hid (allTo (accI L) L.acc.length = false) := hide (by rw [allTo_false hlt (by rw [accI_at hlt, hri.out, q1, q2, q3]; simp)])
              go_wp2_with (fail)
              go_quiet (fail)
              go_wp2_with (first | (go_at_call 44; refine (implNameOk_any _ _ s1).mono ?_; rintro e w' ⟨rfl, rfl⟩) | (go_at_call 45; refine (implCurOk_any _ _ s2).mono ?_; rintro e w' ⟨rfl, rfl⟩) | (go_at_call 46; refine (within_any _ _ _ _).mono ?_; rintro e w' ⟨rfl, rfl⟩))
              go_ret
              exact ⟨by rw [HR.out]; rfl, below_drewN (below_alloc HB _) _⟩
            ·
              cases q4 : inB (-1000000000000) 1000000000000 (L.acc[k]).posted
              · have HR : Hid (allTo (accI L) L.acc.length = false) := hide (by rw [allTo_false hlt (by rw [accI_at hlt, hri.out, q1, q2, q3, q4]; simp)])
                go_wp2_with (fail)
                go_quiet (fail)
                go_wp2_with (first | (go_at_call 44; refine (implNameOk_any _ _ s1).mono ?_; rintro e w' ⟨rfl, rfl⟩) | (go_at_call 45; refine (implCurOk_any _ _ s2).mono ?_; rintro e w' ⟨rfl, rfl⟩) | (go_at_call 46; refine (within_any _ _ _ _).mono ?_; rintro e w' ⟨rfl, rfl⟩))
                go_ret
                exact ⟨by rw [HR.out]; rfl, below_drewN (below_alloc HB _) _⟩
              ·
                have HS2 : Hid (allTo (accI L) (k + 1) = true) := hide (allTo_step HS.out (by rw [accI_at hlt, hri.out, q1, q2, q3, q4]; rfl))
                go_wp2_with (fail)
                go_quiet (fail)
                go_wp2_with (first | (go_at_call 44; refine (implNameOk_any _ _ s1).mono ?_; rintro e w' ⟨rfl, rfl⟩) | (go_at_call 45; refine (implCurOk_any _ _ s2).mono ?_; rintro e w' ⟨rfl, rfl⟩) | (go_at_call 46; refine (within_any _ _ _ _).mono ?_; rintro e w' ⟨rfl, rfl⟩))
                exact ⟨⟨_, by omega, by go_num, below_drewN (below_alloc HB _) _, HS2⟩, by simp [intOf]; omega⟩
      · obtain ⟨m, hm⟩ : ∃ m, k = m + 1 := ⟨k - 1, by omega⟩
        have hm3 : m < L.acc.length := by omega
        obtain ⟨b', off', heq, _, p0, _, _, _, _⟩ := (HL.out.below HB) m hm3
        simp only [Option.some.injEq, Addr.mk.injEq, and_true] at heq
        obtain ⟨rfl, rfl⟩ := heq
        have hz' : (0 : Int) < (k : Int) := by omega
        have hm1 : IntKind.i64.wrap ((k : Int) - 1) = (m : Int) := by rw [show (k : Int) - 1 = (m : Int) by omega]; simp only [IntKind.wrap, IntKind.signed, IntKind.bits]; simp; omega
        have hm2 : (m : Int) < (L.acc.length : Int) := by omega
        have hz'' : 0 < k := by omega
        have hrs : nameRises L k = Op.bytesLess (L.acc[m]).name.toList (L.acc[k]).name.toList := by subst hm; exact rises_name hlt
        cases q0 : Op.bytesLess (L.acc[m]).name.toList (L.acc[k]).name.toList
        · have HR : Hid (allTo (accI L) L.acc.length = false) := hide (by rw [allTo_false hlt (by rw [accI_at hlt, hrs, q0]; simp)])
          clear hrs hm hz
          go_wp2_with (fail)
          go_quiet (fail)
          go_wp2_with (first | (go_at_call 44; refine (implNameOk_any _ _ s1).mono ?_; rintro e w' ⟨rfl, rfl⟩) | (go_at_call 45; refine (implCurOk_any _ _ s2).mono ?_; rintro e w' ⟨rfl, rfl⟩) | (go_at_call 46; refine (within_any _ _ _ _).mono ?_; rintro e w' ⟨rfl, rfl⟩))
          go_ret
          exact ⟨by rw [HR.out]; rfl, below_drewN (below_alloc HB _) _⟩
        · have hri : Hid (nameRises L k = true) := hide (by rw [hrs, q0])
          clear hrs hm hz
          cases q1 : nameB (L.acc[k]).name
          · have HR : Hid (allTo (accI L) L.acc.length = false) := hide (by rw [allTo_false hlt (by rw [accI_at hlt, hri.out, q1]; simp)])
            go_wp2_with (fail)
            go_quiet (fail)
            go_wp2_with (first | (go_at_call 44; refine (implNameOk_any _ _ s1).mono ?_; rintro e w' ⟨rfl, rfl⟩) | (go_at_call 45; refine (implCurOk_any _ _ s2).mono ?_; rintro e w' ⟨rfl, rfl⟩) | (go_at_call 46; refine (within_any _ _ _ _).mono ?_; rintro e w' ⟨rfl, rfl⟩))
            go_ret
            exact ⟨by rw [HR.out]; rfl, below_drewN (below_alloc HB _) _⟩
          ·
            cases q2 : curB (L.acc[k]).cur
            · have HR : Hid (allTo (accI L) L.acc.length = false) := hide (by rw [allTo_false hlt (by rw [accI_at hlt, hri.out, q1, q2]; simp)])
              go_wp2_with (fail)
              go_quiet (fail)
              go_wp2_with (first | (go_at_call 44; refine (implNameOk_any _ _ s1).mono ?_; rintro e w' ⟨rfl, rfl⟩) | (go_at_call 45; refine (implCurOk_any _ _ s2).mono ?_; rintro e w' ⟨rfl, rfl⟩) | (go_at_call 46; refine (within_any _ _ _ _).mono ?_; rintro e w' ⟨rfl, rfl⟩))
              go_ret
              exact ⟨by rw [HR.out]; rfl, below_drewN (below_alloc HB _) _⟩
            ·
              cases q3 : inB (-1) 1000000000000 (L.acc[k]).limit
              · have HR : Hid (allTo (accI L) L.acc.length = false) := hide (by rw [allTo_false hlt (by rw [accI_at hlt, hri.out, q1, q2, q3]; simp)])
                go_wp2_with (fail)
                go_quiet (fail)
                go_wp2_with (first | (go_at_call 44; refine (implNameOk_any _ _ s1).mono ?_; rintro e w' ⟨rfl, rfl⟩) | (go_at_call 45; refine (implCurOk_any _ _ s2).mono ?_; rintro e w' ⟨rfl, rfl⟩) | (go_at_call 46; refine (within_any _ _ _ _).mono ?_; rintro e w' ⟨rfl, rfl⟩))
                go_ret
                exact ⟨by rw [HR.out]; rfl, below_drewN (below_alloc HB _) _⟩
              ·
                cases q4 : inB (-1000000000000) 1000000000000 (L.acc[k]).posted
                · have HR : Hid (allTo (accI L) L.acc.length = false) := hide (by rw [allTo_false hlt (by rw [accI_at hlt, hri.out, q1, q2, q3, q4]; simp)])
                  go_wp2_with (fail)
                  go_quiet (fail)
                  go_wp2_with (first | (go_at_call 44; refine (implNameOk_any _ _ s1).mono ?_; rintro e w' ⟨rfl, rfl⟩) | (go_at_call 45; refine (implCurOk_any _ _ s2).mono ?_; rintro e w' ⟨rfl, rfl⟩) | (go_at_call 46; refine (within_any _ _ _ _).mono ?_; rintro e w' ⟨rfl, rfl⟩))
                  go_ret
                  exact ⟨by rw [HR.out]; rfl, below_drewN (below_alloc HB _) _⟩
                ·
                  have HS2 : Hid (allTo (accI L) (k + 1) = true) := hide (allTo_step HS.out (by rw [accI_at hlt, hri.out, q1, q2, q3, q4]; rfl))
                  go_wp2_with (fail)
                  go_quiet (fail)
                  go_wp2_with (first | (go_at_call 44; refine (implNameOk_any _ _ s1).mono ?_; rintro e w' ⟨rfl, rfl⟩) | (go_at_call 45; refine (implCurOk_any _ _ s2).mono ?_; rintro e w' ⟨rfl, rfl⟩) | (go_at_call 46; refine (within_any _ _ _ _).mono ?_; rintro e w' ⟨rfl, rfl⟩))
                  exact ⟨⟨_, by omega, by go_num, below_drewN (below_alloc HB _) _, HS2⟩, by simp [intOf]; omega⟩
    · have hk' : ¬ (k : Int) < (L.acc.length : Int) := by omega
      have HR : Hid (allTo (accI L) L.acc.length = true) := hide (by
        have hs := HS.out
        rw [show k = L.acc.length by omega] at hs
        exact hs)
      go_wp2
      go_ret
      exact ⟨by rw [HR.out]; rfl, HB⟩
end Go.Proofs.YtjjoeajnhblacaaGreatDoor
/- The book of the program: accounts as pointers in a map. -/
namespace Go.Proofs.YtjjoeajnhblacaaGreatDoor
open Go.ChangeShapes Go.WideShapes Go.ChangeAt Go.RowKit Go.Maps
set_option linter.unusedVariables false
set_option maxRecDepth 100000
theorem u9 : Tryz.prog.underlying 9 = some .string := by kernel_rfl
theorem u64 : Tryz.prog.underlying 63 = some (.map 9 62) := by kernel_rfl
theorem zero63 (w : World) : (zeroValue 62).run Tryz.prog w = .ok (.pointer none) w := by kernel_rfl
theorem law9 : Keyed Tryz.prog 9 := string_keyed u9
def kn (s : ByteArray) : Lit := .string s.data.toList
theorem kn_of {s : ByteArray} (h : s.size ≤ maxLen) : keyOf Tryz.prog 9 (.string s) = some (kn s) := _root_.Go.WideMaps.keyOf_string_mk u9 h
theorem kn_inj {a b : ByteArray} (h : kn a = kn b) : a = b := by
  simp only [kn, Lit.string.injEq] at h
  exact ByteArray.ext (Array.toList_inj.1 h)
theorem kn_key (s : ByteArray) : WideAt.IsKeyLit (kn s) := trivial
def ptrD (p : Nat) : DataW Unit := .lit (.int .i64 (p : Int))
/-- how a pointer to a whole block reads: as the block's number -/
def ptrElem (v : Value) : Option (DataW Unit × List MemPlace) := match v with
  | .pointer (some ⟨p, 0, none⟩) => some (ptrD p, [])
  | _ => none
theorem ptr_mk (p : Nat) : ptrElem (.pointer (some ⟨p, 0, none⟩)) = some (ptrD p, []) := rfl
theorem ptr_inv {v : Value} {y : DataW Unit × List MemPlace} (h : ptrElem v = some y) : ∃ p, v = .pointer (some ⟨p, 0, none⟩) ∧ y = (ptrD p, []) := by
  unfold ptrElem at h
  split at h
  · exact ⟨_, rfl, (Option.some.inj h).symm⟩
  · cases h
theorem ptrD_inj {a b : Nat} (h : ptrD a = ptrD b) : a = b := by
  simp [ptrD] at h
  omega
def AccBlk (w : World) (q : Nat) (x : Acc) : Prop :=
  q < w.heap.size ∧ w.cell? ⟨q, 0, none⟩ = some (.string x.name) ∧ w.cell? ⟨q, 1, none⟩ = some (.string x.cur) ∧ w.cell? ⟨q, 2, none⟩ = some (.int .i64 x.limit) ∧ w.cell? ⟨q, 3, none⟩ = some (.int .i64 x.posted)
theorem AccBlk.kept {w w' : World} {q : Nat} {x : Acc} (h : AccBlk w q x) (hs : w.heap.size ≤ w'.heap.size) (hk : ∀ a v, w.cell? a = some v → w'.cell? a = some v) : AccBlk w' q x :=
  ⟨Nat.lt_of_lt_of_le h.1 hs, hk _ _ h.2.1, hk _ _ h.2.2.1, hk _ _ h.2.2.2.1, hk _ _ h.2.2.2.2⟩
structure MapIs (w : World) (D : DataW Unit) (l : List Acc) : Prop where
  at_ : ∀ i (h : i < l.length), ∃ q, (∀ z, D.atKey (kn l[i].name) z = ptrD q) ∧ AccBlk w q l[i]
  only : ∀ kl, Maps.has D kl = true → ∃ i, ∃ h : i < l.length, kl = kn l[i].name
theorem MapIs.kept {w w' : World} {D : DataW Unit} {l : List Acc} (h : MapIs w D l) (hs : w.heap.size ≤ w'.heap.size) (hk : ∀ a v, w.cell? a = some v → w'.cell? a = some v) : MapIs w' D l :=
  ⟨fun i hi => by obtain ⟨q, h1, h2⟩ := h.at_ i hi; exact ⟨q, h1, h2.kept hs hk⟩, h.only⟩
def MapHas (w : World) (m : Nat) (l : List Acc) : Prop := ∃ D, w.ownsMap Tryz.prog 9 ptrElem m l.length D ∧ MapIs w D l
theorem mapHas_made (w : World) : MapHas (w.alloc (.map #[] 0)) w.heap.size [] :=
  ⟨.map [], World.ownsMap_made _ _ _ _, fun i hi => by simp at hi, fun kl h => by simp [Maps.has] at h⟩
theorem below_grownBy {w w' : World} (b : Below w.heap.size w w') : w.grownBy w' none := ⟨b.os, b.tape, b.output, b.size, fun i hi _ => b.block i hi⟩
theorem MapHas.below {w w' : World} {m : Nat} {l : List Acc} (h : MapHas w m l) (b : Below w.heap.size w w') : MapHas w' m l := by
  obtain ⟨D, ho, hi⟩ := h
  exact ⟨D, ho.kept (below_grownBy b) (by simp), hi.kept b.size (below_keeps b)⟩
/-- a map's block bears no cell -/
theorem map_no_cell {w : World} {m n : Nat} {D : DataW Unit} (h : w.ownsMap Tryz.prog 9 ptrElem m n D) {a : Addr} {v : Value} (hc : w.cell? a = some v) : a.block ≠ m := by
  obtain ⟨es, clock, hb, _⟩ := h
  intro e
  unfold World.cell? at hc
  rw [e, hb] at hc
  simp at hc
theorem map_keeps {w w' : World} {m n : Nat} {D : DataW Unit} (h : w.ownsMap Tryz.prog 9 ptrElem m n D) (g : w.grownBy w' (some m)) : ∀ a v, w.cell? a = some v → w'.cell? a = some v :=
  fun a v hc => g.cell hc (fun e => map_no_cell h hc (Option.some.inj e))
/-- one account more -/
theorem mapIs_put {w w' : World} {D : DataW Unit} {l : List Acc} {x : Acc} {q : Nat} (hm : Maps.IsMap D) (h : MapIs w D l) (hs : w.heap.size ≤ w'.heap.size) (hk : ∀ a v, w.cell? a = some v → w'.cell? a = some v)
    (hx : ∀ i (hi : i < l.length), l[i].name ≠ x.name) (hq : AccBlk w' q x) : MapIs w' (D.put (kn x.name) (ptrD q)) (l ++ [x]) := by
  refine ⟨fun i hi => ?_, fun kl hkl => ?_⟩
  · rcases Nat.lt_or_ge i l.length with h1 | h1
    · obtain ⟨q', a1, a2⟩ := h.at_ i h1
      rw [List.getElem_append_left h1]
      exact ⟨q', fun z => by rw [atKey_put_other (fun e => hx i h1 (kn_inj e))]; exact a1 z, a2.kept hs hk⟩
    · have : i = l.length := by simp at hi; omega
      subst this
      simp only [List.getElem_concat_length]
      exact ⟨q, fun z => atKey_put_same hm (kn_key _) _ z, hq⟩
  · by_cases e : kl = kn x.name
    · exact ⟨l.length, by simp, by simp [e]⟩
    · rw [has_put_other e] at hkl
      obtain ⟨i, hi, rfl⟩ := h.only kl hkl
      exact ⟨i, by simp; omega, by rw [List.getElem_append_left hi]⟩
/-- the step of a range over the book's map -/
theorem wpList_next_book {ops : Array Oper} {rest : List Oper} {o : Oper} {a : Act} {Q : Exit → Act → World → Prop} (w : World) (hg : o.guard = none) (it : Operand) (hop : o.op = Op.next it false) (m r n : Nat) (D : DataW Unit) (left : Lit → Bool) (cnt : Nat)
    (hit : a.eval it = .pointer (some ⟨r, 0, none⟩)) (h : w.ranges Tryz.prog 9 ptrElem m r n D left cnt) (l : List Acc) (hi : MapIs w D l)
    (hDone : (∀ kl, left kl = false) → wpList Tryz.prog ops Q rest (a.put o.dst (.tuple #[.bool false])) w)
    (hMore : ∀ (j : Nat) (hj : j < l.length) (q : Nat) (w' : World) (cnt' : Nat), left (kn l[j].name) = true → AccBlk w q l[j] → w'.ranges Tryz.prog 9 ptrElem m r n D (fun z => left z && !z.sameKey (kn l[j].name)) cnt' → cnt' < cnt → w.grownBy w' (some r) → w'.heap.size = w.heap.size →
      (Instr.entry (.pointer (some ⟨r, 0, none⟩))).run Tryz.prog w' = .ok (.tuple #[.string l[j].name, .pointer (some ⟨q, 0, none⟩)]) w' → wpList Tryz.prog ops Q rest (a.put o.dst (.tuple #[.bool true, .string l[j].name, .pointer (some ⟨q, 0, none⟩)])) w') :
    wpList Tryz.prog ops Q (o :: rest) a w := by
  refine wpList_next_ranges w hg it hop 9 law9 ptrElem Value.string (fun q : Nat => .pointer (some ⟨q, 0, none⟩)) (fun key kl hk => by obtain ⟨s, rfl, _⟩ := WideMaps.string_of_keyOf u9 hk; exact ⟨s, rfl⟩) (fun v y hv => by obtain ⟨p, rfl, _⟩ := ptr_inv hv; exact ⟨p, rfl⟩)
    m r n D left cnt hit h (fun _ hl => hDone hl) (fun x c kl y w' cnt' hkey hlk hv hat hrg hlt hgr hsz hen => ?_)
  obtain ⟨j, hj, rfl⟩ := hi.only kl (has_true_of_atKey hat)
  obtain ⟨q, hq, hb⟩ := hi.at_ j hj
  obtain ⟨p, e1, rfl⟩ := ptr_inv hv
  simp only [Value.pointer.injEq, Option.some.injEq, Addr.mk.injEq, and_true] at e1
  subst e1
  obtain rfl := ptrD_inj ((hat (ptrD 0)).symm.trans (hq (ptrD 0)))
  obtain ⟨s, e2, e3, _⟩ := WideMaps.string_of_keyOf u9 hkey
  cases e2
  obtain rfl := kn_inj (a := l[j].name) e3
  exact hMore j hj _ w' cnt' hlk hb hrg hlt hgr hsz hen
theorem look_at {x : World} {m n : Nat} {D : DataW Unit} (ho : x.ownsMap Tryz.prog 9 ptrElem m n D) {nm : ByteArray} (hn : nm.size ≤ maxLen) {q : Nat} (hq : ∀ z, D.atKey (kn nm) z = ptrD q) :
    (Instr.lookup 63 (.map (some m)) (.string nm) false).run Tryz.prog x = .ok (.pointer (some ⟨q, 0, none⟩)) x := by
  obtain ⟨es, clock, hb, F, _, rfl⟩ := ho
  rcases Maps.fit_look (t := 63) (e := 62) false law9 u64 (zero63 x) hb F (kn_of hn) with ⟨hrun, hno, hat⟩ | ⟨e0, y, _, _, hrun, hR, hat, _⟩
  · have h2 := (hq (ptrD (q + 1))).symm.trans (hat (ptrD (q + 1)))
    have := ptrD_inj h2
    omega
  · obtain ⟨p, e1, rfl⟩ := ptr_inv hR
    obtain rfl := ptrD_inj ((hat (ptrD 0)).symm.trans (hq (ptrD 0)))
    rw [hrun, e1]
    rfl
theorem look_no {x : World} {m n : Nat} {D : DataW Unit} (ho : x.ownsMap Tryz.prog 9 ptrElem m n D) {nm : ByteArray} (hn : nm.size ≤ maxLen) (hq : Maps.has D (kn nm) = false) :
    (Instr.lookup 63 (.map (some m)) (.string nm) false).run Tryz.prog x = .ok (.pointer none) x := by
  obtain ⟨es, clock, hb, F, _, rfl⟩ := ho
  rcases Maps.fit_look (t := 63) (e := 62) false law9 u64 (zero63 x) hb F (kn_of hn) with ⟨hrun, hno, hat⟩ | ⟨e0, y, _, _, hrun, hR, hat, _⟩
  · exact hrun
  · rw [has_true_of_atKey hat] at hq; cases hq
theorem drewN_below (w : World) : ∀ k, Below w.heap.size w (w.drewN k)
  | 0 => Below.refl _ _
  | k + 1 => (drewN_below w k).drew
/-- 'm[k]' of the book's map -/
theorem look_book {w : World} {m : Nat} {l : List Acc} (h : MapHas w m l) {nm : ByteArray} (hn : nm.size ≤ maxLen) :
    (∃ j, ∃ hj : j < l.length, ∃ q, l[j].name = nm ∧ AccBlk w q l[j] ∧ ∀ k, (Instr.lookup 63 (.map (some m)) (.string nm) false).run Tryz.prog (w.drewN k) = .ok (.pointer (some ⟨q, 0, none⟩)) (w.drewN k)) ∨
    ((∀ j (hj : j < l.length), l[j].name ≠ nm) ∧ ∀ k, (Instr.lookup 63 (.map (some m)) (.string nm) false).run Tryz.prog (w.drewN k) = .ok (.pointer none) (w.drewN k)) := by
  obtain ⟨D, ho, hi⟩ := h
  have hoN : ∀ k, (w.drewN k).ownsMap Tryz.prog 9 ptrElem m l.length D := fun k => ho.kept (below_grownBy (drewN_below w k)) (by simp)
  by_cases hex : ∃ j, ∃ hj : j < l.length, l[j].name = nm
  · obtain ⟨j, hj, e⟩ := hex
    obtain ⟨q, hq, hb⟩ := hi.at_ j hj
    rw [e] at hq
    exact .inl ⟨j, hj, q, e, hb, fun k => look_at (hoN k) hn hq⟩
  · have hno : ∀ j (hj : j < l.length), l[j].name ≠ nm := fun j hj e => hex ⟨j, hj, e⟩
    refine .inr ⟨hno, fun k => look_no (hoN k) hn ?_⟩
    rw [Bool.eq_false_iff]
    intro hh
    obtain ⟨j, hj, e⟩ := hi.only _ hh
    exact hno j hj (kn_inj e).symm
end Go.Proofs.YtjjoeajnhblacaaGreatDoor
