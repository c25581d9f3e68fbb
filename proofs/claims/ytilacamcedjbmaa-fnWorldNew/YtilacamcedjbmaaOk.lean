/- The contracts of RightsOk, of the program and of its model. -/
import Derived.Test.YtilacamcedjbmaaData
import Derived.Deep.QuietTactic
import Derived.BigQuiet
import Derived.BigRegion
import Derived.Deep.RegionWith
namespace Go.Proofs.Ytilacamcedjbmaa
open Go.ChangeShapes Go.WideShapes Go.ChangeAt Go.RowKit
set_option linter.unusedVariables false
/-- a world in which of what W has nothing has turned -/
structure Later (W : World) where
  w : World
  below : Below W.heap.size W w
theorem later_there (W : World) : Nonempty (Later W) := ⟨⟨W, Below.refl _ _⟩⟩
theorem wp_region_later {P : Program} {id : Nat} {Q : Exit → Act → World → Prop} {a : Act} {w : World} {l : List Oper} (W : World) (hm : P.follows .mixedOrders = true) (hB : Region.lexB .any l.toArray = true) (h0 : Below W.heap.size W w.drew)
    (h : wpQuiet P l.toArray (fun w' => ∃ x : Later W, w' = x.w) (fun a' => ∀ w', (∃ x : Later W, w' = x.w) → Q .normal a' w') l a) : (Code.region id l.toArray true).wp P Q a w :=
  wp_region_quiet (C := fun w' => ∃ x : Later W, w' = x.w) hm hB ⟨⟨_, h0⟩, rfl⟩ h
theorem later_same {P : Program} {f : FuncId} {args : Array Value} {W : World} {x : Later W} {v : Value}
    (h : Calls P f args x.w fun e w' => e = .returned v ∧ w' = x.w) : Calls P f args x.w fun e w'' => e = .returned v ∧ ∃ y : Later W, w'' = y.w :=
  h.mono fun _ _ ⟨he, hm⟩ => ⟨he, x, hm⟩
theorem later_of {P : Program} {f : FuncId} {args : Array Value} {W : World} {x : Later W} {v : Value}
    (h : Calls P f args x.w fun e w' => e = .returned v ∧ Below x.w.heap.size x.w w') : Calls P f args x.w fun e w'' => e = .returned v ∧ ∃ y : Later W, w'' = y.w :=
  h.mono fun _ w' ⟨he, hm⟩ => ⟨he, ⟨w', below_trans x.below hm⟩, rfl⟩
theorem later_new3 {wr : World} {v0 v1 v2 : Value} {T : TypeId} :
    (∀ x : Later (wr.alloc (.cells #[v0, v1, v2] T)), x.w.cell? ⟨wr.heap.size, 0, none⟩ = some v0) ∧ (∀ x : Later (wr.alloc (.cells #[v0, v1, v2] T)), x.w.cell? ⟨wr.heap.size, 1, none⟩ = some v1) ∧ (∀ x : Later (wr.alloc (.cells #[v0, v1, v2] T)), x.w.cell? ⟨wr.heap.size, 2, none⟩ = some v2) := by
  have h1 : wr.heap.size < (wr.alloc (.cells #[v0, v1, v2] T)).heap.size := by simp
  exact ⟨fun x => (x.below.cell h1).trans (World.cell?_alloc_at _ _ _ _ rfl), fun x => (x.below.cell h1).trans (World.cell?_alloc_at _ _ _ _ rfl), fun x => (x.below.cell h1).trans (World.cell?_alloc_at _ _ _ _ rfl)⟩
theorem later_old {wr : World} {o : Obj} {b f : Nat} {v : Value} (hb : b < wr.heap.size) (h : wr.cell? ⟨b, f, none⟩ = some v) : ∀ x : Later (wr.alloc o), x.w.cell? ⟨b, f, none⟩ = some v :=
  fun x => (x.below.cell (by simp; omega)).trans ((World.cell?_alloc_past _ _ _ hb).trans h)
/-- s may stand behind those ahead of it -/
def slotB (ahead : List Slt) (s : Slt) : Bool :=
  inB 1 1000000000 s.id && inB 0 1000000000000 s.has && (match ahead.getLast? with | none => s.up == 0 | some p => decide (p.id < s.id) && decide (0 ≤ posL ahead s.up))
def GoodTo (l : List Slt) (k : Nat) : Prop := ∀ j (h : j < l.length), j < k → slotB (l.take j) l[j] = true
theorem GoodTo.step {l : List Slt} {k : Nat} (h : GoodTo l k) (hk : k < l.length) (hb : slotB (l.take k) l[k] = true) : GoodTo l (k + 1) := fun j hj hjk => by
  rcases Nat.lt_or_ge j k with h1 | h1
  · exact h j hj h1
  · obtain rfl : j = k := by omega
    exact hb
def rightsB (l : List Slt) : Bool := decide (1 ≤ l.length) && decide (l.length ≤ 8) && decide (∀ j (h : j < l.length), slotB (l.take j) l[j] = true) && decide (sumL l ≤ 1000000000000)
theorem rightsB_no {l : List Slt} {k : Nat} (hk : k < l.length) (h : slotB (l.take k) l[k] = false) : rightsB l = false := by
  have : decide (∀ j (h : j < l.length), slotB (l.take j) l[j] = true) = false := decide_eq_false (fun g => by have := g k hk; rw [h] at this; cases this)
  simp only [rightsB, this, Bool.and_false, Bool.false_and]
theorem rightsB_end {l : List Slt} (h1 : 1 ≤ l.length) (h8 : l.length ≤ 8) (h : GoodTo l l.length) : rightsB l = decide (sumL l ≤ 1000000000000) := by
  have : decide (∀ j (h : j < l.length), slotB (l.take j) l[j] = true) = true := decide_eq_true (fun j hj => h j hj hj)
  simp [rightsB, this, h1, h8]
theorem slotB_has {a : List Slt} {s : Slt} (h : slotB a s = true) : 0 ≤ s.has ∧ s.has ≤ 1000000000000 := by
  simp only [slotB, Bool.and_eq_true, inB, decide_eq_true_eq] at h
  exact h.1.2
theorem GoodTo.small {l : List Slt} (h8 : l.length ≤ 8) (h : GoodTo l l.length) : Small l := ⟨h8, fun x hx => by
  obtain ⟨i, hi, rfl⟩ := List.getElem_of_mem hx
  exact slotB_has (h i hi hi)⟩
theorem rightsB_small {l : List Slt} (h : rightsB l = true) : Small l := by
  simp only [rightsB, Bool.and_eq_true, decide_eq_true_eq] at h
  exact GoodTo.small h.1.1.2 (fun j hj _ => h.1.2 j hj)
theorem slotB_zero {l : List Slt} (h : 0 < l.length) : slotB (l.take 0) l[0] = (inB 1 1000000000 l[0].id && inB 0 1000000000000 l[0].has && (l[0].up == 0)) := by
  simp [slotB]
theorem getLast_take {l : List Slt} {m : Nat} (h : m + 1 ≤ l.length) : (l.take (m + 1)).getLast? = some (l[m]'(by omega)) := by
  rw [take_next l m (by omega), List.getLast?_append]; simp
theorem slotB_succ {l : List Slt} {m : Nat} (h : m + 1 < l.length) : slotB (l.take (m + 1)) l[m + 1] = (inB 1 1000000000 l[m + 1].id && inB 0 1000000000000 l[m + 1].has && (decide (l[m].id < l[m + 1].id) && decide (0 ≤ posL (l.take (m + 1)) l[m + 1].up))) := by
  simp only [slotB, getLast_take (show m + 1 ≤ l.length by omega)]
theorem posL_ge (l : List Slt) (id : Int) : posL l id < 0 ∨ 0 ≤ posL l id := by omega
set_option maxRecDepth 100000 in
set_option maxHeartbeats 2000000 in
theorem slotOk_any (a : Option Addr) (l : List Slt) (cap : Nat) (s : Slt) (w : World) (hl : l.length ≤ 8) (h : SlotAt w a l) :
    Calls Try.prog 25 #[.slice a l.length cap, .agg #[.int .i64 s.id, .int .i64 s.up, .int .i64 s.has]] w fun e w' => e = .returned (.bool (slotB l s)) ∧ Below w.heap.size w w' := by
  have HB : Hid _ := hide (below_alloc (Below.refl w.heap.size w) (.cells #[.int .i64 s.id, .int .i64 s.up, .int .i64 s.has] 37))
  have HC : Hid _ := hide h
  have HC2 : Hid _ := hide (h.below HB.out)
  clear h
  cases q1 : inB 1 1000000000 s.id
  · have HR : Hid (slotB l s = false) := hide (by simp [slotB, q1])
    go_enter Try.func25, Try.ntmps25
    go_wp2_with (first | (go_at_call 41; refine (numberOk_any _ _).mono ?_; rintro e w' ⟨rfl, rfl⟩) | (go_at_call 24; refine (within_any _ _ _ _).mono ?_; rintro e w' ⟨rfl, rfl⟩))
    go_ret
    exact ⟨by rw [HR.out]; rfl, HB.out⟩
  · cases q2 : inB 0 1000000000000 s.has
    · have HR : Hid (slotB l s = false) := hide (by simp [slotB, q2])
      go_enter Try.func25, Try.ntmps25
      go_wp2_with (first | (go_at_call 41; refine (numberOk_any _ _).mono ?_; rintro e w' ⟨rfl, rfl⟩) | (go_at_call 24; refine (within_any _ _ _ _).mono ?_; rintro e w' ⟨rfl, rfl⟩))
      go_ret
      exact ⟨by rw [HR.out]; rfl, HB.out⟩
    · by_cases hz : l.length = 0
      · have HR : Hid (slotB l s = (s.up == 0)) := hide (by
          have : l = [] := List.length_eq_zero_iff.1 hz
          subst this
          simp [slotB, q1, q2])
        have hz' : ((l.length : Int) == 0) = true := by simp [hz]
        have hz2 : (l.length == 0) = true := by simp [hz]
        clear HC HC2 hz
        go_enter Try.func25, Try.ntmps25
        go_wp2_with (first | (go_at_call 41; refine (numberOk_any _ _).mono ?_; rintro e w' ⟨rfl, rfl⟩) | (go_at_call 24; refine (within_any _ _ _ _).mono ?_; rintro e w' ⟨rfl, rfl⟩))
        go_ret
        exact ⟨by rw [HR.out]; rfl, HB.out⟩
      · obtain ⟨m, hm⟩ : ∃ m, l.length = m + 1 := ⟨l.length - 1, by omega⟩
        have hmlt : m < l.length := by omega
        have hz' : ((l.length : Int) == 0) = false := by simp only [beq_eq_false_iff_ne]; omega
        have hz2 : (l.length == 0) = false := by simp only [beq_eq_false_iff_ne]; omega
        have HR : Hid (slotB l s = (decide (l[m].id < s.id) && decide (0 ≤ posL l s.up))) := hide (by
          have e : l.getLast? = some l[m] := by rw [List.getLast?_eq_getElem?, show l.length - 1 = m by omega, List.getElem?_eq_getElem hmlt]
          simp [slotB, q1, q2, e])
        have hw : IntKind.i64.wrap ((l.length : Int) - 1) = (m : Int) := by rw [show (l.length : Int) - 1 = (m : Int) by omega]; simp only [IntKind.wrap, IntKind.signed, IntKind.bits]; simp; omega
        have hm2 : (m : Int) < (l.length : Int) := by omega
        obtain ⟨b, off, rfl, hb, c0, _, _, _⟩ := HC.out m hmlt
        clear hz hm
        go_enter Try.func25, Try.ntmps25
        go_wp2_with (first | (go_at_call 41; refine (numberOk_any _ _).mono ?_; rintro e w' ⟨rfl, rfl⟩) | (go_at_call 24; refine (within_any _ _ _ _).mono ?_; rintro e w' ⟨rfl, rfl⟩) | fail)
        have c0' := later_old (o := .cells #[.int .i64 s.id, .int .i64 s.up, .int .i64 s.has] 37) hb c0
        obtain ⟨s0', s1', s2'⟩ := later_new3 (wr := w) (v0 := .int .i64 s.id) (v1 := .int .i64 s.up) (v2 := .int .i64 s.has) (T := 37)
        have hne : Nonempty (Later (w.alloc (.cells #[.int .i64 s.id, .int .i64 s.up, .int .i64 s.has] 37))) := later_there _
        cases q3 : decide (l[m].id < s.id)
        · refine wp_region_later (w.alloc (.cells #[.int .i64 s.id, .int .i64 s.up, .int .i64 s.has] 37)) (by kernel_rfl) (by kernel_rfl) ((Below.refl _ _).drew) ?_
          repeat (go_big_quiet_step (first | (go_at_call 42; exact later_of (slotPlace_any _ l _ _ _ (by omega) (HC2.out.below (Later.below _))))))
          refine wpQuiet_nil ?_
          intro _ hw'
          obtain ⟨nx, rfl⟩ := hw'
          go_wp2
          go_ret
          exact ⟨by rw [HR.out, q3]; rfl, below_trans HB.out nx.below⟩
        · cases q4 : decide (0 ≤ posL l s.up)
          · refine wp_region_later (w.alloc (.cells #[.int .i64 s.id, .int .i64 s.up, .int .i64 s.has] 37)) (by kernel_rfl) (by kernel_rfl) ((Below.refl _ _).drew) ?_
            repeat (go_big_quiet_step (first | (go_at_call 42; exact later_of (slotPlace_any _ l _ _ _ (by omega) (HC2.out.below (Later.below _))))))
            refine wpQuiet_nil ?_
            intro _ hw'
            obtain ⟨nx, rfl⟩ := hw'
            go_wp2
            go_ret
            exact ⟨by rw [HR.out, q3, q4]; rfl, below_trans HB.out nx.below⟩
          · refine wp_region_later (w.alloc (.cells #[.int .i64 s.id, .int .i64 s.up, .int .i64 s.has] 37)) (by kernel_rfl) (by kernel_rfl) ((Below.refl _ _).drew) ?_
            repeat (go_big_quiet_step (first | (go_at_call 42; exact later_of (slotPlace_any _ l _ _ _ (by omega) (HC2.out.below (Later.below _))))))
            refine wpQuiet_nil ?_
            intro _ hw'
            obtain ⟨nx, rfl⟩ := hw'
            go_wp2
            go_ret
            exact ⟨by rw [HR.out, q3, q4]; rfl, below_trans HB.out nx.below⟩
end Go.Proofs.Ytilacamcedjbmaa
