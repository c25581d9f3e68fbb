/- The contracts of the program's pathIn and PathOf, and of the model's PathOf. -/
import Derived.Test.YthgjdkeckpddaaaIPath
import Derived.Laws.EntriesVeiled
namespace Go.Proofs.Ythgjdkeckpddaaa
open Go.ChangeShapes Go.WideShapes Go.ChangeAt Go.RowKit
set_option linter.unusedVariables false
/-- the slots on the way, or none -/
def pathL (l : List Slt) (p q : Int) : List Int := if rightsB l = true ∧ 0 ≤ posL l p ∧ 0 ≤ posL l q then wayL l p q else []
theorem clo_made (w : World) (a : Option Addr) (l : List Slt) (cap : Nat) (h : SlotAt (((w.alloc (.cells #[.slice a l.length cap] 24)).alloc (.cells #[.func (.func 25) #[] #[.pointer (some ⟨w.heap.size, 0, none⟩)]] 47)).alloc (.cells #[.func (.func 26) #[] #[.pointer (some ⟨w.heap.size + 2, 0, none⟩), .pointer (some ⟨w.heap.size + 1, 0, none⟩)]] 48)) a l) : Clo (((w.alloc (.cells #[.slice a l.length cap] 24)).alloc (.cells #[.func (.func 25) #[] #[.pointer (some ⟨w.heap.size, 0, none⟩)]] 47)).alloc (.cells #[.func (.func 26) #[] #[.pointer (some ⟨w.heap.size + 2, 0, none⟩), .pointer (some ⟨w.heap.size + 1, 0, none⟩)]] 48)) w.heap.size (w.heap.size + 1) (w.heap.size + 2) a l cap := by
  obtain ⟨wa, hwa⟩ : ∃ wa, wa = w.alloc (.cells #[.slice a l.length cap] 24) := ⟨_, rfl⟩
  rw [← hwa] at h ⊢
  have sa : wa.heap.size = w.heap.size + 1 := by rw [hwa]; simp
  have k3 : wa.cell? ⟨w.heap.size, 0, none⟩ = some (.slice a l.length cap) := by rw [hwa]; exact World.cell?_alloc_at _ _ _ _ rfl
  obtain ⟨wb, hwb⟩ : ∃ wb, wb = wa.alloc (.cells #[.func (.func 25) #[] #[.pointer (some ⟨w.heap.size, 0, none⟩)]] 47) := ⟨_, rfl⟩
  rw [← hwb] at h ⊢
  have sb : wb.heap.size = w.heap.size + 2 := by rw [hwb]; simp [sa]
  have k7 : wb.cell? ⟨wa.heap.size, 0, none⟩ = some (.func (.func 25) #[] #[.pointer (some ⟨w.heap.size, 0, none⟩)]) := by rw [hwb]; exact World.cell?_alloc_at _ _ _ _ rfl
  have k3b : wb.cell? ⟨w.heap.size, 0, none⟩ = some (.slice a l.length cap) := by rw [hwb]; exact below_keeps (below_alloc (Below.refl _ _) _) _ _ k3
  rw [sa] at k7
  refine ⟨below_keeps (below_alloc (Below.refl _ _) _) _ _ k3b, below_keeps (below_alloc (Below.refl _ _) _) _ _ k7, ?_, h⟩
  rw [← sb]
  exact World.cell?_alloc_at _ _ _ _ rfl
set_option maxRecDepth 100000 in
set_option maxHeartbeats 4000000 in
theorem pathIn_any (a : Option Addr) (l : List Slt) (cap : Nat) (p q : Int) (w : World) (hr : rightsB l = true) (hp : InL l p) (hq : InL l q) (h : SlotAt w a l) :
    Calls Try.prog 14 #[.slice a l.length cap, .int .i64 p, .int .i64 q] w fun e w' => RowEnd (wayL l p q) w e w' := by
  have hmf : ∀ (fn : Fn) (first cap : Array Value) (w : World), (Instr.makeFunc fn first cap).run Try.prog w = .ok (.func fn first cap) w := fun _ _ _ _ => rfl
  have HQ : Hid _ := hide hr
  have HP : Hid _ := hide hp
  have HPQ : Hid _ := hide hq
  have HC : Hid _ := hide h
  clear h hr hp hq
  go_enter Try.func14, Try.ntmps14
  go_wp2_with fail
  have HB : Hid (Below w.heap.size w (((w.alloc (.cells #[.slice a l.length cap] 24)).alloc (.cells #[.func (.func 25) #[] #[.pointer (some ⟨w.heap.size, 0, none⟩)]] 47)).alloc (.cells #[.func (.func 26) #[] #[.pointer (some ⟨w.heap.size + 2, 0, none⟩), .pointer (some ⟨w.heap.size + 1, 0, none⟩)]] 48))) := hide (below_alloc (below_alloc (below_alloc (Below.refl _ _) _) _) _)
  have HCLO : Hid (Clo (((w.alloc (.cells #[.slice a l.length cap] 24)).alloc (.cells #[.func (.func 25) #[] #[.pointer (some ⟨w.heap.size, 0, none⟩)]] 47)).alloc (.cells #[.func (.func 26) #[] #[.pointer (some ⟨w.heap.size + 2, 0, none⟩), .pointer (some ⟨w.heap.size + 1, 0, none⟩)]] 48)) w.heap.size (w.heap.size + 1) (w.heap.size + 2) a l cap) := hide (clo_made w a l cap (HC.out.below HB.out))
  refine (way_any w.heap.size (w.heap.size + 1) (w.heap.size + 2) a l cap HQ.out (p.toNat + q.toNat) p q _ HP.out HPQ.out (Nat.le_refl _) HCLO.out).mono ?_
  rintro e w2 ⟨hb2, v2, rfl, ho2⟩
  have HF : Hid (RowEnd (wayL l p q) w (.returned v2) w2) := hide (by
    obtain ⟨g, ga, gc, hg, e, hown⟩ := own_of_row intLen ho2
    exact ⟨below_trans HB.out hb2, v2, rfl, g, ga, gc, Nat.le_trans HB.out.size hg, e, hown⟩)
  clear hb2 ho2
  go_wp2
  go_ret
  exact HF.out
theorem InL.of {l : List Slt} {id : Int} (h : 0 ≤ posL l id) : InL l id := by
  rcases inL_or l id with h1 | h1
  · exact h1
  · omega
theorem row_none (w w' : World) (a : Option Addr) (cap : Nat) (h : Below w.heap.size w w') : RowEnd [] w (.returned (.slice a 0 cap)) w' := ⟨h, _, rfl, w.heap.size, a, cap, Nat.le_refl _, rfl, OwnRow.nil⟩
set_option maxRecDepth 100000 in
set_option maxHeartbeats 4000000 in
theorem implPathOf_any (a : Option Addr) (l : List Slt) (cap : Nat) (p q : Int) (w : World) (hl : l.length ≤ 1048576) (hcap : l.length ≤ cap) (h : SlotAt w a l) :
    Calls Try.prog 6 #[.slice a l.length cap, .int .i64 p, .int .i64 q] w fun e w' => RowEnd (pathL l p q) w e w' := by
  have HC : Hid _ := hide h
  clear h
  go_enter Try.func6, Try.ntmps6
  go_wp2_with fail
  refine (implRightsOk_any a l cap w hl hcap HC.out).mono ?_
  rintro e w1 ⟨rfl, hb1⟩
  have HB1 : Hid _ := hide hb1
  clear hb1
  cases q0 : rightsB l
  · have HR : Hid (pathL l p q = []) := hide (by simp [pathL, q0])
    go_wp2
    go_ret
    rw [HR.out]
    exact row_none _ _ _ _ HB1.out
  · by_cases hp : posL l p < 0
    · have HR : Hid (pathL l p q = []) := hide (if_neg (fun g => by omega))
      go_wp2_with fail
      refine (slotPlace_any a l cap p w1 hl (HC.out.below HB1.out)).mono ?_
      rintro e w2 ⟨rfl, hb2⟩
      have HB2 : Hid _ := hide (below_trans HB1.out hb2)
      clear hb2
      go_wp2
      go_ret
      rw [HR.out]
      exact row_none _ _ _ _ HB2.out
    · by_cases hq : posL l q < 0
      · have HR : Hid (pathL l p q = []) := hide (if_neg (fun g => by omega))
        go_wp2_with fail
        refine (slotPlace_any a l cap p w1 hl (HC.out.below HB1.out)).mono ?_
        rintro e w2 ⟨rfl, hb2⟩
        have HB2 : Hid _ := hide (below_trans HB1.out hb2)
        clear hb2
        go_wp2_with fail
        refine (slotPlace_any a l cap q w2 hl (HC.out.below HB2.out)).mono ?_
        rintro e w3 ⟨rfl, hb3⟩
        have HB3 : Hid _ := hide (below_trans HB2.out hb3)
        clear hb3
        go_wp2
        go_ret
        rw [HR.out]
        exact row_none _ _ _ _ HB3.out
      · have HR : Hid (pathL l p q = wayL l p q) := hide (if_pos ⟨q0, by omega, by omega⟩)
        have HP : Hid _ := hide (InL.of (l := l) (id := p) (by omega))
        have HPQ : Hid _ := hide (InL.of (l := l) (id := q) (by omega))
        have HQ : Hid _ := hide q0
        go_wp2_with fail
        refine (slotPlace_any a l cap p w1 hl (HC.out.below HB1.out)).mono ?_
        rintro e w2 ⟨rfl, hb2⟩
        have HB2 : Hid _ := hide (below_trans HB1.out hb2)
        clear hb2
        go_wp2_with fail
        refine (slotPlace_any a l cap q w2 hl (HC.out.below HB2.out)).mono ?_
        rintro e w3 ⟨rfl, hb3⟩
        have HB3 : Hid _ := hide (below_trans HB2.out hb3)
        clear hb3
        go_wp2_with fail
        refine (pathIn_any a l cap p q w3 HQ.out HP.out HPQ.out (HC.out.below HB3.out)).mono ?_
        rintro e w4 ⟨hb4, v4, rfl, g, ga, gc, hg, rfl, ho⟩
        have HF : Hid (RowEnd (pathL l p q) w (.returned (.slice ga (wayL l p q).length gc)) w4) := hide (by
          rw [HR.out]
          exact ⟨below_trans HB3.out hb4, _, rfl, g, ga, gc, Nat.le_trans HB3.out.size hg, rfl, ho⟩)
        clear hb4 hg ho
        go_wp2
        go_ret
        exact HF.out
set_option maxRecDepth 100000 in
set_option maxHeartbeats 4000000 in
theorem specPathOf_any (a : Option Addr) (l : List Slt) (cap : Nat) (p q : Int) (w : World) (hl : l.length ≤ 1048576) (hcap : l.length ≤ cap) (h : SlotAt w a l) :
    Calls Try.prog 8 #[.slice a l.length cap, .int .i64 p, .int .i64 q] w fun e w' => RowEnd (pathL l p q) w e w' := by
  have HC : Hid _ := hide h
  clear h
  go_enter Try.func8, Try.ntmps8
  go_wp2_with fail
  refine (specRightsOk_any a l cap w hl hcap HC.out).mono ?_
  rintro e w1 ⟨rfl, hb1⟩
  have HB1 : Hid _ := hide hb1
  have HC1 : Hid _ := hide (HC.out.below hb1)
  clear hb1
  cases q0 : rightsB l
  · have HR : Hid (pathL l p q = []) := hide (by simp [pathL, q0])
    go_wp2
    go_ret
    rw [HR.out]
    exact row_none _ _ _ _ (below_alloc HB1.out _)
  · by_cases hp : posL l p < 0
    · have HR : Hid (pathL l p q = []) := hide (if_neg (fun g => by omega))
      go_wp2_with (first | (go_at_call 16; refine (l4Find_any a l cap _ _ hl HC1.out).mono ?_; rintro e w' ⟨rfl, hw'⟩; have hw'' := hw'.symm; subst hw''))
      go_ret
      rw [HR.out]
      exact row_none _ _ _ _ (below_alloc HB1.out _)
    · by_cases hq : posL l q < 0
      · have HR : Hid (pathL l p q = []) := hide (if_neg (fun g => by omega))
        go_wp2_with (first | (go_at_call 16; refine (l4Find_any a l cap _ _ hl HC1.out).mono ?_; rintro e w' ⟨rfl, hw'⟩; have hw'' := hw'.symm; subst hw''))
        go_ret
        rw [HR.out]
        exact row_none _ _ _ _ (below_alloc HB1.out _)
      · have HR : Hid (pathL l p q = wayL l p q) := hide (if_pos ⟨q0, by omega, by omega⟩)
        have HP : Hid _ := hide (InL.of (l := l) (id := p) (by omega))
        have HPQ : Hid _ := hide (InL.of (l := l) (id := q) (by omega))
        have HQ : Hid _ := hide q0
        go_wp2_with (first | (go_at_call 16; refine (l4Find_any a l cap _ _ hl HC1.out).mono ?_; rintro e w' ⟨rfl, hw'⟩; have hw'' := hw'.symm; subst hw'') | fail)
        refine (l4Path_any a l cap p q w1 HQ.out HP.out HPQ.out HC1.out).mono ?_
        rintro e w4 ⟨hb4, v4, rfl, g, ga, gc, hg, rfl, ho⟩
        have HF : Hid (RowEnd (pathL l p q) w (.returned (.slice ga (wayL l p q).length gc)) w4) := hide (by
          rw [HR.out]
          exact ⟨below_trans HB1.out hb4, _, rfl, g, ga, gc, Nat.le_trans HB1.out.size hg, rfl, ho⟩)
        clear hb4 hg ho
        go_wp2
        go_ret
        exact HF.out
theorem pathL_len {l : List Slt} (p q : Int) : (pathL l p q).length ≤ 1048576 ∨ 1048576 < (pathL l p q).length := by omega
end Go.Proofs.Ythgjdkeckpddaaa
