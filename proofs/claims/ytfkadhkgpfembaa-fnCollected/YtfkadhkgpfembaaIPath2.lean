/- The contracts of the program's pathIn and PathOf, and of the model's PathOf. -/
import Derived.Test.YtfkadhkgpfembaaIPath
import Derived.Laws.EntriesVeiled
namespace Go.Proofs.Ytfkadhkgpfembaa
open Go.ChangeShapes Go.WideShapes Go.ChangeAt Go.RowKit
set_option linter.unusedVariables false
/-- the slots on the way, or none -/
def pathL (l : List Slt) (p q : Int) : List Int := if rightsB l = true ∧ 0 ≤ posL l p ∧ 0 ≤ posL l q then wayL l p q else []
theorem clo_made (w : World) (a : Option Addr) (l : List Slt) (cap : Nat) (h : SlotAt (((w.alloc (.cells #[.slice a l.length cap] 24)).alloc (.cells #[.func (.func 34) #[] #[.pointer (some ⟨w.heap.size, 0, none⟩)]] 58)).alloc (.cells #[.func (.func 35) #[] #[.pointer (some ⟨w.heap.size + 2, 0, none⟩), .pointer (some ⟨w.heap.size + 1, 0, none⟩)]] 59)) a l) : Clo (((w.alloc (.cells #[.slice a l.length cap] 24)).alloc (.cells #[.func (.func 34) #[] #[.pointer (some ⟨w.heap.size, 0, none⟩)]] 58)).alloc (.cells #[.func (.func 35) #[] #[.pointer (some ⟨w.heap.size + 2, 0, none⟩), .pointer (some ⟨w.heap.size + 1, 0, none⟩)]] 59)) w.heap.size (w.heap.size + 1) (w.heap.size + 2) a l cap := by
  obtain ⟨wa, hwa⟩ : ∃ wa, wa = w.alloc (.cells #[.slice a l.length cap] 24) := ⟨_, rfl⟩
  rw [← hwa] at h ⊢
  have sa : wa.heap.size = w.heap.size + 1 := by rw [hwa]; simp
  have k3 : wa.cell? ⟨w.heap.size, 0, none⟩ = some (.slice a l.length cap) := by rw [hwa]; exact World.cell?_alloc_at _ _ _ _ rfl
  obtain ⟨wb, hwb⟩ : ∃ wb, wb = wa.alloc (.cells #[.func (.func 34) #[] #[.pointer (some ⟨w.heap.size, 0, none⟩)]] 58) := ⟨_, rfl⟩
  rw [← hwb] at h ⊢
  have sb : wb.heap.size = w.heap.size + 2 := by rw [hwb]; simp [sa]
  have k7 : wb.cell? ⟨wa.heap.size, 0, none⟩ = some (.func (.func 34) #[] #[.pointer (some ⟨w.heap.size, 0, none⟩)]) := by rw [hwb]; exact World.cell?_alloc_at _ _ _ _ rfl
  have k3b : wb.cell? ⟨w.heap.size, 0, none⟩ = some (.slice a l.length cap) := by rw [hwb]; exact below_keeps (below_alloc (Below.refl _ _) _) _ _ k3
  rw [sa] at k7
  refine ⟨below_keeps (below_alloc (Below.refl _ _) _) _ _ k3b, below_keeps (below_alloc (Below.refl _ _) _) _ _ k7, ?_, h⟩
  rw [← sb]
  exact World.cell?_alloc_at _ _ _ _ rfl
set_option maxRecDepth 100000 in
set_option maxHeartbeats 4000000 in
theorem pathIn_any (a : Option Addr) (l : List Slt) (cap : Nat) (p q : Int) (w : World) (hr : rightsB l = true) (hp : InL l p) (hq : InL l q) (h : SlotAt w a l) :
    Calls Try.prog 23 #[.slice a l.length cap, .int .i64 p, .int .i64 q] w fun e w' => RowEnd (wayL l p q) w e w' := by
  have hmf : ∀ (fn : Fn) (first cap : Array Value) (w : World), (Instr.makeFunc fn first cap).run Try.prog w = .ok (.func fn first cap) w := fun _ _ _ _ => rfl
  have HQ : Hid _ := hide hr
  have HP : Hid _ := hide hp
  have HPQ : Hid _ := hide hq
  have HC : Hid _ := hide h
  clear h hr hp hq
  go_enter Try.func23, Try.ntmps23
  go_wp2_with fail
  have HB : Hid (Below w.heap.size w (((w.alloc (.cells #[.slice a l.length cap] 24)).alloc (.cells #[.func (.func 34) #[] #[.pointer (some ⟨w.heap.size, 0, none⟩)]] 58)).alloc (.cells #[.func (.func 35) #[] #[.pointer (some ⟨w.heap.size + 2, 0, none⟩), .pointer (some ⟨w.heap.size + 1, 0, none⟩)]] 59))) := hide (below_alloc (below_alloc (below_alloc (Below.refl _ _) _) _) _)
  have HCLO : Hid (Clo (((w.alloc (.cells #[.slice a l.length cap] 24)).alloc (.cells #[.func (.func 34) #[] #[.pointer (some ⟨w.heap.size, 0, none⟩)]] 58)).alloc (.cells #[.func (.func 35) #[] #[.pointer (some ⟨w.heap.size + 2, 0, none⟩), .pointer (some ⟨w.heap.size + 1, 0, none⟩)]] 59)) w.heap.size (w.heap.size + 1) (w.heap.size + 2) a l cap) := hide (clo_made w a l cap (HC.out.below HB.out))
  refine (way_any w.heap.size (w.heap.size + 1) (w.heap.size + 2) a l cap HQ.out (p.toNat + q.toNat) p q _ HP.out HPQ.out (Nat.le_refl _) HCLO.out).mono ?_
  rintro e w2 ⟨hb2, v2, rfl, ho2⟩
  have HF : Hid (RowEnd (wayL l p q) w (.returned v2) w2) := hide (by
    obtain ⟨g, ga, gc, hg, e, hown⟩ := own_of_row intLen ho2
    exact ⟨below_trans HB.out hb2, v2, rfl, g, ga, gc, Nat.le_trans HB.out.size hg, e, hown⟩)
  clear hb2 ho2
  go_wp2
  go_ret
  exact HF.out
theorem InL.of {l : List Slt} {id : Int} (h : 0 ≤ posL l id) : InL l id := by
  rcases inL_or l id with h1 | h1
  · exact h1
  · omega
theorem row_none (w w' : World) (a : Option Addr) (cap : Nat) (h : Below w.heap.size w w') : RowEnd [] w (.returned (.slice a 0 cap)) w' := ⟨h, _, rfl, w.heap.size, a, cap, Nat.le_refl _, rfl, OwnRow.nil⟩
theorem pathL_len {l : List Slt} (p q : Int) : (pathL l p q).length ≤ 1048576 ∨ 1048576 < (pathL l p q).length := by omega
end Go.Proofs.Ytfkadhkgpfembaa
