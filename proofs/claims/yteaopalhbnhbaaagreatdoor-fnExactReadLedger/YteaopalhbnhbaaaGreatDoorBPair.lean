/- The contracts of the book's covers and pair, and of denied. -/
import Derived.Test.YteaopalhbnhbaaaGreatDoorBHeld
import Derived.Test.YteaopalhbnhbaaaGreatDoorLater
namespace Go.Proofs.YteaopalhbnhbaaaGreatDoor
open Go.ChangeShapes Go.WideShapes Go.ChangeAt Go.RowKit Go.Maps
set_option linter.unusedVariables false
set_option maxRecDepth 100000
theorem wrap64_id {n : Int} (h : -9223372036854775808 ≤ n ∧ n ≤ 9223372036854775807) : IntKind.i64.wrap n = n := by
  simp only [IntKind.wrap, IntKind.signed, IntKind.bits]; simp; omega
/-- does an account cover an amount more? -/
def covB (x : Acc) (held amt : Int) : Bool := decide (x.limit = -1) || decide (-x.limit ≤ x.posted - held - amt)
def SmallX (x : Acc) : Prop := (-1 ≤ x.limit ∧ x.limit ≤ 1000000000000) ∧ -1000000000000 ≤ x.posted ∧ x.posted ≤ 1000000000000
set_option maxHeartbeats 2000000 in
theorem covers_any (q p : Nat) (L : Led) (x : Acc) (amt : Int) (w : World) (hs : SmallH L.hold) (hx : SmallX x) (hamt : 0 ≤ amt ∧ amt ≤ 1000000000000) (hB : BookAt w q L) (hp : AccBlk w p x) :
    Calls Tryz.prog 76 #[.pointer (some ⟨q, 0, none⟩), .pointer (some ⟨p, 0, none⟩), .int .i64 amt] w fun e w' => e = .returned (.bool (covB x (heldL x.name L.hold) amt)) ∧ Below w.heap.size w w' := by
  have HS : Hid _ := hide hs
  have HB : Hid (∀ y : Later w, BookAt y.w q L) := hide (fun y => hB.below y.below)
  obtain ⟨p0, p1, p2, p3, p4⟩ := hp
  have k0 : ∀ y : Later w, y.w.cell? ⟨p, 0, none⟩ = some (.string x.name) := fun y => (y.below.cell p0).trans p1
  have k2 : ∀ y : Later w, y.w.cell? ⟨p, 2, none⟩ = some (.int .i64 x.limit) := fun y => (y.below.cell p0).trans p3
  have k3 : ∀ y : Later w, y.w.cell? ⟨p, 3, none⟩ = some (.int .i64 x.posted) := fun y => (y.below.cell p0).trans p4
  have hne : Nonempty (Later w) := later_there _
  have hbd := held_take x.name L.hold L.hold.length hs
  rw [List.take_length] at hbd
  obtain ⟨⟨x1, x2⟩, x3, x4⟩ := hx
  obtain ⟨a1, a2⟩ := hamt
  obtain ⟨b1, b2⟩ := hbd
  have w1 : IntKind.i64.wrap (x.posted - heldL x.name L.hold) = x.posted - heldL x.name L.hold := wrap64_id (by omega)
  have w2 : IntKind.i64.wrap (x.posted - heldL x.name L.hold - amt) = x.posted - heldL x.name L.hold - amt := wrap64_id (by omega)
  have w3 : IntKind.i64.wrap (-x.limit) = -x.limit := wrap64_id (by omega)
  clear hs hB p1 p2 p3 p4
  cases q1 : (x.limit == -1)
  · cases q2 : decide (-x.limit ≤ x.posted - heldL x.name L.hold - amt)
    · have HR : Hid (covB x (heldL x.name L.hold) amt = false) := hide (by unfold covB; rw [q2]; simp at q1; simp [q1])
      go_enter Tryz.func76, Tryz.ntmps76
      go_wp2_with fail
      refine wp_region_later w (by kernel_rfl) (by kernel_rfl) ((Below.refl _ _).drew) ?_
      repeat (go_big_quiet_step (first | (go_at_call 75; exact later_of (held_any _ L _ _ HS.out (HB.out _)))))
      refine wpQuiet_nil ?_
      intro _ hw'
      obtain ⟨nx, rfl⟩ := hw'
      go_wp2
      go_ret
      exact ⟨by rw [HR.out]; rfl, nx.below⟩
    · have HR : Hid (covB x (heldL x.name L.hold) amt = true) := hide (by unfold covB; rw [q2]; simp)
      go_enter Tryz.func76, Tryz.ntmps76
      go_wp2_with fail
      refine wp_region_later w (by kernel_rfl) (by kernel_rfl) ((Below.refl _ _).drew) ?_
      repeat (go_big_quiet_step (first | (go_at_call 75; exact later_of (held_any _ L _ _ HS.out (HB.out _)))))
      refine wpQuiet_nil ?_
      intro _ hw'
      obtain ⟨nx, rfl⟩ := hw'
      go_wp2
      go_ret
      exact ⟨by rw [HR.out]; rfl, nx.below⟩
  · have HR : Hid (covB x (heldL x.name L.hold) amt = true) := hide (by unfold covB; simp at q1; simp [q1])
    go_enter Tryz.func76, Tryz.ntmps76
    go_wp2_with fail
    refine wp_region_later w (by kernel_rfl) (by kernel_rfl) ((Below.refl _ _).drew) ?_
    repeat (go_big_quiet_step (first | (go_at_call 75; exact later_of (held_any _ L _ _ HS.out (HB.out _)))))
    refine wpQuiet_nil ?_
    intro _ hw'
    obtain ⟨nx, rfl⟩ := hw'
    go_wp2
    go_ret
    exact ⟨by rw [HR.out]; rfl, nx.below⟩
/-- a refusal that was denied: a new block with its code -/
def DeniedEnd (code : Int) (g : Value) (w : World) (e : Ending) (w' : World) : Prop :=
  e = .returned (.iface 139 (.pointer (some ⟨w.heap.size, 0, none⟩))) ∧ w' = w.alloc (.cells #[.int .i64 code, g] 141)
theorem denied_any (code : Int) (t : TypeId) (v : Value) (w : World) (hg : w.cell? ⟨1, 0, none⟩ = some (.iface t v)) :
    Calls Tryz.prog 98 #[.int .i64 code] w fun e w' => DeniedEnd code (.iface t v) w e w' := by
  go_enter Tryz.func98, Tryz.ntmps98
  go_wp2
  go_ret
  exact ⟨rfl, rfl⟩
end Go.Proofs.YteaopalhbnhbaaaGreatDoor
