/- The reader of the drawn inputs: what it keeps, and what its next byte is. -/
import Derived.Test.YtiilkkdbifhojaaGreatBa
import Derived.Deep.QuietTactic
import Derived.BigQuiet
import Derived.Test.YtiilkkdbifhojaaGreatBb
import Derived.Test.YtiilkkdbifhojaaGreatBe
import Derived.Test.YtiilkkdbifhojaaGreatBf
import Derived.Laws.BytesArg
import Derived.Deep.OwnRows
namespace Go.Proofs.YtiilkkdbifhojaaGreat
open Go.ChangeShapes Go.WideShapes Go.ChangeAt Go.RowKit
set_option linter.unusedVariables false
/-- of what was there nothing has turned -/
structure Kept (w w' : World) : Prop where
  grown : Grown w w'
  below : Below w.heap.size w w'
theorem Kept.refl (w : World) : Kept w w := ⟨Grown.refl _, Below.refl _ _⟩
theorem Kept.trans {a b c : World} (h : Kept a b) (k : Kept b c) : Kept a c :=
  ⟨⟨World.keptBut_trans h.grown.1 k.grown.1, fun x => (k.grown.2.1 x).trans (h.grown.2.1 x), Nat.le_trans h.grown.2.2 k.grown.2.2⟩, h.below.trans (k.below.mono h.below.size)⟩
theorem Kept.alloc {a w : World} (h : Kept a w) (c : Array Value) (t : TypeId) : Kept a (w.alloc (.cells c t)) := ⟨h.grown.alloc c t, h.below.alloc h.below.size _⟩
theorem Kept.setCell {a w : World} (h : Kept a w) {p : Addr} (hp : a.heap.size ≤ p.block) (v : Value) : Kept a (w.setCell p v) := ⟨h.grown.setCell hp v, h.below.setCell hp v⟩
theorem Kept.drew {a w : World} (h : Kept a w) : Kept a w.drew := ⟨h.grown.drew, h.below.drew⟩

theorem Kept.drewN {a w : World} (h : Kept a w) : ∀ q, Kept a (w.drewN q)
  | 0 => h
  | q + 1 => (Kept.drewN h q).drew
/-- but for block B nothing that was there has turned -/
structure Apart (B : Nat) (w w' : World) : Prop where
  os : w'.os = w.os
  tape : w'.tape = w.tape
  output : w'.output = w.output
  size : w.heap.size ≤ w'.heap.size
  block : ∀ k, k < w.heap.size → k ≠ B → w'.heap[k]? = w.heap[k]?
theorem Apart.refl (B : Nat) (w : World) : Apart B w w := ⟨rfl, rfl, rfl, Nat.le_refl _, fun _ _ _ => rfl⟩
theorem Apart.trans {B : Nat} {a b c : World} (h : Apart B a b) (k : Apart B b c) : Apart B a c :=
  ⟨k.os.trans h.os, k.tape.trans h.tape, k.output.trans h.output, Nat.le_trans h.size k.size, fun i hi hB => (k.block i (Nat.lt_of_lt_of_le hi h.size) hB).trans (h.block i hi hB)⟩
theorem Kept.to_apart {B : Nat} {w w' : World} (h : Kept w w') : Apart B w w' :=
  ⟨h.below.os, h.below.tape, h.below.output, h.below.size, fun k hk _ => h.below.block k hk⟩
theorem Apart.setCell {B : Nat} {a w : World} (h : Apart B a w) (o : Nat) (v : Value) : Apart B a (w.setCell ⟨B, o, none⟩ v) :=
  h.trans ⟨rfl, rfl, rfl, by simp, fun k hk hB => Below.heap_setCell _ _ _ _ hB⟩
theorem Apart.drewN {B : Nat} {a w : World} (h : Apart B a w) (q : Nat) : Apart B a (w.drewN q) := h.trans ((Kept.refl w).drewN q).to_apart
theorem Apart.cell {B : Nat} {w w' : World} (h : Apart B w w') {b o : Nat} (hb : b < w.heap.size) (hB : b ≠ B) : w'.cell? ⟨b, o, none⟩ = w.cell? ⟨b, o, none⟩ :=
  World.cell?_of_block (w := w) (h.block b hb hB)
theorem below_apart {W w w' : World} {B : Nat} (h : Below W.heap.size W w) (hB : W.heap.size ≤ B) (k : Apart B w w') : Below W.heap.size W w' := by
  have hs := h.size
  exact ⟨k.os.trans h.os, k.tape.trans h.tape, k.output.trans h.output, by have := k.size; omega, fun i hi => (k.block i (by omega) (by omega)).trans (h.block i hi)⟩
/-- the reader in block B: a slice of bytes, and how many were read -/
structure Rd (B : Nat) (w : World) : Prop where
  ex : ∃ (a : Option Addr) (len cap p : Nat), w.cell? ⟨B, 0, none⟩ = some (.slice a len cap) ∧ w.cell? ⟨B, 1, none⟩ = some (.int .i64 (p : Int)) ∧ p ≤ len ∧ len ≤ 2 ^ 63 - 1 ∧ w.frozen? ⟨B, 1, none⟩ = false ∧ B < w.heap.size ∧
    ∀ i, i < len → ∃ b off, a = some ⟨b, off, none⟩ ∧ b < B ∧ ∃ z : Int, 0 ≤ z ∧ z ≤ 255 ∧ w.cell? ⟨b, off + i, none⟩ = some (.int .u8 z)
theorem Rd.lt {B : Nat} {w : World} (h : Rd B w) : B < w.heap.size := by obtain ⟨_, _, _, _, _, _, _, _, _, h5, _⟩ := h.ex; exact h5
theorem Rd.below {B : Nat} {w w' : World} (h : Rd B w) (k : Below (B + 1) w w') : Rd B w' := by
  obtain ⟨a, len, cap, p, h0, h1, h2, h3, h4, h5, h6⟩ := h.ex
  have hs := k.size
  refine ⟨a, len, cap, p, by rw [k.cell (by simp)]; exact h0, by rw [k.cell (by simp)]; exact h1, h2, h3, by rw [k.frozen (by simp)]; exact h4, by omega, fun i hi => ?_⟩
  obtain ⟨b, off, e, hb, z, z0, z1, hz⟩ := h6 i hi
  exact ⟨b, off, e, hb, z, z0, z1, by rw [k.cell (by simp; omega)]; exact hz⟩
theorem Rd.kept {B : Nat} {w w' : World} (h : Rd B w) (k : Kept w w') : Rd B w' := h.below (k.below.mono h.lt)
theorem rd_store {B : Nat} {w : World} {a : Option Addr} {len cap p : Nat} (h0 : w.cell? ⟨B, 0, none⟩ = some (.slice a len cap)) (h1 : w.cell? ⟨B, 1, none⟩ = some (.int .i64 (p : Int))) (hp : p < len) (hm : len ≤ 2 ^ 63 - 1) (hf : w.frozen? ⟨B, 1, none⟩ = false) (hB : B < w.heap.size)
    (hc : ∀ i, i < len → ∃ b off, a = some ⟨b, off, none⟩ ∧ b < B ∧ ∃ z : Int, 0 ≤ z ∧ z ≤ 255 ∧ w.cell? ⟨b, off + i, none⟩ = some (.int .u8 z)) :
    Rd B (w.setCell ⟨B, 1, none⟩ (.int .i64 ((p : Int) + 1))) := by
  refine ⟨a, len, cap, p + 1, by rw [World.cell?_setCell_other _ _ _ _ (by simp)]; exact h0, by rw [World.cell?_setCell_same _ _ _ h1]; simp, by omega, hm, by rw [World.frozen?_setCell]; exact hf, by simpa using hB, fun i hi => ?_⟩
  obtain ⟨b, off, e, hb, z, z0, z1, hz⟩ := hc i hi
  exact ⟨b, off, e, hb, z, z0, z1, by rw [World.cell?_setCell_other _ _ _ _ (fun e => Nat.ne_of_lt hb (congrArg Addr.block e).symm)]; exact hz⟩
theorem Rd.drewN {B : Nat} {w : World} (h : Rd B w) (q : Nat) : Rd B (w.drewN q) := h.kept ((Kept.refl w).drewN q)
theorem drewN_setCell (w : World) (a : Addr) (v : Value) : ∀ q, (w.drewN q).setCell a v = (w.setCell a v).drewN q
  | 0 => rfl
  | q + 1 => congrArg World.drew (drewN_setCell w a v q)
theorem emod_le_self {a n : Int} (h0 : 0 ≤ a) (hn : 0 < n) : a % n ≤ a := by
  have h1 := Int.emod_add_mul_ediv a n
  have h2 := Int.mul_nonneg (show 0 ≤ n by omega) (Int.ediv_nonneg h0 (show 0 ≤ n by omega))
  omega
def NextEnd (B : Nat) (w : World) (e : Ending) (w' : World) : Prop := (∃ n : Int, 0 ≤ n ∧ n ≤ 255 ∧ e = .returned (.int .i64 n)) ∧ Rd B w' ∧ Apart B w w'
set_option maxHeartbeats 1000000 in
theorem next_any (B : Nat) (w : World) (h : Rd B w) : Calls Tryz.prog 35 #[.pointer (some ⟨B, 0, none⟩)] w fun e w' => NextEnd B w e w' := by
  obtain ⟨a, len, cap, p, hc0, hc1, hp, hm, hfz, hB, hcode⟩ := h.ex
  by_cases hlt : p < len
  · obtain ⟨b, off, rfl, hb, z, z0, z1, hz⟩ := hcode p hlt
    have hz2 : ∀ v, (w.setCell ⟨B, 1, none⟩ v).cell? ⟨b, off + p, none⟩ = some (.int .u8 z) := fun v => by rw [World.cell?_setCell_other _ _ _ _ (fun e => Nat.ne_of_lt hb (congrArg Addr.block e).symm)]; exact hz
    have HD : Hid _ := hide (rd_store hc0 hc1 hlt hm hfz hB hcode)
    clear hcode
    have hlt' : (p : Int) < (len : Int) := by omega
    have hd : decide ((len : Int) ≤ (p : Int)) = false := by simp; omega
    go_enter Tryz.func35, Tryz.ntmps35
    go_wp2
    go_quiet (fail)
    go_wp2
    go_quiet (fail)
    go_wp2
    go_ret
    exact ⟨⟨z, z0, z1, rfl⟩, Rd.drewN (by rw [drewN_setCell]; exact HD.out.drewN _) _, (((Apart.refl B w).drewN _).setCell _ _).drewN _⟩
  · have hge : (len : Int) ≤ (p : Int) := by omega
    clear hcode
    go_enter Tryz.func35, Tryz.ntmps35
    go_wp2
    go_quiet (fail)
    go_wp2
    go_ret
    exact ⟨⟨0, by omega, by omega, rfl⟩, h.drewN _, (Apart.refl B w).drewN _⟩
def BelowEnd (B : Nat) (n : Int) (w : World) (e : Ending) (w' : World) : Prop := (∃ r : Int, 0 ≤ r ∧ (r < n ∨ r = 0) ∧ r ≤ 65535 ∧ e = .returned (.int .i64 r)) ∧ Rd B w' ∧ Apart B w w'
set_option maxHeartbeats 1000000 in
theorem below_any (B : Nat) (n : Int) (w : World) (h : Rd B w) (hn : n ≤ 1000000000) : Calls Tryz.prog 13 #[.pointer (some ⟨B, 0, none⟩), .int .i64 n] w fun e w' => BelowEnd B n w e w' := by
  have H : Hid _ := hide h
  clear h
  by_cases h1 : n ≤ 1
  · go_enter Tryz.func13, Tryz.ntmps13
    go_wp2
    go_ret
    exact ⟨⟨0, by omega, by omega, by omega, rfl⟩, H.out, Apart.refl _ _⟩
  · by_cases h2 : n ≤ 256
    · go_enter Tryz.func13, Tryz.ntmps13
      go_wp2_with fail
      refine (next_any B _ H.out).mono ?_
      rintro e w1 ⟨⟨x, x0, x1, rfl⟩, HR1, HA1⟩
      go_wp2
      go_ret
      exact ⟨⟨x % n, Int.emod_nonneg _ (by omega), .inl (Int.emod_lt_of_pos _ (by omega)), by have := Int.emod_lt_of_pos x (show 0 < n by omega); omega, rfl⟩, HR1, HA1⟩
    · go_enter Tryz.func13, Tryz.ntmps13
      go_wp2_with fail
      refine (next_any B _ H.out).mono ?_
      rintro e w1 ⟨⟨x, x0, x1, rfl⟩, HR1, HA1⟩
      go_wp2_with fail
      refine (next_any B _ HR1).mono ?_
      rintro e w2 ⟨⟨y, y0, y1, rfl⟩, HR2, HA2⟩
      go_wp2
      go_ret
      have hle := emod_le_self (a := x * 256 + y) (n := n) (by omega) (by omega)
      exact ⟨⟨(x * 256 + y) % n, Int.emod_nonneg _ (by omega), .inl (Int.emod_lt_of_pos _ (by omega)), by omega, rfl⟩, HR2, HA1.trans HA2⟩
def OnceEnd (B : Nat) (w : World) (e : Ending) (w' : World) : Prop := (∃ b : Bool, e = .returned (.bool b)) ∧ Rd B w' ∧ Apart B w w'
set_option maxHeartbeats 400000 in
theorem once_any (B : Nat) (n : Int) (w : World) (h : Rd B w) (h0 : 0 ≤ n) (hn : n ≤ 1000000000) : Calls Tryz.prog 14 #[.pointer (some ⟨B, 0, none⟩), .int .i64 n] w fun e w' => OnceEnd B w e w' := by
  have H : Hid _ := hide h
  clear h
  go_enter Tryz.func14, Tryz.ntmps14
  go_wp2_with fail
  refine (below_any B n _ H.out hn).mono ?_
  rintro e w1 ⟨⟨r, r0, _, r1, rfl⟩, HR1, HA1⟩
  go_wp2
  go_ret
  exact ⟨⟨_, rfl⟩, HR1, HA1⟩
def WordEnd (B : Nat) (w : World) (e : Ending) (w' : World) : Prop := (∃ x : Int, (Lit.int .u64 x).wf = true ∧ e = .returned (.int .u64 x)) ∧ Rd B w' ∧ Apart B w w'
end Go.Proofs.YtiilkkdbifhojaaGreat
/- The reader's numbers: near, off, amount; and the drawn amount. -/
namespace Go.Proofs.YtiilkkdbifhojaaGreat
open Go.ChangeShapes Go.WideShapes Go.ChangeAt Go.RowKit
set_option linter.unusedVariables false
def NumEnd (B : Nat) (lo hi : Int) (w : World) (e : Ending) (w' : World) : Prop := (∃ r : Int, lo ≤ r ∧ r ≤ hi ∧ e = .returned (.int .i64 r)) ∧ Rd B w' ∧ Apart B w w'
def IntEnd (B : Nat) (w : World) (e : Ending) (w' : World) : Prop := (∃ r : Int, -9223372036854775808 ≤ r ∧ r ≤ 9223372036854775807 ∧ e = .returned (.int .i64 r)) ∧ Rd B w' ∧ Apart B w w'
theorem four (w w1 : World) (B : Nat) (v0 v1 v2 v3 : Value) (T : TypeId) (hB : B < w.heap.size) (HA : Apart B (w.alloc (.cells #[v0, v1, v2, v3] T)) w1) (r : Int) (r0 : 0 ≤ r) (r1 : r < 4) : ∃ v, (v = v0 ∨ v = v1 ∨ v = v2 ∨ v = v3) ∧ w1.cell? ⟨w.heap.size, r.toNat, none⟩ = some v := by
  have hc : ∀ o, w1.cell? ⟨w.heap.size, o, none⟩ = (w.alloc (.cells #[v0, v1, v2, v3] T)).cell? ⟨w.heap.size, o, none⟩ := fun o => HA.cell (by simp) (by omega)
  rw [hc]
  obtain rfl | rfl | rfl | rfl : r = 0 ∨ r = 1 ∨ r = 2 ∨ r = 3 := by omega
  · exact ⟨v0, .inl rfl, by simp⟩
  · exact ⟨v1, .inr (.inl rfl), by simp⟩
  · exact ⟨v2, .inr (.inr (.inl rfl)), by simp⟩
  · exact ⟨v3, .inr (.inr (.inr rfl)), by simp⟩
end Go.Proofs.YtiilkkdbifhojaaGreat
/- The drawn amount and the drawn text. -/
namespace Go.Proofs.YtiilkkdbifhojaaGreat
open Go.ChangeShapes Go.WideShapes Go.ChangeAt Go.RowKit
set_option linter.unusedVariables false
set_option maxHeartbeats 1000000 in
set_option maxRecDepth 100000 in
theorem l1Open_any (a : Option Addr) (len cap : Nat) (w : World) : Calls Tryz.prog 11 #[.slice a len cap] w fun e w' => e = .returned (.pointer (some ⟨w.heap.size, 0, none⟩)) ∧ w' = w.alloc (.cells #[.slice a len cap, .int .i64 0] 67) := by
  go_enter Tryz.func11, Tryz.ntmps11
  go_wp2
  go_ret
  exact ⟨rfl, rfl⟩
/-- the bytes of a drawn input, as the law is given them -/
def IsCode (w : World) (a : Option Addr) (len : Nat) : Prop := len ≤ 2 ^ 63 - 1 ∧ ∀ i, i < len → ∃ b off, a = some ⟨b, off, none⟩ ∧ b < w.heap.size ∧ ∃ z : Int, 0 ≤ z ∧ z ≤ 255 ∧ w.cell? ⟨b, off + i, none⟩ = some (.int .u8 z)
theorem IsCode.below {w w' : World} {a : Option Addr} {len : Nat} (h : IsCode w a len) (k : Below w.heap.size w w') : IsCode w' a len := by
  refine ⟨h.1, fun i hi => ?_⟩
  obtain ⟨b, off, e, hb, z, z0, z1, hz⟩ := h.2 i hi
  exact ⟨b, off, e, by have := k.size; omega, z, z0, z1, by rw [k.cell (by exact hb)]; exact hz⟩
theorem rd_open {w : World} {a : Option Addr} {len cap : Nat} (h : IsCode w a len) : Rd w.heap.size (w.alloc (.cells #[.slice a len cap, .int .i64 0] 67)) := by
  refine ⟨a, len, cap, 0, by simp, by simp, Nat.zero_le _, h.1, by simp, by simp, fun i hi => ?_⟩
  obtain ⟨b, off, e, hb, z, z0, z1, hz⟩ := h.2 i hi
  exact ⟨b, off, e, hb, z, z0, z1, by rw [World.cell?_alloc_past _ _ _ hb]; exact hz⟩
theorem str_cell {w w1 : World} {B : Nat} {cs : Array Value} {T : TypeId} (hB : B < w.heap.size) (HA : Apart B (w.alloc (.cells cs T)) w1) (q : Nat) (t : ByteArray) (h : cs[q]? = some (.string t)) : w1.cell? ⟨w.heap.size, q, none⟩ = some (.string t) := by
  rw [HA.cell (by simp) (by omega)]; simpa using h
end Go.Proofs.YtiilkkdbifhojaaGreat
/- The reader's size, text and dop. -/
namespace Go.Proofs.YtiilkkdbifhojaaGreat
open Go.ChangeShapes Go.WideShapes Go.ChangeAt Go.RowKit
set_option linter.unusedVariables false
set_option maxRecDepth 100000
theorem Apart.mono_hi {B : Nat} {a w : World} (h : Apart B a w) {p : Addr} (hp : a.heap.size ≤ p.block) (v : Value) : Apart B a (w.setCell p v) :=
  ⟨h.os, h.tape, h.output, by have := h.size; simp; omega, fun k hk hB => (Below.heap_setCell _ _ _ _ (by omega)).trans (h.block k hk hB)⟩
theorem Apart.below {B : Nat} {a w w' : World} (h : Apart B a w) (k : Below w.heap.size w w') : Apart B a w' :=
  ⟨k.os.trans h.os, k.tape.trans h.tape, k.output.trans h.output, Nat.le_trans h.size k.size, fun i hi hB => (k.block i (Nat.lt_of_lt_of_le hi h.size)).trans (h.block i hi hB)⟩
theorem apart_of {B : Nat} {w w' : World} (k : Below w.heap.size w w') : Apart B w w' := (Apart.refl B w).below k
theorem Apart.grownBy {B : Nat} {w w' : World} (h : Apart B w w') : w.grownBy w' (some B) := ⟨h.os, h.tape, h.output, h.size, fun k hk hne => h.block k hk (fun e => hne (by rw [e]))⟩
theorem Blk.apart {g B : Nat} {cur : List Value} {x y : World} (h : Blk g cur x) (k : Apart B x y) (hne : g ≠ B) : Blk g cur y := h.grown k.grownBy (fun e => hne (by simpa using e))
theorem Rd.on {B : Nat} {w w' : World} (h : Rd B w) (k : Below w.heap.size w w') : Rd B w' := h.below (k.mono h.lt)
theorem Rd.set_hi {B g o : Nat} {w : World} (h : Rd B w) (hg : B < g) (v : Value) : Rd B (w.setCell ⟨g, o, none⟩ v) := h.below ((Below.refl (B + 1) w).setCell (p := ⟨g, o, none⟩) hg v)
/-- a cell of a table that was laid ahead of the reading -/
theorem tab_cell {w w1 : World} {B : Nat} {cs : List Value} {T : TypeId} (hB : B < w.heap.size) (HA : Apart B (w.alloc (.cells cs.toArray T)) w1) (r : Nat) (v : Value) (h : cs[r]? = some v) : w1.cell? ⟨w.heap.size, r, none⟩ = some v := by
  rw [HA.cell (by simp) (by omega)]
  exact Blk.new.c r v h
set_option maxHeartbeats 1000000 in
theorem size_any (B : Nat) (per most : Int) (w : World) (h : Rd B w) (hp : 2 ≤ per) (hp2 : per ≤ 1000) (hm : 1 ≤ most) (hm2 : most ≤ 1000) : Calls Tryz.prog 31 #[.pointer (some ⟨B, 0, none⟩), .int .i64 per, .int .i64 most] w fun e w' => NumEnd B 1 most w e w' := by
  have H : Hid _ := hide h
  obtain ⟨a, len, cap, p, hc0, hc1, hpl, hlm, hfz, hB, hcode⟩ := h.ex
  clear h hcode hc1 hfz
  have q0 : (0 : Int) ≤ (len : Int) / per := Int.ediv_nonneg (by omega) (by omega)
  have q1 : (len : Int) / per ≤ 4611686018427387904 := Int.ediv_le_of_le_mul (by omega) (by
    have : (len : Int) ≤ 9223372036854775807 := by omega
    have h2 : 4611686018427387904 * 2 ≤ 4611686018427387904 * per := Int.mul_le_mul_of_nonneg_left hp (by omega)
    omega)
  have hpz : (per == 0) = false := by simp; omega
  by_cases hgt : most < 1 + (len : Int) / per
  · go_enter Tryz.func31, Tryz.ntmps31
    go_wp2_with fail
    refine (below_any B most _ H.out (by omega)).mono ?_
    rintro e w1 ⟨⟨r, r0, r2, r1, rfl⟩, HR1, HA1⟩
    go_wp2
    go_ret
    exact ⟨⟨1 + r, by omega, by omega, rfl⟩, HR1, HA1⟩
  · go_enter Tryz.func31, Tryz.ntmps31
    go_wp2_with fail
    refine (below_any B _ _ H.out (by omega)).mono ?_
    rintro e w1 ⟨⟨r, r0, r2, r1, rfl⟩, HR1, HA1⟩
    go_wp2
    go_ret
    exact ⟨⟨1 + r, by omega, by omega, rfl⟩, HR1, HA1⟩
def StrEnd (B : Nat) (w : World) (e : Ending) (w' : World) : Prop := (∃ s : ByteArray, s.size ≤ 100 ∧ e = .returned (.string s)) ∧ Rd B w' ∧ Apart B w w'
theorem tab_str {w w1 : World} {B : Nat} {cs : List ByteArray} {T : TypeId} (hB : B < w.heap.size) (HA : Apart B (w.alloc (.cells (cs.map Value.string).toArray T)) w1) (hs : ∀ s ∈ cs, s.size ≤ 100) (r : Nat) (hr : r < cs.length) : ∃ s : ByteArray, s.size ≤ 100 ∧ w1.cell? ⟨w.heap.size, r, none⟩ = some (.string s) :=
  ⟨cs[r], hs _ (List.getElem_mem hr), tab_cell hB HA r _ (by simp [List.getElem?_eq_getElem hr])⟩
set_option maxHeartbeats 1000000 in
theorem text_any (B : Nat) (w : World) (h : Rd B w) : Calls Tryz.prog 15 #[.pointer (some ⟨B, 0, none⟩)] w fun e w' => StrEnd B w e w' := by
  have H : Hid _ := hide h
  have hlt := h.lt
  clear h
  go_enter Tryz.func15, Tryz.ntmps15
  go_wp2_with fail
  refine (below_any B 6 _ (H.out.kept ((Kept.refl _).alloc _ _)) (by omega)).mono ?_
  rintro e w1 ⟨⟨r, r0, r2, r1, rfl⟩, HR1, HA1⟩
  obtain ⟨n, rfl⟩ : ∃ n : Nat, r = (n : Int) := ⟨r.toNat, by omega⟩
  have r3 : (n : Int) < 6 := by omega
  have HB : Hid _ := hide (((Kept.refl w).alloc _ _).to_apart.trans HA1)
  obtain ⟨s, hs, hcell⟩ := tab_str (cs := [⟨#[]⟩, ⟨#[97]⟩, ⟨#[98]⟩, ⟨#[97, 98]⟩, ⟨#[97, 98, 99]⟩, ⟨#[120, 32, 121]⟩]) hlt HA1 (by decide) n (by simp; omega)
  have HRR : Hid _ := hide HR1
  clear r2 HA1 HR1
  go_wp2
  go_ret
  exact ⟨⟨s, hs, rfl⟩, HRR.out, HB.out⟩
theorem em_sm : (⟨#[]⟩ : ByteArray).size ≤ 1048600 := Nat.zero_le _
def DopEnd (B : Nat) (w : World) (e : Ending) (w' : World) : Prop := (∃ o : Dp, SmO o ∧ e = .returned (dpV o)) ∧ Rd B w' ∧ Apart B w w'
theorem dop_end {B : Nat} {w x : World} {o : Dp} (hs : SmO o) (hB : B < w.heap.size) (hr : Rd B x) (ha : Apart B w x) : DopEnd B w (.returned (dpV o)) ((((x.setCell ⟨w.heap.size, 0, none⟩ (.int .i64 o.kind)).setCell ⟨w.heap.size, 1, none⟩ (.string o.nm)).setCell ⟨w.heap.size, 2, none⟩ (.string o.tn)).setCell ⟨w.heap.size, 3, none⟩ (.string o.da)) :=
  ⟨⟨o, hs, rfl⟩, (((hr.set_hi hB _).set_hi hB _).set_hi hB _).set_hi hB _, (((ha.mono_hi (p := ⟨w.heap.size, 0, none⟩) (Nat.le_refl _) _).mono_hi (p := ⟨w.heap.size, 1, none⟩) (Nat.le_refl _) _).mono_hi (p := ⟨w.heap.size, 2, none⟩) (Nat.le_refl _) _).mono_hi (p := ⟨w.heap.size, 3, none⟩) (Nat.le_refl _) _⟩
set_option maxHeartbeats 4000000 in
theorem dop_any (B : Nat) (w : World) (h : Rd B w) : Calls Tryz.prog 34 #[.pointer (some ⟨B, 0, none⟩)] w fun e w' => DopEnd B w e w' := by
  have H : Hid _ := hide h
  have hlt := h.lt
  clear h
  obtain ⟨w0, hw0⟩ : ∃ w0, w0 = w.alloc (.cells #[.int .i64 0, .string ⟨#[]⟩, .string ⟨#[]⟩, .string ⟨#[]⟩] 50) := ⟨_, rfl⟩
  have HW : Hid (w.alloc (.cells #[.int .i64 0, .string ⟨#[]⟩, .string ⟨#[]⟩, .string ⟨#[]⟩] 50) = w0) := hide hw0.symm
  have K0 : Hid (Blk w.heap.size [.int .i64 0, .string ⟨#[]⟩, .string ⟨#[]⟩, .string ⟨#[]⟩] w0) := hide (by rw [hw0]; exact Blk.new)
  have HB0 : Hid (Below w.heap.size w w0) := hide (by rw [hw0]; exact below_alloc (Below.refl _ _) _)
  have hs0 : w0.heap.size = w.heap.size + 1 := by rw [hw0]; simp
  have HS0 : Hid _ := hide hs0
  clear hw0 hs0
  go_enter Tryz.func34, Tryz.ntmps34
  go_wp2_with fail
  rw [HW.out]
  have hl0 : B < w0.heap.size := by have := HS0.out; omega
  refine (below_any B 4 _ ((H.out.on HB0.out).kept ((Kept.refl _).alloc _ _)) (by omega)).mono ?_
  rintro e w1 ⟨⟨r, r0, r2, r1, rfl⟩, HR1, HA1⟩
  obtain ⟨n, rfl⟩ : ∃ n : Nat, r = (n : Int) := ⟨r.toNat, by omega⟩
  have r3 : (n : Int) < 4 := by omega
  obtain ⟨nm, hnm, hcell⟩ := tab_str (cs := [⟨#[108, 111, 103]⟩, ⟨#[98, 97, 115, 101]⟩, ⟨#[98, 97, 115, 101, 46, 110, 101, 119]⟩, ⟨#[98]⟩]) hl0 HA1 (by decide) n (by simp; omega)
  rw [HS0.out] at hcell
  have HAA := ((Kept.refl w0).alloc _ _).to_apart.trans HA1
  have HP1 : Hid _ := hide ((apart_of HB0.out).trans HAA)
  have K1 : Hid _ := hide (K0.out.apart HAA (by omega))
  have HRR1 : Hid _ := hide HR1
  clear r2 HA1 HR1 HAA HB0 K0
  go_wp2_with fail
  refine (below_any B 5 _ HRR1.out (by omega)).mono ?_
  rintro e w2 ⟨⟨q, q0, q2, q1, rfl⟩, HR2, HA2⟩
  have HP2 : Hid _ := hide (HP1.out.trans HA2)
  have K2 : Hid _ := hide (K1.out.apart HA2 (by omega))
  have HRR2 : Hid _ := hide HR2
  clear HR2 HA2 HP1 K1 HRR1 hcell
  by_cases c0 : q = 0
  · subst c0
    have hl2 := HRR2.out.lt
    go_wp2_with fail
    refine (below_any B 3 _ (HRR2.out.kept ((Kept.refl _).alloc _ _)) (by omega)).mono ?_
    rintro e w3 ⟨⟨r, r0, r2, r1, rfl⟩, HR3, HA3⟩
    obtain ⟨m, rfl⟩ : ∃ n : Nat, r = (n : Int) := ⟨r.toNat, by omega⟩
    have r3 : (m : Int) < 3 := by omega
    obtain ⟨tn, htn, hcell⟩ := tab_str (cs := [⟨#[108, 111, 103]⟩, ⟨#[98, 97, 115, 101]⟩, ⟨#[99]⟩]) hl2 HA3 (by decide) m (by simp; omega)
    have HAA := ((Kept.refl w2).alloc _ _).to_apart.trans HA3
    have K3 : Hid _ := hide (K2.out.apart HAA (by omega))
    have HE : Hid _ := hide (dop_end (o := ⟨2, nm, tn, ⟨#[]⟩⟩) ⟨by simp only; omega, by simp only; omega, em_sm⟩ hlt HR3 (HP2.out.trans HAA))
    have HS : Hid _ := hide ((((K3.out.set 0 (.int .i64 2) (by simp)).set 1 (.string nm) (by simp)).set 2 (.string tn) (by simp)).set 3 (.string ⟨#[]⟩) (by simp))
    have y0 := K3.out.c 0 _ rfl
    have y1 := K3.out.c 1 _ rfl
    have y2 := K3.out.c 2 _ rfl
    have y3 := K3.out.c 3 _ rfl
    have f0 := K3.out.f 0
    have f1 := K3.out.f 1
    have f2 := K3.out.f 2
    have f3 := K3.out.f 3
    clear r2 HR3 HA3 HAA
    go_wp2
    have z0 := HS.out.c 0 _ rfl
    have z1 := HS.out.c 1 _ rfl
    have z2 := HS.out.c 2 _ rfl
    have z3 := HS.out.c 3 _ rfl
    exact bodyPost_ret (v := dpV ⟨2, nm, tn, ⟨#[]⟩⟩) (by simp only [dpV]; simp [results, Tryz.results34, go_sem, z0, z1, z2, z3]) rfl HE.out
  · have c0' : (q == 0) = false := by simpa using c0
    by_cases c1 : q = 1
    · subst c1
      have HE : Hid _ := hide (dop_end (o := ⟨3, nm, ⟨#[]⟩, ⟨#[]⟩⟩) ⟨by simp only; omega, em_sm, em_sm⟩ hlt HRR2.out HP2.out)
      have HS : Hid _ := hide ((((K2.out.set 0 (.int .i64 3) (by simp)).set 1 (.string nm) (by simp)).set 2 (.string ⟨#[]⟩) (by simp)).set 3 (.string ⟨#[]⟩) (by simp))
      have y0 := K2.out.c 0 _ rfl
      have y1 := K2.out.c 1 _ rfl
      have y2 := K2.out.c 2 _ rfl
      have y3 := K2.out.c 3 _ rfl
      have f0 := K2.out.f 0
      have f1 := K2.out.f 1
      have f2 := K2.out.f 2
      have f3 := K2.out.f 3
      clear c0
      go_wp2
      have z0 := HS.out.c 0 _ rfl
      have z1 := HS.out.c 1 _ rfl
      have z2 := HS.out.c 2 _ rfl
      have z3 := HS.out.c 3 _ rfl
      exact bodyPost_ret (v := dpV ⟨3, nm, ⟨#[]⟩, ⟨#[]⟩⟩) (by simp only [dpV]; simp [results, Tryz.results34, go_sem, z0, z1, z2, z3]) rfl HE.out
    · have c1' : (q == 1) = false := by simpa using c1
      clear c0 c1
      go_wp2_with fail
      refine (text_any B _ HRR2.out).mono ?_
      rintro e w3 ⟨⟨da, hda, rfl⟩, HR3, HA3⟩
      have K3 : Hid _ := hide (K2.out.apart HA3 (by omega))
      have HE : Hid _ := hide (dop_end (o := ⟨1, nm, ⟨#[]⟩, da⟩) ⟨by simp only; omega, em_sm, by simp only; omega⟩ hlt HR3 (HP2.out.trans HA3))
      have HS : Hid _ := hide ((((K3.out.set 0 (.int .i64 1) (by simp)).set 1 (.string nm) (by simp)).set 2 (.string ⟨#[]⟩) (by simp)).set 3 (.string da) (by simp))
      have y0 := K3.out.c 0 _ rfl
      have y1 := K3.out.c 1 _ rfl
      have y2 := K3.out.c 2 _ rfl
      have y3 := K3.out.c 3 _ rfl
      have f0 := K3.out.f 0
      have f1 := K3.out.f 1
      have f2 := K3.out.f 2
      have f3 := K3.out.f 3
      clear HR3 HA3
      go_wp2
      have z0 := HS.out.c 0 _ rfl
      have z1 := HS.out.c 1 _ rfl
      have z2 := HS.out.c 2 _ rfl
      have z3 := HS.out.c 3 _ rfl
      exact bodyPost_ret (v := dpV ⟨1, nm, ⟨#[]⟩, da⟩) (by simp only [dpV]; simp [results, Tryz.results34, go_sem, z0, z1, z2, z3]) rfl HE.out
end Go.Proofs.YtiilkkdbifhojaaGreat
/- The drawn disk. -/
namespace Go.Proofs.YtiilkkdbifhojaaGreat
open Go.ChangeShapes Go.WideShapes Go.ChangeAt Go.RowKit
set_option linter.unusedVariables false
set_option maxRecDepth 100000
theorem smD_of {L S : List Fl} {O : List Dp} (h : diskB ⟨L, S, O⟩ = true) : SmD L S O := by
  obtain ⟨h1, h2, h3⟩ := diskB_parts h
  refine ⟨⟨by have := (filesB_parts h1).1; omega, fun f hf => ?_⟩, ⟨by have := (filesB_parts h2).1; omega, fun f hf => ?_⟩, by omega, fun o ho => ?_⟩
  · have := filesB_small h1 f hf; exact ⟨by omega, by omega⟩
  · have := filesB_small h2 f hf; exact ⟨by omega, by omega⟩
  · obtain ⟨f1, f2⟩ := disk_small h o ho
    simp only [formB, Bool.and_eq_true, nmB, inB, decide_eq_true_eq] at f1
    refine ⟨by omega, ?_, by omega⟩
    have f3 := f1.2
    split at f3
    · simp only [Bool.and_eq_true, decide_eq_true_eq] at f3; omega
    · simp only [Bool.and_eq_true, emB] at f3
      have : o.tn.size = 0 := by
        have h0 := f3.1
        rw [Lib.toList_data] at h0
        have h1 : o.tn.data = #[] := by simpa using h0
        show o.tn.data.size = 0
        rw [h1]; rfl
      omega
/-- a disk's rows as they are read -/
theorem rowsD_at {lo : Nat} {L S : List Fl} {O : List Dp} {v1 v2 v3 : Value} {x : World} (h : RowsD lo L S O v1 v2 v3 x) : ∃ (a1 a2 a3 : Option Addr) (c1 c2 c3 : Nat), v1 = .slice a1 L.length c1 ∧ v2 = .slice a2 S.length c2 ∧ v3 = .slice a3 O.length c3 ∧ DkAt x a1 a2 a3 L S O ∧ (a1 = none → c1 = 0) ∧ (a2 = none → c2 = 0) ∧ (a3 = none → c3 = 0) ∧ (∀ ad, (a1 = some ad ∨ a2 = some ad ∨ a3 = some ad) → lo ≤ ad.block) := by
  obtain ⟨g1, a1, c1, b1, e1, n1, o1⟩ := own_of_row2 flLen h.r1
  obtain ⟨g2, a2, c2, b2, e2, n2, o2⟩ := own_of_row2 flLen h.r2
  obtain ⟨g3, a3, c3, b3, e3, n3, o3⟩ := own_of_row2 dpLen h.r3
  have k1 := h.r1.lt
  have k2 := h.r2.lt
  have k3 := h.r3.lt
  have hb : ∀ {v : Value} {base : Nat} {T : TypeId} {sz n c : Nat} {xs : List Value} {a : Option Addr}, x.ownsRow base T sz v n xs → v = .slice a n c → ∀ ad, a = some ad → base ≤ ad.block := fun ho he ad had => by
    obtain ⟨hl, ⟨h0, h1⟩ | ⟨g, cap, cur, h1, hb, _⟩⟩ := ho
    · rw [h0, had] at he; simp at he
    · rw [h1, had] at he
      simp only [Value.slice.injEq, Option.some.injEq] at he
      rw [← he.1]; exact hb
  refine ⟨a1, a2, a3, c1, c2, c3, e1, e2, e3, ⟨o1.rows, o2.rows, o3.rows⟩, n1, n2, n3, fun ad had => ?_⟩
  rcases had with q | q | q
  · exact hb h.r1 e1 ad q
  · exact hb h.r2 e2 ad q
  · exact hb h.r3 e3 ad q
theorem RowsD.apart {lo B : Nat} {L S : List Fl} {O : List Dp} {v1 v2 v3 : Value} {x y : World} (h : RowsD lo L S O v1 v2 v3 x) (k : Apart B x y) (hB : B < lo) : RowsD lo L S O v1 v2 v3 y :=
  ⟨h.r1.kept k.grownBy (.inr (fun q => by have := (h.r1.lt _ q).1; omega)), h.r2.kept k.grownBy (.inr (fun q => by have := (h.r2.lt _ q).1; omega)), h.r3.kept k.grownBy (.inr (fun q => by have := (h.r3.lt _ q).1; omega)), h.s12, h.s13, h.s23⟩
/-- what the draw carries on: the disk lies behind its own variable -/
structure DSt (B : Nat) (w x : World) : Prop where
  ap : Apart B w x
  rd : Rd B x
  res : Blk w.heap.size [.slice none 0 0, .slice none 0 0, .slice none 0 0] x
  ex : ∃ lo L S O v1 v2 v3, w.heap.size + 2 ≤ lo ∧ Blk (w.heap.size + 1) [v1, v2, v3] x ∧ RowsD lo L S O v1 v2 v3 x ∧ diskB ⟨L, S, O⟩ = true
theorem DSt.apart {B : Nat} {w x y : World} (h : DSt B w x) (hB : B < w.heap.size) (k : Apart B x y) (hr : Rd B y) : DSt B w y := by
  obtain ⟨lo, L, S, O, v1, v2, v3, h1, h2, h3, h4⟩ := h.ex
  exact ⟨h.ap.trans k, hr, h.res.apart k (by omega), lo, L, S, O, v1, v2, v3, h1, h2.apart k (by omega), h3.apart k (by omega), h4⟩
theorem DSt.put {B lo : Nat} {w x : World} {L S : List Fl} {O : List Dp} {v1 v2 v3 u1 u2 u3 : Value} (h : DSt B w x) (hB : B < w.heap.size) (hD : Blk (w.heap.size + 1) [u1, u2, u3] x) (hl : w.heap.size + 2 ≤ lo) (hr : RowsD lo L S O v1 v2 v3 x) (hd : diskB ⟨L, S, O⟩ = true) : DSt B w (((x.setCell ⟨w.heap.size + 1, 0, none⟩ v1).setCell ⟨w.heap.size + 1, 1, none⟩ v2).setCell ⟨w.heap.size + 1, 2, none⟩ v3) :=
  ⟨((h.ap.mono_hi (p := ⟨w.heap.size + 1, 0, none⟩) (Nat.le_succ _) _).mono_hi (p := ⟨w.heap.size + 1, 1, none⟩) (Nat.le_succ _) _).mono_hi (p := ⟨w.heap.size + 1, 2, none⟩) (Nat.le_succ _) _, ((h.rd.set_hi (by omega) _).set_hi (by omega) _).set_hi (by omega) _, ((h.res.other _ _ (by omega)).other _ _ (by omega)).other _ _ (by omega), lo, L, S, O, v1, v2, v3, hl, ((hD.set 0 v1 (by simp)).set 1 v2 (by simp)).set 2 v3 (by simp), ((hr.set (by omega)).set (by omega)).set (by omega), hd⟩
/-- what the region that does an op leaves -/
def RegX (W : Nat) (l4 l5 l6 l7 l8 l9 l10 : Bool) (u31 u26 u32 u33 u6 u7 : Value) (x : World) : Prop := ∃ (L S : List Fl) (O : List Dp) (c : Int), (l4 = true → c = 0 → diskB ⟨L, S, O⟩ = true) ∧ RegE W L S O (.int .i64 c) l4 l5 l6 l7 l8 l9 l10 u31 u26 u32 u33 u6 u7 x
section
variable {W : Nat} {L S : List Fl} {O : List Dp} {c : Value} {l4 l5 l6 l7 l8 l9 l10 : Bool} {u31 u26 u32 u33 u6 u7 : Value} {x y : World} {b lo hi : Nat} {v1 v2 v3 : Value}
theorem RegE.any {L' S' : List Fl} {O' : List Dp} {c' : Value} (h : RegE W L S O c false l5 l6 l7 l8 l9 l10 u31 u26 u32 u33 u6 u7 x) : RegE W L' S' O' c' false l5 l6 l7 l8 l9 l10 u31 u26 u32 u33 u6 u7 x := by
  obtain ⟨b, lo, hi, v1, v2, v3, Q⟩ := h
  have n5 : l5 = true → False := fun q => by have := (Q.m5 q).1; cases this
  have n6 : l6 = true → False := fun q => n5 (Q.e6 q).1
  have n7 : l7 = true → False := fun q => n5 (Q.e7 q).1
  have n9 : l9 = true → False := fun q => n6 (Q.st q).1
  exact ⟨b, lo, hi, v1, v2, v3, ⟨Q.al, Q.az, fun q => (by cases q), fun q => (by cases q), fun q => (by cases q), fun q => (n5 q).elim, fun q => (n6 q).elim, fun q => (n7 q).elim, fun q => (by cases q), fun q => (n9 q).elim, fun q => (n7 (Q.a10 q).1).elim⟩⟩
theorem RegE.apart {B : Nat} (h : RegE W L S O c false l5 l6 l7 l8 l9 l10 u31 u26 u32 u33 u6 u7 x) (k : Apart B x y) (hB : B < W) : RegE W L S O c false l5 l6 l7 l8 l9 l10 u31 u26 u32 u33 u6 u7 y := by
  obtain ⟨b, lo, hi, v1, v2, v3, Q⟩ := h
  have n5 : l5 = true → False := fun q => by have := (Q.m5 q).1; cases this
  have n6 : l6 = true → False := fun q => n5 (Q.e6 q).1
  have n7 : l7 = true → False := fun q => n5 (Q.e7 q).1
  have n9 : l9 = true → False := fun q => n6 (Q.st q).1
  exact ⟨b, lo, hi, v1, v2, v3, ⟨fun q => ⟨(Q.al q).1, (Q.al q).2.1, Nat.lt_of_lt_of_le (Q.al q).2.2 k.size⟩, fun q r => (Q.az q r).apart k (by have := (Q.al q).2.1; omega), fun q => (by cases q), fun q => (by cases q), fun q => (by cases q), fun q => (n5 q).elim, fun q => (n6 q).elim, fun q => (n7 q).elim, fun q => (by cases q), fun q => (n9 q).elim, fun q => (n7 (Q.a10 q).1).elim⟩⟩
/-- the disk that was laid away, with its rows -/
theorem RegE.finD (h : RegE W L S O c true true true true true true true u31 u26 u32 u33 u6 u7 x) : ∃ b lo v1 v2 v3, u6 = .pointer (some ⟨b, 0, none⟩) ∧ u7 = c ∧ W ≤ b ∧ W ≤ lo ∧ Blk b [v1, v2, v3] x ∧ RowsD lo L S O v1 v2 v3 x := by
  obtain ⟨b, lo, hi, v1, v2, v3, Q⟩ := h
  exact ⟨b, lo, v1, v2, v3, (Q.al rfl).1, (Q.a10 rfl).2.2, (Q.al rfl).2.1, (Q.dn rfl).1, (Q.st rfl).2.2, (Q.dn rfl).2.2⟩
end
/-- a disk that was drawn -/
def DrawnD (B : Nat) (w : World) (e : Ending) (w' : World) : Prop := (∃ (a1 a2 a3 : Option Addr) (c1 c2 c3 : Nat) (L S : List Fl) (O : List Dp), e = .returned (.agg #[.slice a1 L.length c1, .slice a2 S.length c2, .slice a3 O.length c3]) ∧ DkAt w' a1 a2 a3 L S O ∧ SmD L S O ∧ (a1 = none → c1 = 0) ∧ (a2 = none → c2 = 0) ∧ (a3 = none → c3 = 0) ∧ (∀ ad, (a1 = some ad ∨ a2 = some ad ∨ a3 = some ad) → B < ad.block)) ∧ Rd B w' ∧ Apart B w w'
section
variable {W : Nat} {l4 l5 l6 l7 l8 l9 l10 : Bool} {u31 u26 u32 u33 u6 u7 : Value} {x y : World}
theorem RegX.start : RegX W false false false false false false false u31 u26 u32 u33 u6 u7 x := ⟨[], [], [], 0, fun q => (by cases q), RegE.start⟩
theorem RegX.apart {B : Nat} (h : RegX W false l5 l6 l7 l8 l9 l10 u31 u26 u32 u33 u6 u7 x) (k : Apart B x y) (hB : B < W) : RegX W false l5 l6 l7 l8 l9 l10 u31 u26 u32 u33 u6 u7 y := by
  obtain ⟨L, S, O, c, hc, E⟩ := h
  exact ⟨L, S, O, c, hc, E.apart k hB⟩
theorem RegX.done {L S : List Fl} {O : List Dp} {c : Int} {v1 v2 v3 : Value} (h : RegX W false l5 l6 l7 l8 l9 l10 u31 u26 u32 u33 u6 u7 x) (hc : c = 0 → diskB ⟨L, S, O⟩ = true) (hb : Below x.heap.size x y) (hW : W ≤ x.heap.size) (hr : RowsD x.heap.size L S O v1 v2 v3 y) : RegX W true l5 l6 l7 l8 l9 l10 (.tuple #[.agg #[v1, v2, v3], .int .i64 c]) u26 u32 u33 u6 u7 y := by
  obtain ⟨L', S', O', c', _, E⟩ := h
  exact ⟨L, S, O, c, fun _ => hc, (E.any).done hb hW hr⟩
theorem RegX.alloc {T : TypeId} (h : RegX W l4 l5 l6 l7 false l9 l10 u31 u26 u32 u33 u6 u7 x) (hW : W ≤ x.heap.size) : RegX W l4 l5 l6 l7 true l9 l10 u31 u26 u32 u33 (.pointer (some ⟨x.heap.size, 0, none⟩)) u7 (x.alloc (.cells #[.slice none 0 0, .slice none 0 0, .slice none 0 0] T)) := by
  obtain ⟨L, S, O, c, hc, E⟩ := h
  exact ⟨L, S, O, c, hc, E.alloc hW⟩
theorem RegX.mv5 (h : RegX W true false l6 l7 l8 l9 l10 u31 u26 u32 u33 u6 u7 x) : RegX W true true l6 l7 l8 l9 l10 u31 u31 u32 u33 u6 u7 x := by
  obtain ⟨L, S, O, c, hc, E⟩ := h
  exact ⟨L, S, O, c, hc, E.mv5⟩
end
theorem act_disk2 {live safe : List Fl} {ops : List Dp} {o : Dp} (h : diskB ⟨live, safe, ops⟩ = true) (hc : actC live ops o = 0) : diskB ⟨actL live ops o, safe, actO live ops o⟩ = true := by
  obtain ⟨q1, q2, q3⟩ := diskB_parts h
  have hr : isRun (runL safe ops) live = true := by
    simp only [diskB, Bool.and_eq_true] at h
    exact h.2
  have hc' := hc
  rw [(act_yes hc).1, (act_yes hc).2]
  rcases did_act (ops := ops) (o := o) q1 with ⟨_, a⟩ | ⟨_, a⟩ | ⟨_, a⟩ | ⟨_, hf, hd, hfl⟩
  · rw [a] at hc; cases hc
  · rw [a] at hc; cases hc
  · rw [a] at hc; cases hc
  have h200 : ¬ ops.length = 200 := fun e => by
    simp [actC, hf, hd, e] at hc'
  have hs : stepL live o = some (doL live o).1 := by simp [stepL, hf, hd, hfl]
  have hru : runL safe ops = some live := by
    cases e : runL safe ops with
    | none => rw [e] at hr; cases hr
    | some l => rw [e] at hr; simp [isRun] at hr; rw [hr]
  have h1 : runL safe (ops ++ [o]) = some (doL live o).1 := by
    rw [runL_append, hru]
    simp [runL, hs]
  simp only [diskB, Bool.and_eq_true, decide_eq_true_eq]
  refine ⟨⟨⟨hfl, q2⟩, by simp; omega⟩, ?_⟩
  show isRun (runL safe (ops ++ [o])) (doL live o).1 = true
  rw [h1]
  simp [isRun]
theorem do_disk {L S : List Fl} {O : List Dp} {o : Dp} (h : diskB ⟨L, S, O⟩ = true) (hc : doCv L S O o = 0) : diskB ⟨doLv L S O o, doSv L S O o, doOv L S O o⟩ = true := by
  obtain ⟨e1, e2, e3, e4⟩ := do_yes (o := o) h
  rw [e1] at hc
  rw [e2, e3, e4]
  exact act_disk2 h hc
theorem sync_disk {L S : List Fl} {O : List Dp} (h : diskB ⟨L, S, O⟩ = true) : diskB ⟨syncL L S O, syncL L S O, []⟩ = true := by
  have e : syncL L S O = L := by simp [syncL, h]
  obtain ⟨h1, _, _⟩ := diskB_parts h
  rw [e]
  simp [diskB, h1, runL, isRun]
theorem RowAt.blk {A : Type} {sz : Nat} {f : A → List Value} {x y : World} {a : Option Addr} {l : List A} (h : RowAt sz f x a l) (s : x.heap.size ≤ y.heap.size) (e : ∀ ad, a = some ad → ad.block < x.heap.size → y.heap[ad.block]? = x.heap[ad.block]?) : RowAt sz f y a l := fun i hi => by
  obtain ⟨b, off, ea, hb, hc⟩ := h i hi
  exact ⟨b, off, ea, by omega, fun r v hv => (World.cell?_of_block (w := x) (w' := y) (a := ⟨b, off + i * sz + r, none⟩) (e ⟨b, off, none⟩ ea hb)).trans (hc r v hv)⟩
theorem DkAt.apart {B : Nat} {x y : World} {a1 a2 a3 : Option Addr} {L S : List Fl} {O : List Dp} (h : DkAt x a1 a2 a3 L S O) (hi : ∀ ad, (a1 = some ad ∨ a2 = some ad ∨ a3 = some ad) → B < ad.block) (k : Apart B x y) : DkAt y a1 a2 a3 L S O :=
  ⟨h.r1.blk k.size (fun ad e hb => k.block _ hb (by have := hi ad (.inl e); omega)), h.r2.blk k.size (fun ad e hb => k.block _ hb (by have := hi ad (.inr (.inl e)); omega)), h.r3.blk k.size (fun ad e hb => k.block _ hb (by have := hi ad (.inr (.inr e)); omega))⟩
structure DrF (B : Nat) (wp : World) (av : Value) (l0 l1 l2 l3 l4 l5 l6 l7 l8 l9 : Bool) (u5 u6 u18 u19 u20 u21 u22 u23 u24 : Value) (x : World) : Prop where
  ap : Apart B wp x
  rd : Rd B x
  d3 : l3 = true → l2 = true
  q21 : l2 = true → ∃ o : Dp, SmO o ∧ u21 = .agg #[.int .i64 o.kind, .string o.nm, .string o.tn, .string o.da]
  q : RegX wp.heap.size l3 l4 l5 l6 l7 l8 l9 u22 u18 u23 u24 u5 u6 x
  p19 : l0 = true → u19 = av
  p20 : l1 = true → u20 = .pointer (some ⟨B, 0, none⟩)
theorem DkAt.blk {x y : World} {a1 a2 a3 : Option Addr} {L S : List Fl} {O : List Dp} {m : Nat} (h : DkAt x a1 a2 a3 L S O) (hi : ∀ ad, (a1 = some ad ∨ a2 = some ad ∨ a3 = some ad) → m ≤ ad.block) (s : x.heap.size ≤ y.heap.size) (e : ∀ g, m ≤ g → g < x.heap.size → y.heap[g]? = x.heap[g]?) : DkAt y a1 a2 a3 L S O :=
  ⟨h.r1.blk s (fun ad q hb => e _ (hi ad (.inl q)) hb), h.r2.blk s (fun ad q hb => e _ (hi ad (.inr (.inl q))) hb), h.r3.blk s (fun ad q hb => e _ (hi ad (.inr (.inr q))) hb)⟩
theorem Apart.grownR {B : Nat} {w x y : World} {row : Option Nat} (h : Apart B w x) (hg : x.grownBy y row) (hr : ∀ j, row = some j → w.heap.size ≤ j) : Apart B w y :=
  ⟨hg.os.trans h.os, hg.tape.trans h.tape, hg.output.trans h.output, Nat.le_trans h.size hg.size, fun k hk hB => (hg.block k (Nat.lt_of_lt_of_le hk h.size) (fun e => by have := hr k e.symm; omega)).trans (h.block k hk hB)⟩
theorem RowAt.nil2 {A : Type} {sz : Nat} {f : A → List Value} {w : World} {a : Option Addr} {l : List A} (h : l.length = 0) : RowAt sz f w a l := fun i hi => by omega
theorem row_tail {x : World} {b off : Nat} {l : List Dp} (h : RowAt 4 dpCells x (some ⟨b, off, none⟩) l) : RowAt 4 dpCells x (some ⟨b, off + 4, none⟩) l.tail := fun i hi => by
  have hi' : i + 1 < l.length := by simp at hi; omega
  obtain ⟨b', off', e, hb, hc⟩ := h (i + 1) hi'
  simp only [Option.some.injEq, Addr.mk.injEq, and_true] at e
  obtain ⟨rfl, rfl⟩ := e
  refine ⟨b, off + 4, rfl, hb, fun r v hv => ?_⟩
  rw [List.getElem_tail] at hv
  have := hc r v hv
  rw [show off + (i + 1) * 4 + r = off + 4 + i * 4 + r by omega] at this
  exact this
theorem smD_tail {L S : List Fl} {O : List Dp} (h : SmD L S O) : SmD L S O.tail := ⟨h.1, h.2.1, by have := h.2.2.1; simp; omega, fun o ho => h.2.2.2 o (List.mem_of_mem_tail ho)⟩
theorem own_cap {w : World} {base : Nat} {e : TypeId} {sz : Nat} {a : Option Addr} {n c : Nat} {xs : List Value} (h : w.ownsRow base e sz (.slice a n c) n xs) : n ≤ c := by
  obtain ⟨hl, ⟨h0, h1⟩ | ⟨g, cap, cur, h1, _, _, h2, _⟩⟩ := h
  · omega
  · simp only [Value.slice.injEq] at h1; omega
theorem infoB : (Tryz.prog.info? 5).map (fun i => (i.zero, i.size, i.bytes)) = some (some (.int .u8 0), 1, 1) := by kernel_rfl
theorem huB : Tryz.prog.underlying 22 = some (.slice 5) := by kernel_rfl
theorem big_str (w : World) (n : Nat) : (convert 22 9 (.slice (some ⟨w.heap.size, 0, none⟩) n n)).run Tryz.prog (w.alloc (.cells (madeCells #[.int .u8 0] n) 5)) = .ok (.string (strOfNums (List.replicate n 0))) (w.alloc (.cells (madeCells #[.int .u8 0] n) 5)) :=
  run_convert_bytes_arg (P := Tryz.prog) _ 22 5 huB Tryz.underlying5 w.heap.size 0 n n (List.replicate n 0) (by simp) (fun i hi => by
    rw [Nat.zero_add, (World.rowIs_made w (.int .u8 0) n 5).cell hi]
    simp [List.getD_eq_getElem?_getD, hi]) 9 Tryz.underlying9
theorem drawn_end {B : Nat} {w x : World} {a1 a2 a3 : Option Addr} {c1 c2 c3 : Nat} {L S : List Fl} {O : List Dp} (hB : B < w.heap.size) (ha : Apart B w x) (hr : Rd B x) (h : DkAt x a1 a2 a3 L S O) (hs : SmD L S O) (h1 : a1 = none → c1 = 0) (h2 : a2 = none → c2 = 0) (h3 : a3 = none → c3 = 0) (hi : ∀ ad, (a1 = some ad ∨ a2 = some ad ∨ a3 = some ad) → w.heap.size + 2 ≤ ad.block) :
    DrawnD B w (.returned (.agg #[.slice a1 L.length c1, .slice a2 S.length c2, .slice a3 O.length c3])) (((x.setCell ⟨w.heap.size, 0, none⟩ (.slice a1 L.length c1)).setCell ⟨w.heap.size, 1, none⟩ (.slice a2 S.length c2)).setCell ⟨w.heap.size, 2, none⟩ (.slice a3 O.length c3)) :=
  ⟨⟨a1, a2, a3, c1, c2, c3, L, S, O, rfl, h.blk hi (by simp) (fun g hg _ => by rw [set_block _ _ (by omega), set_block _ _ (by omega), set_block _ _ (by omega)]), hs, h1, h2, h3, fun ad q => by have := hi ad q; omega⟩, ((hr.set_hi hB _).set_hi hB _).set_hi hB _, ((ha.mono_hi (p := ⟨w.heap.size, 0, none⟩) (Nat.le_refl _) _).mono_hi (p := ⟨w.heap.size, 1, none⟩) (Nat.le_refl _) _).mono_hi (p := ⟨w.heap.size, 2, none⟩) (Nat.le_refl _) _⟩
set_option maxHeartbeats 16000000 in
theorem disk_any (B : Nat) (w : World) (h : Rd B w) : Calls Tryz.prog 12 #[.pointer (some ⟨B, 0, none⟩)] w fun e w' => DrawnD B w e w' := by
  have H : Hid _ := hide h
  have hlt := h.lt
  clear h
  have HI0 : Hid (DSt B w ((w.alloc (.cells #[.slice none 0 0, .slice none 0 0, .slice none 0 0] 27)).alloc (.cells #[.slice none 0 0, .slice none 0 0, .slice none 0 0] 27))) := hide (by
    have b1 : Below w.heap.size w ((w.alloc (.cells #[.slice none 0 0, .slice none 0 0, .slice none 0 0] 27)).alloc (.cells #[.slice none 0 0, .slice none 0 0, .slice none 0 0] 27)) := below_alloc (below_alloc (Below.refl _ _) _) _
    exact ⟨apart_of b1, H.out.on b1, Blk.new.alloc _, w.heap.size + 2, [], [], [], .slice none 0 0, .slice none 0 0, .slice none 0 0, Nat.le_refl _, by simpa using Blk.new (w := w.alloc (.cells #[.slice none 0 0, .slice none 0 0, .slice none 0 0] 27)) (cur := [.slice none 0 0, .slice none 0 0, .slice none 0 0]) (T := 27), ⟨⟨by simp, .inl ⟨rfl, rfl⟩⟩, ⟨by simp, .inl ⟨rfl, rfl⟩⟩, ⟨by simp, .inl ⟨rfl, rfl⟩⟩, fun g hg => (by cases hg), fun g hg => (by cases hg), fun g hg => (by cases hg)⟩, by decide⟩)
  clear H
  obtain ⟨w0, hw0⟩ : ∃ w0, w0 = ((w.alloc (.cells #[.slice none 0 0, .slice none 0 0, .slice none 0 0] 27)).alloc (.cells #[.slice none 0 0, .slice none 0 0, .slice none 0 0] 27)) := ⟨_, rfl⟩
  have HW : Hid (((w.alloc (.cells #[.slice none 0 0, .slice none 0 0, .slice none 0 0] 27)).alloc (.cells #[.slice none 0 0, .slice none 0 0, .slice none 0 0] 27)) = w0) := hide hw0.symm
  rw [← hw0] at HI0
  clear hw0
  go_enter Tryz.func12, Tryz.ntmps12
  go_wp2_with fail
  rw [HW.out]
  clear HW
  refine (size_any B 3 10 _ HI0.out.rd (by omega) (by omega) (by omega) (by omega)).mono ?_
  rintro e w1 ⟨⟨n, n0, n1, rfl⟩, HR1, HA1⟩
  have HI1 : Hid _ := hide (HI0.out.apart hlt HA1 HR1)
  clear HR1 HA1 HI0
  go_wp2
  go_loopw [4] (fun i wr => ∃ k : Nat, k ≤ 10 ∧ i = .int .i64 (k : Int) ∧ Hid (DSt B w wr)) (fun i wr => (intOf i).toNat)
  case atStart => exact ⟨n.toNat, by omega, by rw [show ((n.toNat : Nat) : Int) = n by omega], HI1⟩
  case round =>
    clear HI1 n0 n1
    obtain ⟨k, hk, rfl, HI⟩ := hrel
    by_cases h0 : 0 < k
    · have h0' : (0 : Int) < (k : Int) := by omega
      go_wp2_with fail
      refine (once_any B 5 _ HI.out.rd (by omega) (by omega)).mono ?_
      rintro e w2 ⟨⟨b, rfl⟩, HR2, HA2⟩
      have HI2 : Hid _ := hide (HI.out.apart hlt HA2 HR2)
      clear HR2 HA2 HI
      obtain ⟨lo, Lf, Sf, Of, v1, v2, v3, hlo, hD, hRr, hdk⟩ := HI2.out.ex
      obtain ⟨a1, a2, a3, c1, c2, c3, rfl, rfl, rfl, hat, hc1, hc2, hc3, hhi⟩ := rowsD_at hRr
      have HD : Hid _ := hide (And.intro hlo (And.intro hD (And.intro hRr (And.intro hdk (And.intro hat (And.intro hc1 (And.intro hc2 (And.intro hc3 (fun (ad : Addr) (q : a1 = some ad ∨ a2 = some ad ∨ a3 = some ad) => (Nat.lt_of_lt_of_le (by omega : B < lo) (hhi ad q)))))))))))
      have y0 := hD.c 0 _ rfl
      have y1 := hD.c 1 _ rfl
      have y2 := hD.c 2 _ rfl
      have HBW : Hid (B < w2.heap.size) := hide HI2.out.rd.lt
      clear hlo hD hRr hdk hat hc1 hc2 hc3 hhi
      cases b
      · go_wp2_with fail
        rename_i hK0
        refine wp_region_inv (by kernel_rfl) (fun L act x => ∃ l0 l1 l2 l3 l4 l5 l6 l7 l8 l9 : Bool, ∃ u5 u6 u18 u19 u20 u21 u22 u23 u24 : Value, L = #[l0, l1, l2, l3, l4, l5, l6, l7, l8, l9] ∧ act = { tmps := #[Value.pointer (some { block := B, off := 0 }), undef, Value.pointer (some { block := w.heap.size, off := 0 }), Value.pointer (some { block := w.heap.size + 1, off := 0 }), Value.int IntKind.i64 ↑k, u5, u6, Value.agg #[Value.slice none 0 0, Value.slice none 0 0, Value.slice none 0 0], Value.pointer (some { block := B, off := 0 }), Value.int IntKind.i64 n, Value.int IntKind.i64 ↑k, Value.bool true, u12, u13, Value.pointer (some { block := B, off := 0 }), Value.bool false, u16, u17, u18, u19, u20, u21, u22, u23, u24, u25, u26, u27, undef, undef, undef, undef, undef, undef, undef, undef, undef, undef, undef, undef, undef, undef, undef, undef, undef, undef, undef, undef, undef, undef, undef, undef, undef, undef, undef, undef, undef, undef, undef, undef, undef, undef], defers := [] } ∧ DrF B w2 (.agg #[.slice a1 Lf.length c1, .slice a2 Sf.length c2, .slice a3 Of.length c3]) l0 l1 l2 l3 l4 l5 l6 l7 l8 l9 u5 u6 u18 u19 u20 u21 u22 u23 u24 x) ?_ ?_ ?_
        rotate_left 2
        · exact ⟨false, false, false, false, false, false, false, false, false, false, (u5), (u6), (u18), (u19), (u20), (u21), (u22), (u23), (u24), rfl, rfl, ⟨(Apart.refl _ _).drewN 1, HI2.out.rd.drewN 1, fun q => (by cases q), fun q => (by cases q), RegX.start, fun q => (by cases q), fun q => (by cases q)⟩⟩
        · rintro L act x i ⟨l0, l1, l2, l3, l4, l5, l6, l7, l8, l9, u5, u6, u18, u19, u20, u21, u22, u23, u24, rfl, rfl, h⟩ hi K hK
          have hi15 : i < 10 := by
            obtain ⟨_, o, ho, _⟩ := mem_ready.1 hi
            exact (Array.getElem?_eq_some_iff.1 ho).1
          have hl := (mem_ready.1 hi).1
          obtain rfl | rfl | rfl | rfl | rfl | rfl | rfl | rfl | rfl | rfl := (by omega : i = 0 ∨ i = 1 ∨ i = 2 ∨ i = 3 ∨ i = 4 ∨ i = 5 ∨ i = 6 ∨ i = 7 ∨ i = 8 ∨ i = 9)
          · have e : l0 = false := hl
            subst e
            have kx := HD.out.2.1.apart h.ap (by omega)
            have cc0 := kx.c 0 _ rfl
            have cc1 := kx.c 1 _ rfl
            have cc2 := kx.c 2 _ rfl
            refine wpOp_run (v := .agg #[.slice a1 Lf.length c1, .slice a2 Sf.length c2, .slice a3 Of.length c3]) (w' := x) (by rfl) (by rfl) ?_ (hK _ _ ⟨true, l1, l2, l3, l4, l5, l6, l7, l8, l9, u5, u6, u18, (.agg #[.slice a1 Lf.length c1, .slice a2 Sf.length c2, .slice a3 Of.length c3]), u20, u21, u22, u23, u24, rfl, rfl, { h with p19 := fun _ => rfl }⟩)
            go_simp
          · have e : l1 = false := hl
            subst e
            refine wpOp_run (v := .pointer (some ⟨B, 0, none⟩)) (w' := x) (by rfl) (by rfl) ?_ (hK _ _ ⟨l0, true, l2, l3, l4, l5, l6, l7, l8, l9, u5, u6, u18, u19, (.pointer (some ⟨B, 0, none⟩)), u21, u22, u23, u24, rfl, rfl, { h with p20 := fun _ => rfl }⟩)
            go_simp
          · have e : l2 = false := hl
            subst e
            have d1 : l1 = true := ready_on hi 1 (by kernel_rfl)
            subst d1
            have n3 : l3 = false := Bool.eq_false_iff.2 (fun q => by have := h.d3 q; cases this)
            subst n3
            refine wpOp_call (by rfl) (by rfl) ?_ (dop_any B x h.rd) ?_
            · rw [h.p20 rfl]; go_simp
            · rintro e w' ⟨⟨o, ho, rfl⟩, hr, ha⟩
              exact ⟨_, rfl, hK _ _ ⟨l0, true, true, false, l4, l5, l6, l7, l8, l9, u5, u6, u18, u19, u20, (.agg #[.int .i64 o.kind, .string o.nm, .string o.tn, .string o.da]), u22, u23, u24, rfl, rfl, { h with ap := h.ap.trans ha, rd := hr, d3 := fun _ => rfl, q21 := fun _ => ⟨o, ho, rfl⟩, q := h.q.apart ha HBW.out }⟩⟩
          · have e : l3 = false := hl
            subst e
            have d0 : l0 = true := ready_on hi 0 (by kernel_rfl)
            subst d0
            have d2 : l2 = true := ready_on hi 2 (by kernel_rfl)
            subst d2
            obtain ⟨o, ho, eo⟩ := h.q21 rfl
            refine wpOp_call (by rfl) (by rfl) ?_ (specDo_any a1 a2 a3 c1 c2 c3 Lf Sf Of o x (smD_of HD.out.2.2.2.1) ho HD.out.2.2.2.2.2.1 HD.out.2.2.2.2.2.2.1 HD.out.2.2.2.2.2.2.2.1 (HD.out.2.2.2.2.1.apart HD.out.2.2.2.2.2.2.2.2 h.ap)) ?_
            · rw [h.p19 rfl]; rw [eo]; go_simp
            · rintro e w' ⟨hb, z1, z2, z3, rfl, hr⟩
              exact ⟨_, rfl, hK _ _ ⟨true, l1, true, true, l4, l5, l6, l7, l8, l9, u5, u6, u18, u19, u20, u21, (.tuple #[.agg #[z1, z2, z3], .int .i64 (doCv Lf Sf Of o)]), u23, u24, rfl, rfl, { h with ap := h.ap.below hb, rd := h.rd.on hb, d3 := fun _ => rfl, q := h.q.done (fun hc => do_disk HD.out.2.2.2.1 hc) hb h.ap.size hr }⟩⟩
          · have e : l4 = false := hl
            subst e
            have d3 : l3 = true := ready_on hi 3 (by kernel_rfl)
            subst d3
            refine wpOp_run (v := u22) (w' := x) (by rfl) (by rfl) ?_ (hK _ _ ⟨l0, l1, l2, true, true, l5, l6, l7, l8, l9, u5, u6, (u22), u19, u20, u21, u22, u23, u24, rfl, rfl, { h with q := h.q.mv5 }⟩)
            go_simp
          · have e : l5 = false := hl
            subst e
            have d4 : l4 = true := ready_on hi 4 (by kernel_rfl)
            subst d4
            obtain ⟨L9, S9, O9, cv, hcv, b, lo9, hi, v1, v2, v3, Q⟩ := h.q
            refine wpOp_run (v := .agg #[v1, v2, v3]) (w' := x) (by rfl) (by rfl) ?_ (hK _ _ ⟨l0, l1, l2, l3, true, true, l6, l7, l8, l9, u5, u6, u18, u19, u20, u21, u22, (.agg #[v1, v2, v3]), u24, rfl, rfl, { h with q := ⟨L9, S9, O9, cv, hcv, b, lo9, hi, v1, v2, v3, Q.ex6⟩ }⟩)
            rw [(Q.m5 rfl).2]
            go_simp
          · have e : l6 = false := hl
            subst e
            have d4 : l4 = true := ready_on hi 4 (by kernel_rfl)
            subst d4
            obtain ⟨L9, S9, O9, cv, hcv, b, lo9, hi, v1, v2, v3, Q⟩ := h.q
            refine wpOp_run (v := .int .i64 cv) (w' := x) (by rfl) (by rfl) ?_ (hK _ _ ⟨l0, l1, l2, l3, true, l5, true, l7, l8, l9, u5, u6, u18, u19, u20, u21, u22, u23, (.int .i64 cv), rfl, rfl, { h with q := ⟨L9, S9, O9, cv, hcv, b, lo9, hi, v1, v2, v3, Q.ex7⟩ }⟩)
            rw [(Q.m5 rfl).2]
            go_simp
          · have e : l7 = false := hl
            subst e
            refine wpOp_run (v := .pointer (some ⟨x.heap.size, 0, none⟩)) (w' := x.alloc (.cells #[.slice none 0 0, .slice none 0 0, .slice none 0 0] 27)) (by rfl) (by rfl) ?_ (hK _ _ ⟨l0, l1, l2, l3, l4, l5, l6, true, l8, l9, (.pointer (some ⟨x.heap.size, 0, none⟩)), u6, u18, u19, u20, u21, u22, u23, u24, rfl, rfl, { h with ap := h.ap.below (below_alloc (Below.refl _ _) _), rd := h.rd.on (below_alloc (Below.refl _ _) _), q := h.q.alloc h.ap.size }⟩)
            go_simp
          · have e : l8 = false := hl
            subst e
            have d0 : l0 = true := ready_on hi 0 (by kernel_rfl)
            subst d0
            have d1 : l1 = true := ready_on hi 1 (by kernel_rfl)
            subst d1
            have d2 : l2 = true := ready_on hi 2 (by kernel_rfl)
            subst d2
            have d3 : l3 = true := ready_on hi 3 (by kernel_rfl)
            subst d3
            have d4 : l4 = true := ready_on hi 4 (by kernel_rfl)
            subst d4
            have d5 : l5 = true := ready_on hi 5 (by kernel_rfl)
            subst d5
            have d7 : l7 = true := ready_on hi 7 (by kernel_rfl)
            subst d7
            obtain ⟨L9, S9, O9, cv, hcv, b, lo9, hi, v1, v2, v3, Q⟩ := h.q
            obtain ⟨q1, q2, q3, k1, k2, k3, rfl, rfl, rfl, -⟩ := rowsD_at (Q.dn rfl).2.2
            have hbb : B < b := by have := (Q.al rfl).2.1; have := HBW.out; omega
            have R := Q.az rfl rfl
            have r0 := R.c 0 _ rfl
            have r1 := R.c 1 _ rfl
            have r2 := R.c 2 _ rfl
            have f0 := R.f 0
            have f1 := R.f 1
            have f2 := R.f 2
            refine wpOp_skip (w' := (((x.setCell ⟨b, 0, none⟩ (.slice q1 L9.length k1)).setCell ⟨b, 1, none⟩ (.slice q2 S9.length k2)).setCell ⟨b, 2, none⟩ (.slice q3 O9.length k3))) (by rfl) (by rfl) ?_ (hK _ _ ⟨true, true, true, true, true, true, l6, true, true, l9, u5, u6, u18, u19, u20, u21, u22, u23, u24, rfl, rfl, { h with ap := ((h.ap.mono_hi (p := ⟨b, 0, none⟩) (Q.al rfl).2.1 _).mono_hi (p := ⟨b, 1, none⟩) (Q.al rfl).2.1 _).mono_hi (p := ⟨b, 2, none⟩) (Q.al rfl).2.1 _, rd := ((h.rd.set_hi hbb _).set_hi hbb _).set_hi hbb _, q := ⟨L9, S9, O9, cv, hcv, b, lo9, hi, _, _, _, Q.sto⟩ }⟩)
            rw [(Q.al rfl).1, (Q.e6 rfl).2]
            go_simp
          · have e : l9 = false := hl
            subst e
            have d0 : l0 = true := ready_on hi 0 (by kernel_rfl)
            subst d0
            have d1 : l1 = true := ready_on hi 1 (by kernel_rfl)
            subst d1
            have d2 : l2 = true := ready_on hi 2 (by kernel_rfl)
            subst d2
            have d3 : l3 = true := ready_on hi 3 (by kernel_rfl)
            subst d3
            have d4 : l4 = true := ready_on hi 4 (by kernel_rfl)
            subst d4
            have d5 : l5 = true := ready_on hi 5 (by kernel_rfl)
            subst d5
            have d6 : l6 = true := ready_on hi 6 (by kernel_rfl)
            subst d6
            have d7 : l7 = true := ready_on hi 7 (by kernel_rfl)
            subst d7
            have d8 : l8 = true := ready_on hi 8 (by kernel_rfl)
            subst d8
            obtain ⟨L9, S9, O9, cv, hcv, b, lo9, hi, v1, v2, v3, Q⟩ := h.q
            refine wpOp_run (v := .int .i64 cv) (w' := x) (by rfl) (by rfl) ?_ (hK _ _ ⟨true, true, true, true, true, true, true, true, true, true, u5, (.int .i64 cv), u18, u19, u20, u21, u22, u23, u24, rfl, rfl, { h with q := ⟨L9, S9, O9, cv, hcv, b, lo9, hi, v1, v2, v3, Q.as10⟩ }⟩)
            rw [(Q.e7 rfl).2]
            go_simp
        · rintro L act x ⟨l0, l1, l2, l3, l4, l5, l6, l7, l8, l9, u5, u6, u18, u19, u20, u21, u22, u23, u24, rfl, rfl, h⟩ hr
          have hall := ready_all hr rfl (by decide)
          have t0 : l0 = true := hall 0 (by decide)
          have t1 : l1 = true := hall 1 (by decide)
          have t2 : l2 = true := hall 2 (by decide)
          have t3 : l3 = true := hall 3 (by decide)
          have t4 : l4 = true := hall 4 (by decide)
          have t5 : l5 = true := hall 5 (by decide)
          have t6 : l6 = true := hall 6 (by decide)
          have t7 : l7 = true := hall 7 (by decide)
          have t8 : l8 = true := hall 8 (by decide)
          have t9 : l9 = true := hall 9 (by decide)
          subst t0 t1 t2 t3 t4 t5 t6 t7 t8 t9
          clear hall hr
          obtain ⟨L9, S9, O9, cv, hcv, hE⟩ := h.q
          obtain ⟨b, lo9, z1, z2, z3, rfl, rfl, hbW, hlW, hBk, hRw⟩ := hE.finD
          obtain ⟨q1, q2, q3, k1, k2, k3, rfl, rfl, rfl, -⟩ := rowsD_at hRw
          have HI3 : Hid _ := hide (HI2.out.apart hlt h.ap h.rd)
          have kD := HD.out.2.1.apart h.ap (by omega)
          have lD := HD.out.2.1.lt
          refine hK0 _ _ ?_
          by_cases hc0 : cv = 0
          · have HI4 : Hid _ := hide (HI3.out.put hlt kD (by omega) hRw (hcv rfl hc0))
            subst hc0
            have x0 := hBk.c 0 _ rfl
            have x1 := hBk.c 1 _ rfl
            have x2 := hBk.c 2 _ rfl
            have y0 := kD.c 0 _ rfl
            have y1 := kD.c 1 _ rfl
            have y2 := kD.c 2 _ rfl
            have f0 := kD.f 0
            have f1 := kD.f 1
            have f2 := kD.f 2
            clear hBk hRw hcv kD h hE lD
            go_wp2
            exact ⟨⟨k - 1, by omega, by rw [show ((k - 1 : Nat) : Int) = (k : Int) - 1 by omega], HI4⟩, by simp [intOf]; omega⟩
          · have hc0' : (cv == 0) = false := by simpa using hc0
            clear hBk hRw hcv kD h hE hc0 lD
            go_wp2
            exact ⟨⟨k - 1, by omega, by rw [show ((k - 1 : Nat) : Int) = (k : Int) - 1 by omega], HI3⟩, by simp [intOf]; omega⟩
      · have HDD := HD.out.2.1
        go_wp2_with fail
        refine (specSync_any a1 a2 a3 c1 c2 c3 Lf Sf Of w2 (smD_of HD.out.2.2.2.1) HD.out.2.2.2.2.2.1 HD.out.2.2.2.2.2.2.1 HD.out.2.2.2.2.1).mono ?_
        rintro e x ⟨hb, z1, z2, z3, rfl, hr⟩
        obtain ⟨q1, q2, q3, k1, k2, k3, rfl, rfl, rfl, -⟩ := rowsD_at hr
        have kD := HDD.below hb
        have lD := HDD.lt
        have HI3 : Hid _ := hide (((HI2.out.apart hlt (apart_of hb) (HI2.out.rd.on hb))).put hlt kD (by omega) hr (sync_disk HD.out.2.2.2.1))
        have x0 := kD.c 0 _ rfl
        have x1 := kD.c 1 _ rfl
        have x2 := kD.c 2 _ rfl
        have f0 := kD.f 0
        have f1 := kD.f 1
        have f2 := kD.f 2
        clear hb hr kD HDD lD y0 y1 y2
        go_wp2
        exact ⟨⟨k - 1, by omega, by rw [show ((k - 1 : Nat) : Int) = (k : Int) - 1 by omega], HI3⟩, by simp [intOf]; omega⟩
    · have h0' : ¬ (0 : Int) < (k : Int) := by omega
      go_wp2_with fail
      refine (below_any B 40 _ HI.out.rd (by omega)).mono ?_
      rintro e w2 ⟨⟨r, r0, r2, r1, rfl⟩, HR2, HA2⟩
      have HI2 : Hid _ := hide (HI.out.apart hlt HA2 HR2)
      clear HR2 HA2 HI r2
      obtain ⟨lo, Lf, Sf, Of, v1, v2, v3, hlo, hD, hRr, hdk⟩ := HI2.out.ex
      replace hRr := hRr.mono hlo
      obtain ⟨a1, a2, a3, c1, c2, c3, rfl, rfl, rfl, hat, hc1, hc2, hc3, hhi⟩ := rowsD_at hRr
      have HC : Hid ((a1 = none → c1 = 0) ∧ (a2 = none → c2 = 0) ∧ (a3 = none → c3 = 0)) := hide ⟨hc1, hc2, hc3⟩
      have HHI : Hid _ := hide hhi
      have HAT : Hid _ := hide hat
      have HRR : Hid _ := hide hRr
      have HDK : Hid _ := hide hdk
      have HD : Hid _ := hide hD
      have HLO : Hid _ := hide hlo
      have y0 := hD.c 0 _ rfl
      have y1 := hD.c 1 _ rfl
      have y2 := hD.c 2 _ rfl
      have d0 := hD.f 0
      have d1 := hD.f 1
      have d2 := hD.f 2
      have HLT : Hid (w.heap.size + 2 ≤ w2.heap.size) := hide hD.lt
      clear hlo hD hRr hdk hat hc1 hc2 hc3 hhi
      by_cases c39 : r = 39
      · subst c39
        obtain ⟨i0, hi0, hz0, hz1, hz2⟩ := info_parts infoF
        have hu := huF
        have hl60 : Lf.length ≤ 60 := (filesB_parts (diskB_parts HDK.out).1).1
        go_wp2_with (first | (at_builtin; refine Shut2.mk ?_) | fail)
        refine Shut2.mk' ?_
        refine wpList_append_own_at _ rfl _ _ 24 rfl (w.heap.size + 2) 71 i0 _ 2 32 hu hi0 hz0 hz1 hz2 rfl (by decide) (.slice a1 Lf.length c1) Lf.length (Lf.flatMap flCells) rfl ?own ⟨w2.heap.size, 0, none⟩ 1 1 [.string ⟨#[122, 122]⟩, .string ⟨#[]⟩] rfl rfl ?news (by simp [Value.oneCell']) (by unfold maxLen; omega) (by omega) ?base ?_
        case own => exact own_keep HRR.out.r1 (below_alloc (Below.refl _ _) _)
        case news => exact news2 (World.cell?_alloc_at _ _ _ _ rfl) (World.cell?_alloc_at _ _ _ _ rfl)
        case base => have := HLT.out; simp; omega
        intro v6 w6 ho6 hg6 _ hli
        have bA : Below w2.heap.size w2 (w2.alloc (.cells #[.string ⟨#[122, 122]⟩, .string ⟨#[]⟩] 71)) := below_alloc (Below.refl _ _) _
        have RA := HRR.out.below bA
        have R6 : RowsD (w.heap.size + 2) (Lf ++ [⟨⟨#[122, 122]⟩, ⟨#[]⟩⟩]) Sf Of v6 (.slice a2 Sf.length c2) (.slice a3 Of.length c3) w6 := ⟨by rw [List.length_append, List.flatMap_append]; exact ho6, RA.r2.kept hg6 RA.s12.en, RA.r3.kept hg6 RA.s13.en, RA.s12.grow hli RA.r2, RA.s13.grow hli RA.r3, RA.s23⟩
        have hrow : ∀ j, (Value.slice a1 Lf.length c1).ownBlock = some j → w.heap.size + 2 ≤ j := fun j hj => (HRR.out.r1.lt j hj).1
        have K6 : Hid _ := hide ((HI2.out.res.below bA).grown hg6 (fun e => by have := hrow _ e.symm; omega))
        have D6 : Hid _ := hide ((HD.out.below bA).grown hg6 (fun e => by have := hrow _ e.symm; omega))
        have A6 : Hid _ := hide ((HI2.out.ap.below bA).grownR hg6 (fun j hj => by have := hrow j hj; omega))
        have P6 : Hid (Rd B w6) := hide ((HI2.out.rd.on bA).below ((Below.refl (B + 1) _).grown hg6 (by have := HLT.out; simp; omega) (fun j hj => by have := hrow j hj; omega)))
        obtain ⟨p1, p2, p3, e1, e2, e3, rfl, e5, e6, hat6, n1, n2, n3, hi6⟩ := rowsD_at R6
        simp only [Value.slice.injEq, true_and] at e5 e6
        obtain ⟨rfl, rfl⟩ := e5
        obtain ⟨rfl, rfl⟩ := e6
        have SM6 : Hid (SmD (Lf ++ [⟨⟨#[122, 122]⟩, ⟨#[]⟩⟩]) Sf Of) := hide (by
          have h1 := smD_of HDK.out
          exact ⟨⟨by simp; omega, fun f hf => by
            rcases List.mem_append.1 hf with q | q
            · exact h1.1.2 f q
            · simp at q; rw [q]; exact ⟨by show (2 : Nat) ≤ _; omega, Nat.zero_le _⟩⟩, h1.2⟩)
        have AT6 : Hid _ := hide (hat6.blk (y := (w6.setCell ⟨w.heap.size + 1, 0, none⟩ (.slice p1 (Lf.length + 1) e1))) hi6 (by simp) (fun g hg _ => by rw [set_block _ _ (by omega)]))
        have NN6 : Hid _ := hide (And.intro n1 (And.intro n2 (And.intro n3 hi6)))
        rw [List.length_append] at *
        have q0 := D6.out.c 0 _ rfl
        have q1 := D6.out.c 1 _ rfl
        have q2 := D6.out.c 2 _ rfl
        have t0 := D6.out.f 0
        have t1 := D6.out.f 1
        have t2 := D6.out.f 2
        have HE : Hid (DrawnD B w (.returned (.agg #[.slice p1 (Lf.length + 1) e1, .slice a2 Sf.length c2, .slice a3 Of.length c3])) ((((w6.setCell ⟨w.heap.size + 1, 0, none⟩ (.slice p1 (Lf.length + 1) e1)).setCell ⟨w.heap.size, 0, none⟩ (.slice p1 (Lf.length + 1) e1)).setCell ⟨w.heap.size, 1, none⟩ (.slice a2 Sf.length c2)).setCell ⟨w.heap.size, 2, none⟩ (.slice a3 Of.length c3))) := hide (by have h9 := drawn_end hlt (A6.out.mono_hi (p := ⟨w.heap.size + 1, 0, none⟩) (Nat.le_succ _) _) (P6.out.set_hi (show B < w.heap.size + 1 by omega) _) AT6.out SM6.out NN6.out.1 NN6.out.2.1 NN6.out.2.2.1 NN6.out.2.2.2; rwa [List.length_append] at h9)
        have HS : Hid (∃ Y, ((((w6.setCell ⟨w.heap.size + 1, 0, none⟩ (.slice p1 (Lf.length + 1) e1)).setCell ⟨w.heap.size, 0, none⟩ (.slice p1 (Lf.length + 1) e1)).setCell ⟨w.heap.size, 1, none⟩ (.slice a2 Sf.length c2)).setCell ⟨w.heap.size, 2, none⟩ (.slice a3 Of.length c3)) = Y ∧ Blk w.heap.size [.slice p1 (Lf.length + 1) e1, .slice a2 Sf.length c2, .slice a3 Of.length c3] Y) := hide ⟨_, rfl, (((K6.out.other 0 (.slice p1 (Lf.length + 1) e1) (show w.heap.size + 1 ≠ w.heap.size by omega)).set 0 (.slice p1 (Lf.length + 1) e1) (by simp)).set 1 (.slice a2 Sf.length c2) (by simp)).set 2 (.slice a3 Of.length c3) (by simp)⟩
        have g0 := (K6.out).c 0 _ rfl
        have g1 := (K6.out).c 1 _ rfl
        have g2 := (K6.out).c 2 _ rfl
        have f0 := (K6.out).f 0
        have f1 := (K6.out).f 1
        have f2 := (K6.out).f 2
        clear ho6 hg6 hli bA RA R6 hrow hat6 n1 n2 n3 hi6 y0 y1 y2 d0 d1 d2
        go_wp2
        obtain ⟨Y, hY, kY⟩ := HS.out
        rw [hY] at HE ⊢
        have z0 := kY.c 0 _ rfl
        have z1 := kY.c 1 _ rfl
        have z2 := kY.c 2 _ rfl
        exact bodyPost_ret (v := .agg #[.slice p1 (Lf.length + 1) e1, .slice a2 Sf.length c2, .slice a3 Of.length c3]) (by simp [results, Tryz.results12, go_sem, z0, z1, z2]) rfl HE.out
      · have c39' : (r == 39) = false := by simpa using c39
        clear c39
        by_cases c38 : r = 38
        · subst c38
          have hln : ¬ (0 : Int) < (Of.length : Int) ∨ (0 : Int) < (Of.length : Int) := by omega
          by_cases hO : 0 < Of.length
          · have hO' : (0 : Int) < (Of.length : Int) := by omega
            obtain ⟨b3, off3, rfl, hb3, -⟩ := dp_row HAT.out.r3 0 hO
            have hc3 : Of.length ≤ c3 := own_cap HRR.out.r3
            have hc3' : (Of.length : Int) ≤ (c3 : Int) := by omega
            have ho1 : (1 : Int) ≤ (Of.length : Int) := by omega
            by_cases hc1 : c3 = 1
            · subst hc1
              have HE : Hid (DrawnD B w (.returned (.agg #[.slice a1 Lf.length c1, .slice a2 Sf.length c2, .slice (some ⟨b3, off3, none⟩) 0 0])) ((((w2.setCell ⟨w.heap.size + 1, 2, none⟩ (.slice (some ⟨b3, off3, none⟩) 0 0)).setCell ⟨w.heap.size, 0, none⟩ (.slice a1 Lf.length c1)).setCell ⟨w.heap.size, 1, none⟩ (.slice a2 Sf.length c2)).setCell ⟨w.heap.size, 2, none⟩ (.slice (some ⟨b3, off3, none⟩) 0 0))) := hide (by
                have h9 := drawn_end hlt (x := (w2.setCell ⟨w.heap.size + 1, 2, none⟩ (.slice (some ⟨b3, off3, none⟩) 0 0))) (O := Of.tail) (a3 := some ⟨b3, off3, none⟩) (c3 := 0) (HI2.out.ap.mono_hi (p := ⟨w.heap.size + 1, 2, none⟩) (Nat.le_succ _) _) (HI2.out.rd.set_hi (show B < w.heap.size + 1 by omega) _) (DkAt.blk (m := w.heap.size + 2) (x := w2) ⟨HAT.out.r1, HAT.out.r2, RowAt.nil2 (by simp; omega)⟩ (fun ad q => by
                  rcases q with q | q | q
                  · exact HHI.out ad (.inl q)
                  · exact HHI.out ad (.inr (.inl q))
                  · simp only [Option.some.injEq] at q
                    rw [← q]; exact HHI.out ⟨b3, off3, none⟩ (.inr (.inr rfl))) (by simp) (fun g hg _ => by rw [set_block _ _ (by omega)])) (smD_tail (smD_of HDK.out)) HC.out.1 HC.out.2.1 (fun q => by cases q) (fun ad q => by
                  rcases q with q | q | q
                  · exact HHI.out ad (.inl q)
                  · exact HHI.out ad (.inr (.inl q))
                  · simp only [Option.some.injEq] at q
                    rw [← q]; exact HHI.out ⟨b3, off3, none⟩ (.inr (.inr rfl)))
                rwa [List.length_tail, show Of.length - 1 = 0 by omega] at h9)
              have HS : Hid (∃ Y, ((((w2.setCell ⟨w.heap.size + 1, 2, none⟩ (.slice (some ⟨b3, off3, none⟩) 0 0)).setCell ⟨w.heap.size, 0, none⟩ (.slice a1 Lf.length c1)).setCell ⟨w.heap.size, 1, none⟩ (.slice a2 Sf.length c2)).setCell ⟨w.heap.size, 2, none⟩ (.slice (some ⟨b3, off3, none⟩) 0 0)) = Y ∧ Blk w.heap.size [.slice a1 Lf.length c1, .slice a2 Sf.length c2, .slice (some ⟨b3, off3, none⟩) 0 0] Y) := hide ⟨_, rfl, (((HI2.out.res.other 2 (.slice (some ⟨b3, off3, none⟩) 0 0) (show w.heap.size + 1 ≠ w.heap.size by omega)).set 0 (.slice a1 Lf.length c1) (by simp)).set 1 (.slice a2 Sf.length c2) (by simp)).set 2 (.slice (some ⟨b3, off3, none⟩) 0 0) (by simp)⟩
              have g0 := (HI2.out.res).c 0 _ rfl
              have g1 := (HI2.out.res).c 1 _ rfl
              have g2 := (HI2.out.res).c 2 _ rfl
              have f0 := (HI2.out.res).f 0
              have f1 := (HI2.out.res).f 1
              have f2 := (HI2.out.res).f 2
              go_wp2
              obtain ⟨Y, hY, kY⟩ := HS.out
              rw [hY] at HE ⊢
              have z0 := kY.c 0 _ rfl
              have z1 := kY.c 1 _ rfl
              have z2 := kY.c 2 _ rfl
              exact bodyPost_ret (v := .agg #[.slice a1 Lf.length c1, .slice a2 Sf.length c2, .slice (some ⟨b3, off3, none⟩) 0 0]) (by simp [results, Tryz.results12, go_sem, z0, z1, z2]) rfl HE.out
            · have hc2 : ¬ c3 - 1 = 0 := by omega
              have HE : Hid (DrawnD B w (.returned (.agg #[.slice a1 Lf.length c1, .slice a2 Sf.length c2, .slice (some ⟨b3, off3 + 4, none⟩) (Of.length - 1) (c3 - 1)])) ((((w2.setCell ⟨w.heap.size + 1, 2, none⟩ (.slice (some ⟨b3, off3 + 4, none⟩) (Of.length - 1) (c3 - 1))).setCell ⟨w.heap.size, 0, none⟩ (.slice a1 Lf.length c1)).setCell ⟨w.heap.size, 1, none⟩ (.slice a2 Sf.length c2)).setCell ⟨w.heap.size, 2, none⟩ (.slice (some ⟨b3, off3 + 4, none⟩) (Of.length - 1) (c3 - 1)))) := hide (by
                have h9 := drawn_end hlt (x := (w2.setCell ⟨w.heap.size + 1, 2, none⟩ (.slice (some ⟨b3, off3 + 4, none⟩) (Of.length - 1) (c3 - 1)))) (O := Of.tail) (a3 := some ⟨b3, off3 + 4, none⟩) (c3 := (c3 - 1)) (HI2.out.ap.mono_hi (p := ⟨w.heap.size + 1, 2, none⟩) (Nat.le_succ _) _) (HI2.out.rd.set_hi (show B < w.heap.size + 1 by omega) _) (DkAt.blk (m := w.heap.size + 2) (x := w2) ⟨HAT.out.r1, HAT.out.r2, row_tail HAT.out.r3⟩ (fun ad q => by
                  rcases q with q | q | q
                  · exact HHI.out ad (.inl q)
                  · exact HHI.out ad (.inr (.inl q))
                  · simp only [Option.some.injEq] at q
                    rw [← q]; exact HHI.out ⟨b3, off3, none⟩ (.inr (.inr rfl))) (by simp) (fun g hg _ => by rw [set_block _ _ (by omega)])) (smD_tail (smD_of HDK.out)) HC.out.1 HC.out.2.1 (fun q => by cases q) (fun ad q => by
                  rcases q with q | q | q
                  · exact HHI.out ad (.inl q)
                  · exact HHI.out ad (.inr (.inl q))
                  · simp only [Option.some.injEq] at q
                    rw [← q]; exact HHI.out ⟨b3, off3, none⟩ (.inr (.inr rfl)))
                rwa [List.length_tail] at h9)
              have HS : Hid (∃ Y, ((((w2.setCell ⟨w.heap.size + 1, 2, none⟩ (.slice (some ⟨b3, off3 + 4, none⟩) (Of.length - 1) (c3 - 1))).setCell ⟨w.heap.size, 0, none⟩ (.slice a1 Lf.length c1)).setCell ⟨w.heap.size, 1, none⟩ (.slice a2 Sf.length c2)).setCell ⟨w.heap.size, 2, none⟩ (.slice (some ⟨b3, off3 + 4, none⟩) (Of.length - 1) (c3 - 1))) = Y ∧ Blk w.heap.size [.slice a1 Lf.length c1, .slice a2 Sf.length c2, .slice (some ⟨b3, off3 + 4, none⟩) (Of.length - 1) (c3 - 1)] Y) := hide ⟨_, rfl, (((HI2.out.res.other 2 (.slice (some ⟨b3, off3 + 4, none⟩) (Of.length - 1) (c3 - 1)) (show w.heap.size + 1 ≠ w.heap.size by omega)).set 0 (.slice a1 Lf.length c1) (by simp)).set 1 (.slice a2 Sf.length c2) (by simp)).set 2 (.slice (some ⟨b3, off3 + 4, none⟩) (Of.length - 1) (c3 - 1)) (by simp)⟩
              have g0 := (HI2.out.res).c 0 _ rfl
              have g1 := (HI2.out.res).c 1 _ rfl
              have g2 := (HI2.out.res).c 2 _ rfl
              have f0 := (HI2.out.res).f 0
              have f1 := (HI2.out.res).f 1
              have f2 := (HI2.out.res).f 2
              go_wp2
              obtain ⟨Y, hY, kY⟩ := HS.out
              rw [hY] at HE ⊢
              have z0 := kY.c 0 _ rfl
              have z1 := kY.c 1 _ rfl
              have z2 := kY.c 2 _ rfl
              exact bodyPost_ret (v := .agg #[.slice a1 Lf.length c1, .slice a2 Sf.length c2, .slice (some ⟨b3, off3 + 4, none⟩) (Of.length - 1) (c3 - 1)]) (by simp [results, Tryz.results12, go_sem, z0, z1, z2]) rfl HE.out
          · have hO' : ¬ (0 : Int) < (Of.length : Int) := by omega
            have HE : Hid (DrawnD B w (.returned (.agg #[.slice a1 Lf.length c1, .slice a2 Sf.length c2, .slice a3 Of.length c3])) (((w2.setCell ⟨w.heap.size, 0, none⟩ (.slice a1 Lf.length c1)).setCell ⟨w.heap.size, 1, none⟩ (.slice a2 Sf.length c2)).setCell ⟨w.heap.size, 2, none⟩ (.slice a3 Of.length c3))) := hide (drawn_end hlt HI2.out.ap HI2.out.rd HAT.out (smD_of HDK.out) HC.out.1 HC.out.2.1 HC.out.2.2 (fun ad q => by exact HHI.out ad q))
            have HS : Hid (∃ Y, (((w2.setCell ⟨w.heap.size, 0, none⟩ (.slice a1 Lf.length c1)).setCell ⟨w.heap.size, 1, none⟩ (.slice a2 Sf.length c2)).setCell ⟨w.heap.size, 2, none⟩ (.slice a3 Of.length c3)) = Y ∧ Blk w.heap.size [.slice a1 Lf.length c1, .slice a2 Sf.length c2, .slice a3 Of.length c3] Y) := hide ⟨_, rfl, (((HI2.out.res).set 0 (.slice a1 Lf.length c1) (by simp)).set 1 (.slice a2 Sf.length c2) (by simp)).set 2 (.slice a3 Of.length c3) (by simp)⟩
            have g0 := (HI2.out.res).c 0 _ rfl
            have g1 := (HI2.out.res).c 1 _ rfl
            have g2 := (HI2.out.res).c 2 _ rfl
            have f0 := (HI2.out.res).f 0
            have f1 := (HI2.out.res).f 1
            have f2 := (HI2.out.res).f 2
            go_wp2
            obtain ⟨Y, hY, kY⟩ := HS.out
            rw [hY] at HE ⊢
            have z0 := kY.c 0 _ rfl
            have z1 := kY.c 1 _ rfl
            have z2 := kY.c 2 _ rfl
            exact bodyPost_ret (v := .agg #[.slice a1 Lf.length c1, .slice a2 Sf.length c2, .slice a3 Of.length c3]) (by simp [results, Tryz.results12, go_sem, z0, z1, z2]) rfl HE.out
        · have c38' : (r == 38) = false := by simpa using c38
          clear c38
          by_cases c37 : r = 37
          · subst c37
            go_wp2_with fail
            refine (below_any B 9 _ HI2.out.rd (by omega)).mono ?_
            rintro e w3 ⟨⟨q, q0, q2, q1, rfl⟩, HR3, HA3⟩
            obtain ⟨m, rfl⟩ : ∃ m : Nat, q = (m : Int) := ⟨q.toNat, by omega⟩
            have hm9 : m < 9 := by omega
            obtain ⟨n9, hn9⟩ : ∃ n9 : Nat, n9 + m = 200000 := ⟨200000 - m, by omega⟩
            obtain ⟨j0, hj0, hy0, hy1, hy2⟩ := info_parts infoB
            go_wp2_with (first | (at_make; refine Shut2.mk ?_) | fail)
            refine Shut2.mk' ?_
            refine wpList_make_row _ rfl _ _ 22 rfl 5 j0 _ huB hj0 hy0 hy1 rfl .i64 .i64 n9 (by show Value.int .i64 (200000 - (m : Int)) = Value.int .i64 (n9 : Int); congr 1; omega) (by show Value.int .i64 (200000 - (m : Int)) = Value.int .i64 (n9 : Int); congr 1; omega) (by rw [hy2]; omega) (by omega) ?_
            have hcv := big_str w3 n9
            obtain ⟨big, hbig⟩ : ∃ big, big = strOfNums (List.replicate n9 0) := ⟨_, rfl⟩
            rw [← hbig] at hcv
            have HBG : Hid (big.size ≤ 200000) := hide (by rw [hbig, strOfNums_size]; simp; omega)
            clear hbig
            obtain ⟨wm, hwm⟩ : ∃ wm, wm = w3.alloc (.cells (madeCells #[.int .u8 0] n9) 5) := ⟨_, rfl⟩
            rw [← hwm] at hcv ⊢
            have bm : Below w3.heap.size w3 wm := by rw [hwm]; exact below_alloc (Below.refl _ _) _
            have KDm := (HD.out.apart HA3 (by omega)).below bm
            have KRm := (HI2.out.res.apart HA3 (by omega)).below bm
            have HKD : Hid _ := hide KDm
            have HKR : Hid _ := hide KRm
            have HAP : Hid _ := hide ((HI2.out.ap.trans HA3).below bm)
            have HRD : Hid _ := hide (HR3.on bm)
            have q0 := KDm.c 0 _ rfl
            have q1 := KDm.c 1 _ rfl
            have q2 := KDm.c 2 _ rfl
            have t0 := KDm.f 0
            have t1 := KDm.f 1
            have t2 := KDm.f 2
            have lD := KDm.lt
            clear hwm bm KDm KRm HA3 HR3 y0 y1 y2 d0 d1 d2
            go_upto_region 18 with fail
            obtain ⟨wz, hwz⟩ : ∃ wz, wz = ((((wm.setCell ⟨w.heap.size + 1, 0, none⟩ (.slice (some ⟨wm.heap.size, 0, none⟩) 1 1)).setCell ⟨w.heap.size + 1, 1, none⟩ (.slice none 0 0)).setCell ⟨w.heap.size + 1, 2, none⟩ (.slice none 0 0)).alloc (.cells #[.string ⟨#[98, 105, 103]⟩, .string big] 71)) := ⟨_, rfl⟩
            rw [← hwz]
            have LZ : Hid (w.heap.size + 2 ≤ wm.heap.size) := hide lD
            have KDz : Hid (Blk (w.heap.size + 1) [.slice (some ⟨wm.heap.size, 0, none⟩) 1 1, .slice none 0 0, .slice none 0 0] wz) := hide (by rw [hwz]; exact (((HKD.out.set 0 _ (by simp)).set 1 _ (by simp)).set 2 _ (by simp)).alloc _)
            have KRz : Hid (Blk w.heap.size [.slice none 0 0, .slice none 0 0, .slice none 0 0] wz) := hide (by rw [hwz]; exact (((HKR.out.other 0 _ (by omega)).other 1 _ (by omega)).other 2 _ (by omega)).alloc _)
            have KBz : Hid (Blk wm.heap.size [.string ⟨#[98, 105, 103]⟩, .string big] wz) := hide (by rw [hwz]; simpa using Blk.new (w := ((wm.setCell ⟨w.heap.size + 1, 0, none⟩ (.slice (some ⟨wm.heap.size, 0, none⟩) 1 1)).setCell ⟨w.heap.size + 1, 1, none⟩ (.slice none 0 0)).setCell ⟨w.heap.size + 1, 2, none⟩ (.slice none 0 0)) (cur := [.string ⟨#[98, 105, 103]⟩, .string big]) (T := 71))
            have APz : Hid (Apart B w wz) := hide (by rw [hwz]; exact (((HAP.out.mono_hi (p := ⟨w.heap.size + 1, 0, none⟩) (Nat.le_succ _) _).mono_hi (p := ⟨w.heap.size + 1, 1, none⟩) (Nat.le_succ _) _).mono_hi (p := ⟨w.heap.size + 1, 2, none⟩) (Nat.le_succ _) _).below (below_alloc (Below.refl _ _) _))
            have RDz : Hid (Rd B wz) := hide (by rw [hwz]; exact (((HRD.out.set_hi (show B < w.heap.size + 1 by omega) _).set_hi (show B < w.heap.size + 1 by omega) _).set_hi (show B < w.heap.size + 1 by omega) _).on (below_alloc (Below.refl _ _) _))
            have q0 := KDz.out.c 0 _ rfl
            have q1 := KDz.out.c 1 _ rfl
            have q2 := KDz.out.c 2 _ rfl
            have t0 := KDz.out.f 0
            have t1 := KDz.out.f 1
            have t2 := KDz.out.f 2
            clear hwz
            generalize wm.heap.size = gb at *
            have HE : Hid (DrawnD B w (.returned (.agg #[.slice (some ⟨gb, 0, none⟩) 1 1, .slice (some ⟨gb, 0, none⟩) 1 1, .slice none 0 0])) ((((wz.setCell ⟨w.heap.size + 1, 1, none⟩ (.slice (some ⟨gb, 0, none⟩) 1 1)).setCell ⟨w.heap.size, 0, none⟩ (.slice (some ⟨gb, 0, none⟩) 1 1)).setCell ⟨w.heap.size, 1, none⟩ (.slice (some ⟨gb, 0, none⟩) 1 1)).setCell ⟨w.heap.size, 2, none⟩ (.slice none 0 0))) := hide (by
              have hrow : RowAt 2 flCells (wz.setCell ⟨w.heap.size + 1, 1, none⟩ (.slice (some ⟨gb, 0, none⟩) 1 1)) (some ⟨gb, 0, none⟩) [⟨⟨#[98, 105, 103]⟩, big⟩] := fun i hi => by
                have hi0 : i = 0 := by simp at hi; omega
                subst hi0
                have kb := KBz.out.other 1 (.slice (some ⟨gb, 0, none⟩) 1 1) (show w.heap.size + 1 ≠ gb by have := LZ.out; omega)
                refine ⟨gb, 0, rfl, kb.lt, fun r v hv => ?_⟩
                have := kb.c r v hv
                simpa using this
              exact drawn_end (L := [⟨⟨#[98, 105, 103]⟩, big⟩]) (S := [⟨⟨#[98, 105, 103]⟩, big⟩]) (O := []) hlt (APz.out.mono_hi (p := ⟨w.heap.size + 1, 1, none⟩) (Nat.le_succ _) _) (RDz.out.set_hi (show B < w.heap.size + 1 by omega) _) ⟨hrow, hrow, RowAt.nil⟩ (by
                have hs : Sms SmF1 [⟨⟨#[98, 105, 103]⟩, big⟩] := ⟨by simp, fun f hf => by simp at hf; rw [hf]; exact ⟨by show (3 : Nat) ≤ _; omega, by have := HBG.out; simp only; omega⟩⟩
                exact ⟨hs, hs, by simp, fun o ho => by simp at ho⟩) (fun q => by cases q) (fun q => by cases q) (fun _ => rfl) (fun ad q => by
                rcases q with q | q | q
                · simp only [Option.some.injEq] at q; rw [← q]; exact LZ.out
                · simp only [Option.some.injEq] at q; rw [← q]; exact LZ.out
                · cases q))
            have HS : Hid (∃ Y, ((((wz.setCell ⟨w.heap.size + 1, 1, none⟩ (.slice (some ⟨gb, 0, none⟩) 1 1)).setCell ⟨w.heap.size, 0, none⟩ (.slice (some ⟨gb, 0, none⟩) 1 1)).setCell ⟨w.heap.size, 1, none⟩ (.slice (some ⟨gb, 0, none⟩) 1 1)).setCell ⟨w.heap.size, 2, none⟩ (.slice none 0 0)) = Y ∧ Blk w.heap.size [.slice (some ⟨gb, 0, none⟩) 1 1, .slice (some ⟨gb, 0, none⟩) 1 1, .slice none 0 0] Y) := hide ⟨_, rfl, (((KRz.out.other 1 (.slice (some ⟨gb, 0, none⟩) 1 1) (show w.heap.size + 1 ≠ w.heap.size by omega)).set 0 (.slice (some ⟨gb, 0, none⟩) 1 1) (by simp)).set 1 (.slice (some ⟨gb, 0, none⟩) 1 1) (by simp)).set 2 (.slice none 0 0) (by simp)⟩
            have g0 := (KRz.out).c 0 _ rfl
            have g1 := (KRz.out).c 1 _ rfl
            have g2 := (KRz.out).c 2 _ rfl
            have f0 := (KRz.out).f 0
            have f1 := (KRz.out).f 1
            have f2 := (KRz.out).f 2
            go_wp2
            obtain ⟨Y, hY, kY⟩ := HS.out
            rw [hY] at HE ⊢
            have z0 := kY.c 0 _ rfl
            have z1 := kY.c 1 _ rfl
            have z2 := kY.c 2 _ rfl
            exact bodyPost_ret (v := .agg #[.slice (some ⟨gb, 0, none⟩) 1 1, .slice (some ⟨gb, 0, none⟩) 1 1, .slice none 0 0]) (by simp [results, Tryz.results12, go_sem, z0, z1, z2]) rfl HE.out
          · have c37' : (r == 37) = false := by simpa using c37
            clear c37
            have HE : Hid (DrawnD B w (.returned (.agg #[.slice a1 Lf.length c1, .slice a2 Sf.length c2, .slice a3 Of.length c3])) (((w2.setCell ⟨w.heap.size, 0, none⟩ (.slice a1 Lf.length c1)).setCell ⟨w.heap.size, 1, none⟩ (.slice a2 Sf.length c2)).setCell ⟨w.heap.size, 2, none⟩ (.slice a3 Of.length c3))) := hide (drawn_end hlt HI2.out.ap HI2.out.rd HAT.out (smD_of HDK.out) HC.out.1 HC.out.2.1 HC.out.2.2 (fun ad q => by exact HHI.out ad q))
            have HS : Hid (∃ Y, (((w2.setCell ⟨w.heap.size, 0, none⟩ (.slice a1 Lf.length c1)).setCell ⟨w.heap.size, 1, none⟩ (.slice a2 Sf.length c2)).setCell ⟨w.heap.size, 2, none⟩ (.slice a3 Of.length c3)) = Y ∧ Blk w.heap.size [.slice a1 Lf.length c1, .slice a2 Sf.length c2, .slice a3 Of.length c3] Y) := hide ⟨_, rfl, (((HI2.out.res).set 0 (.slice a1 Lf.length c1) (by simp)).set 1 (.slice a2 Sf.length c2) (by simp)).set 2 (.slice a3 Of.length c3) (by simp)⟩
            have g0 := (HI2.out.res).c 0 _ rfl
            have g1 := (HI2.out.res).c 1 _ rfl
            have g2 := (HI2.out.res).c 2 _ rfl
            have f0 := (HI2.out.res).f 0
            have f1 := (HI2.out.res).f 1
            have f2 := (HI2.out.res).f 2
            go_wp2
            obtain ⟨Y, hY, kY⟩ := HS.out
            rw [hY] at HE ⊢
            have z0 := kY.c 0 _ rfl
            have z1 := kY.c 1 _ rfl
            have z2 := kY.c 2 _ rfl
            exact bodyPost_ret (v := .agg #[.slice a1 Lf.length c1, .slice a2 Sf.length c2, .slice a3 Of.length c3]) (by simp [results, Tryz.results12, go_sem, z0, z1, z2]) rfl HE.out
end Go.Proofs.YtiilkkdbifhojaaGreat
/- The laws' helpers big and sameFiles, the drawn disk of a code; what Crash gives where all is kept, and where nothing is. -/
namespace Go.Proofs.YtiilkkdbifhojaaGreat
open Go.ChangeShapes Go.WideShapes Go.ChangeAt Go.RowKit
set_option linter.unusedVariables false
set_option maxRecDepth 100000
theorem big_any (a : Option Addr) (len cap : Nat) (w : World) : Calls Tryz.prog 4 #[.slice a len cap] w fun e w' => e = .returned (.bool (decide (1048576 < (len : Int)))) ∧ w' = w := by
  go_enter Tryz.func4, Tryz.ntmps4
  go_wp2
  go_ret
  exact ⟨rfl, rfl⟩
/-- a disk that was drawn out of a code -/
def DrawnC (w : World) (e : Ending) (w' : World) : Prop := Below w.heap.size w w' ∧ ∃ (a1 a2 a3 : Option Addr) (c1 c2 c3 : Nat) (L S : List Fl) (O : List Dp), e = .returned (.agg #[.slice a1 L.length c1, .slice a2 S.length c2, .slice a3 O.length c3]) ∧ DkAt w' a1 a2 a3 L S O ∧ SmD L S O ∧ (a1 = none → c1 = 0) ∧ (a2 = none → c2 = 0) ∧ (a3 = none → c3 = 0)
theorem goL_run : ∀ (O : List Dp) (S L : List Fl), runL S O = some L → goL S O = L
  | [], S, L, h => by simpa [runL, goL] using h
  | o :: O, S, L, h => by
    simp only [runL] at h
    cases e : stepL S o with
    | none => rw [e] at h; cases h
    | some l' =>
      rw [e] at h
      have e2 : l' = (doL S o).1 := by
        unfold stepL at e
        split at e
        · simpa using e.symm
        · cases e
      have := goL_run O l' L h
      simpa [goL, ← e2] using this
theorem goL_disk {L S : List Fl} {O : List Dp} (h : diskB ⟨L, S, O⟩ = true) : goL S O = L := by
  have hr : isRun (runL S O) L = true := by
    simp only [diskB, Bool.and_eq_true] at h
    exact h.2
  cases e : runL S O with
  | none => rw [e] at hr; cases hr
  | some l =>
    rw [e] at hr
    simp only [isRun, decide_eq_true_eq] at hr
    exact goL_run O S L (by rw [e, hr])
/-- all places -/
def allK (n : Nat) : List Int := (List.range n).map fun (i : Nat) => (i : Int)
theorem allK_len (n : Nat) : (allK n).length = n := by simp [allK]
theorem allK_at (n k : Nat) (h : k < (allK n).length) : (allK n)[k] = (k : Int) := by simp [allK]
theorem allK_next (n k : Nat) (h : k < n) : (allK n).take (k + 1) = (allK n).take k ++ [(k : Int)] := by
  rw [List.take_add_one, List.getElem?_eq_getElem (by rw [allK_len]; exact h), allK_at]
  rfl
theorem allTo_all {f : Nat → Bool} {n : Nat} (h : ∀ k, k < n → f k = true) : allTo f n = true := by
  induction n with
  | zero => rfl
  | succ n ih => simp only [allTo, Bool.and_eq_true]; exact ⟨ih (fun k hk => h k (by omega)), h n (by omega)⟩
theorem allK_places (n : Nat) : placesB (allK n) n = true := by
  unfold placesB
  refine allTo_all (fun k hk => ?_)
  have hk' : k < n := by rw [allK_len] at hk; exact hk
  cases k with
  | zero => rw [pl_zero hk, allK_at]; simp [inB]; omega
  | succ m => rw [pl_succ hk, allK_at, allK_at]; simp [inB]; omega
theorem crs_all {L S : List Fl} {O : List Dp} (h : diskB ⟨L, S, O⟩ = true) : crsO O (allK O.length) 1099511627776 = O := by
  apply List.ext_getElem?
  intro j
  rcases Nat.lt_or_ge j O.length with hj | hj
  · have hk : j < (allK O.length).length := by rw [allK_len]; exact hj
    rw [crs_at hk (allK_at _ _ hk) hj, List.getElem?_eq_getElem hj]
    have hs := (disk_small h O[j] (List.getElem_mem hj)).2
    split
    · rw [tornO, if_neg (fun z => by have := z.2; omega)]
    · rfl
  · rw [List.getElem?_eq_none (by rw [crs_len, allK_len]; exact hj), List.getElem?_eq_none hj]
theorem crsB_all (L S : List Fl) (O : List Dp) : crsB L S O (allK O.length) 1099511627776 = diskB ⟨L, S, O⟩ ∧ crsL L S O (allK O.length) 1099511627776 = (bif diskB ⟨L, S, O⟩ then L else []) := by
  cases h : diskB ⟨L, S, O⟩ with
  | false =>
    have e : crsB L S O (allK O.length) 1099511627776 = false := by simp [crsB, h]
    exact ⟨e, by rw [crs_no e]; rfl⟩
  | true =>
    have e : crsB L S O (allK O.length) 1099511627776 = true := by
      simp only [crsB, h, allK_places, crs_all h, goL_disk h, (diskB_parts h).1, Bool.and_true]
      decide
    exact ⟨e, by simp [crsL, e, crs_all h, goL_disk h]⟩
theorem crsB_nil (L S : List Fl) (O : List Dp) : crsB L S O [] 0 = diskB ⟨L, S, O⟩ ∧ crsL L S O [] 0 = (bif diskB ⟨L, S, O⟩ then S else []) := by
  cases h : diskB ⟨L, S, O⟩ with
  | false =>
    have e : crsB L S O [] 0 = false := by simp [crsB, h]
    exact ⟨e, by rw [crs_no e]; rfl⟩
  | true =>
    have e : crsB L S O [] 0 = true := by
      simp [crsB, h, crsO, goL, (diskB_parts h).2.1, placesB, allTo]
    exact ⟨e, by simp [crsL, e, crsO, goL]⟩
end Go.Proofs.YtiilkkdbifhojaaGreat
