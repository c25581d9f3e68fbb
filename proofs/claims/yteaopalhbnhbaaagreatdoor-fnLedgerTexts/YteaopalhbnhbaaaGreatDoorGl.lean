/- The reader of the drawn inputs: what it keeps, and what its next byte is. -/
import Derived.Test.YteaopalhbnhbaaaGreatDoorGa
import Derived.Test.YteaopalhbnhbaaaGreatDoorPl
import Derived.Test.YteaopalhbnhbaaaGreatDoorGb
import Derived.Deep.QuietTactic
import Derived.BigQuiet
namespace Go.Proofs.YteaopalhbnhbaaaGreatDoor
open Go.ChangeShapes Go.WideShapes Go.ChangeAt Go.RowKit
set_option linter.unusedVariables false
theorem Kept.drewN {a w : World} (h : Kept a w) : ∀ q, Kept a (w.drewN q)
  | 0 => h
  | q + 1 => (Kept.drewN h q).drew
/-- but for block B nothing that was there has turned -/
structure Aprt (B : Nat) (w w' : World) : Prop where
  os : w'.os = w.os
  tape : w'.tape = w.tape
  output : w'.output = w.output
  size : w.heap.size ≤ w'.heap.size
  block : ∀ k, k < w.heap.size → k ≠ B → w'.heap[k]? = w.heap[k]?
theorem Aprt.refl (B : Nat) (w : World) : Aprt B w w := ⟨rfl, rfl, rfl, Nat.le_refl _, fun _ _ _ => rfl⟩
theorem Aprt.trans {B : Nat} {a b c : World} (h : Aprt B a b) (k : Aprt B b c) : Aprt B a c :=
  ⟨k.os.trans h.os, k.tape.trans h.tape, k.output.trans h.output, Nat.le_trans h.size k.size, fun i hi hB => (k.block i (Nat.lt_of_lt_of_le hi h.size) hB).trans (h.block i hi hB)⟩
theorem Kept.to_apart {B : Nat} {w w' : World} (h : Kept w w') : Aprt B w w' :=
  ⟨h.below.os, h.below.tape, h.below.output, h.below.size, fun k hk _ => h.below.block k hk⟩
theorem Aprt.setCell {B : Nat} {a w : World} (h : Aprt B a w) (o : Nat) (v : Value) : Aprt B a (w.setCell ⟨B, o, none⟩ v) :=
  h.trans ⟨rfl, rfl, rfl, by simp, fun k hk hB => Below.heap_setCell _ _ _ _ hB⟩
theorem Aprt.drewN {B : Nat} {a w : World} (h : Aprt B a w) (q : Nat) : Aprt B a (w.drewN q) := h.trans ((Kept.refl w).drewN q).to_apart
theorem Aprt.cell {B : Nat} {w w' : World} (h : Aprt B w w') {b o : Nat} (hb : b < w.heap.size) (hB : b ≠ B) : w'.cell? ⟨b, o, none⟩ = w.cell? ⟨b, o, none⟩ :=
  World.cell?_of_block (w := w) (h.block b hb hB)
theorem below_apart {W w w' : World} {B : Nat} (h : Below W.heap.size W w) (hB : W.heap.size ≤ B) (k : Aprt B w w') : Below W.heap.size W w' := by
  have hs := h.size
  exact ⟨k.os.trans h.os, k.tape.trans h.tape, k.output.trans h.output, by have := k.size; omega, fun i hi => (k.block i (by omega) (by omega)).trans (h.block i hi)⟩
/-- the reader in block B: a slice of bytes, and how many were read -/
structure Rd (B : Nat) (w : World) : Prop where
  ex : ∃ (a : Option Addr) (len cap p : Nat), w.cell? ⟨B, 0, none⟩ = some (.slice a len cap) ∧ w.cell? ⟨B, 1, none⟩ = some (.int .i64 (p : Int)) ∧ p ≤ len ∧ len ≤ 2 ^ 63 - 1 ∧ w.frozen? ⟨B, 1, none⟩ = false ∧ B < w.heap.size ∧
    ∀ i, i < len → ∃ b off, a = some ⟨b, off, none⟩ ∧ b < B ∧ ∃ z : Int, 0 ≤ z ∧ z ≤ 255 ∧ w.cell? ⟨b, off + i, none⟩ = some (.int .u8 z)
theorem Rd.lt {B : Nat} {w : World} (h : Rd B w) : B < w.heap.size := by obtain ⟨_, _, _, _, _, _, _, _, _, h5, _⟩ := h.ex; exact h5
theorem Rd.below {B : Nat} {w w' : World} (h : Rd B w) (k : Below (B + 1) w w') : Rd B w' := by
  obtain ⟨a, len, cap, p, h0, h1, h2, h3, h4, h5, h6⟩ := h.ex
  have hs := k.size
  refine ⟨a, len, cap, p, by rw [k.cell (by simp)]; exact h0, by rw [k.cell (by simp)]; exact h1, h2, h3, by rw [k.frozen (by simp)]; exact h4, by omega, fun i hi => ?_⟩
  obtain ⟨b, off, e, hb, z, z0, z1, hz⟩ := h6 i hi
  exact ⟨b, off, e, hb, z, z0, z1, by rw [k.cell (by simp; omega)]; exact hz⟩
theorem Rd.kept {B : Nat} {w w' : World} (h : Rd B w) (k : Kept w w') : Rd B w' := h.below (k.below.mono h.lt)
theorem rd_store {B : Nat} {w : World} {a : Option Addr} {len cap p : Nat} (h0 : w.cell? ⟨B, 0, none⟩ = some (.slice a len cap)) (h1 : w.cell? ⟨B, 1, none⟩ = some (.int .i64 (p : Int))) (hp : p < len) (hm : len ≤ 2 ^ 63 - 1) (hf : w.frozen? ⟨B, 1, none⟩ = false) (hB : B < w.heap.size)
    (hc : ∀ i, i < len → ∃ b off, a = some ⟨b, off, none⟩ ∧ b < B ∧ ∃ z : Int, 0 ≤ z ∧ z ≤ 255 ∧ w.cell? ⟨b, off + i, none⟩ = some (.int .u8 z)) :
    Rd B (w.setCell ⟨B, 1, none⟩ (.int .i64 ((p : Int) + 1))) := by
  refine ⟨a, len, cap, p + 1, by rw [World.cell?_setCell_other _ _ _ _ (by simp)]; exact h0, by rw [World.cell?_setCell_same _ _ _ h1]; simp, by omega, hm, by rw [World.frozen?_setCell]; exact hf, by simpa using hB, fun i hi => ?_⟩
  obtain ⟨b, off, e, hb, z, z0, z1, hz⟩ := hc i hi
  exact ⟨b, off, e, hb, z, z0, z1, by rw [World.cell?_setCell_other _ _ _ _ (fun e => Nat.ne_of_lt hb (congrArg Addr.block e).symm)]; exact hz⟩
theorem Rd.drewN {B : Nat} {w : World} (h : Rd B w) (q : Nat) : Rd B (w.drewN q) := h.kept ((Kept.refl w).drewN q)
theorem drewN_setCell (w : World) (a : Addr) (v : Value) : ∀ q, (w.drewN q).setCell a v = (w.setCell a v).drewN q
  | 0 => rfl
  | q + 1 => congrArg World.drew (drewN_setCell w a v q)
theorem emod_le_self {a n : Int} (h0 : 0 ≤ a) (hn : 0 < n) : a % n ≤ a := by
  have h1 := Int.emod_add_mul_ediv a n
  have h2 := Int.mul_nonneg (show 0 ≤ n by omega) (Int.ediv_nonneg h0 (show 0 ≤ n by omega))
  omega
def NextEnd (B : Nat) (w : World) (e : Ending) (w' : World) : Prop := (∃ n : Int, 0 ≤ n ∧ n ≤ 255 ∧ e = .returned (.int .i64 n)) ∧ Rd B w' ∧ Aprt B w w'
set_option maxHeartbeats 1000000 in
theorem next_any (B : Nat) (w : World) (h : Rd B w) : Calls Tryz.prog 84 #[.pointer (some ⟨B, 0, none⟩)] w fun e w' => NextEnd B w e w' := by
  obtain ⟨a, len, cap, p, hc0, hc1, hp, hm, hfz, hB, hcode⟩ := h.ex
  by_cases hlt : p < len
  · obtain ⟨b, off, rfl, hb, z, z0, z1, hz⟩ := hcode p hlt
    have hz2 : ∀ v, (w.setCell ⟨B, 1, none⟩ v).cell? ⟨b, off + p, none⟩ = some (.int .u8 z) := fun v => by rw [World.cell?_setCell_other _ _ _ _ (fun e => Nat.ne_of_lt hb (congrArg Addr.block e).symm)]; exact hz
    have HD : Hid _ := hide (rd_store hc0 hc1 hlt hm hfz hB hcode)
    clear hcode
    have hlt' : (p : Int) < (len : Int) := by omega
    have hd : decide ((len : Int) ≤ (p : Int)) = false := by simp; omega
    go_enter Tryz.func84, Tryz.ntmps84
    go_wp2
    go_quiet (fail)
    go_wp2
    go_quiet (fail)
    go_wp2
    go_ret
    exact ⟨⟨z, z0, z1, rfl⟩, Rd.drewN (by rw [drewN_setCell]; exact HD.out.drewN _) _, (((Aprt.refl B w).drewN _).setCell _ _).drewN _⟩
  · have hge : (len : Int) ≤ (p : Int) := by omega
    clear hcode
    go_enter Tryz.func84, Tryz.ntmps84
    go_wp2
    go_quiet (fail)
    go_wp2
    go_ret
    exact ⟨⟨0, by omega, by omega, rfl⟩, h.drewN _, (Aprt.refl B w).drewN _⟩
def BelowEnd (B : Nat) (n : Int) (w : World) (e : Ending) (w' : World) : Prop := (∃ r : Int, 0 ≤ r ∧ (r < n ∨ r = 0) ∧ r ≤ 65535 ∧ e = .returned (.int .i64 r)) ∧ Rd B w' ∧ Aprt B w w'
set_option maxHeartbeats 1000000 in
theorem below_any (B : Nat) (n : Int) (w : World) (h : Rd B w) (hn : n ≤ 1000000000) : Calls Tryz.prog 49 #[.pointer (some ⟨B, 0, none⟩), .int .i64 n] w fun e w' => BelowEnd B n w e w' := by
  have H : Hid _ := hide h
  clear h
  by_cases h1 : n ≤ 1
  · go_enter Tryz.func49, Tryz.ntmps49
    go_wp2
    go_ret
    exact ⟨⟨0, by omega, by omega, by omega, rfl⟩, H.out, Aprt.refl _ _⟩
  · by_cases h2 : n ≤ 256
    · go_enter Tryz.func49, Tryz.ntmps49
      go_wp2_with fail
      refine (next_any B _ H.out).mono ?_
      rintro e w1 ⟨⟨x, x0, x1, rfl⟩, HR1, HA1⟩
      go_wp2
      go_ret
      exact ⟨⟨x % n, Int.emod_nonneg _ (by omega), .inl (Int.emod_lt_of_pos _ (by omega)), by have := Int.emod_lt_of_pos x (show 0 < n by omega); omega, rfl⟩, HR1, HA1⟩
    · go_enter Tryz.func49, Tryz.ntmps49
      go_wp2_with fail
      refine (next_any B _ H.out).mono ?_
      rintro e w1 ⟨⟨x, x0, x1, rfl⟩, HR1, HA1⟩
      go_wp2_with fail
      refine (next_any B _ HR1).mono ?_
      rintro e w2 ⟨⟨y, y0, y1, rfl⟩, HR2, HA2⟩
      go_wp2
      go_ret
      have hle := emod_le_self (a := x * 256 + y) (n := n) (by omega) (by omega)
      exact ⟨⟨(x * 256 + y) % n, Int.emod_nonneg _ (by omega), .inl (Int.emod_lt_of_pos _ (by omega)), by omega, rfl⟩, HR2, HA1.trans HA2⟩
def OnceRd (B : Nat) (w : World) (e : Ending) (w' : World) : Prop := (∃ b : Bool, e = .returned (.bool b)) ∧ Rd B w' ∧ Aprt B w w'
set_option maxHeartbeats 400000 in
theorem once_any (B : Nat) (n : Int) (w : World) (h : Rd B w) (h0 : 0 ≤ n) (hn : n ≤ 1000000000) : Calls Tryz.prog 86 #[.pointer (some ⟨B, 0, none⟩), .int .i64 n] w fun e w' => OnceRd B w e w' := by
  have H : Hid _ := hide h
  clear h
  go_enter Tryz.func86, Tryz.ntmps86
  go_wp2_with fail
  refine (below_any B n _ H.out hn).mono ?_
  rintro e w1 ⟨⟨r, r0, _, r1, rfl⟩, HR1, HA1⟩
  go_wp2
  go_ret
  exact ⟨⟨_, rfl⟩, HR1, HA1⟩
def WordEnd (B : Nat) (w : World) (e : Ending) (w' : World) : Prop := (∃ x : Int, (Lit.int .u64 x).wf = true ∧ e = .returned (.int .u64 x)) ∧ Rd B w' ∧ Aprt B w w'
set_option maxHeartbeats 1000000 in
theorem word_any (B : Nat) (w : World) (h : Rd B w) : Calls Tryz.prog 107 #[.pointer (some ⟨B, 0, none⟩)] w fun e w' => WordEnd B w e w' := by
  have H : Hid _ := hide h
  clear h
  go_enter Tryz.func107, Tryz.ntmps107
  go_wp2
  go_loopw [3, 4] (fun x i w' => ∃ (k : Nat) (v : Int), k ≤ 8 ∧ i = .int .i64 (k : Int) ∧ x = .int .u64 v ∧ (Lit.int .u64 v).wf = true ∧ Rd B w' ∧ Aprt B w w') (fun x i w' => 8 - (intOf i).toNat)
  case atStart => exact ⟨0, 0, by omega, rfl, rfl, by decide, H.out, Aprt.refl _ _⟩
  case round =>
    obtain ⟨k, v, hk, rfl, rfl, hv, HR, HA⟩ := hrel
    have HV : Hid _ := hide hv
    clear hv
    by_cases h : k < 8
    · have h' : (k : Int) < 8 := by omega
      go_wp2_with fail
      refine (next_any B _ HR).mono ?_
      rintro e w1 ⟨⟨x, x0, x1, rfl⟩, HR1, HA1⟩
      go_wp2
      exact ⟨⟨k + 1, _, by omega, by go_num, rfl, wf_bits _ _ _ _, HR1, HA.trans HA1⟩, by simp [intOf]; omega⟩
    · have h' : ¬ (k : Int) < 8 := by omega
      go_wp2
      go_ret
      exact ⟨⟨_, HV.out, rfl⟩, HR, HA⟩
end Go.Proofs.YteaopalhbnhbaaaGreatDoor
/- The reader's numbers: near, off, amount; and the drawn amount. -/
namespace Go.Proofs.YteaopalhbnhbaaaGreatDoor
open Go.ChangeShapes Go.WideShapes Go.ChangeAt Go.RowKit
set_option linter.unusedVariables false
def NumEnd (B : Nat) (lo hi : Int) (w : World) (e : Ending) (w' : World) : Prop := (∃ r : Int, lo ≤ r ∧ r ≤ hi ∧ e = .returned (.int .i64 r)) ∧ Rd B w' ∧ Aprt B w w'
set_option maxHeartbeats 1000000 in
theorem near_any (B : Nat) (lo hi : Int) (w : World) (h : Rd B w) (h0 : 0 ≤ lo) (h1 : lo ≤ hi) (h2 : hi ≤ 1000000000000) : Calls Tryz.prog 89 #[.pointer (some ⟨B, 0, none⟩), .int .i64 lo, .int .i64 hi] w fun e w' => NumEnd B lo hi w e w' := by
  have H : Hid _ := hide h
  clear h
  have h1' : ¬ hi < lo := by omega
  go_enter Tryz.func89, Tryz.ntmps89
  go_wp2_with fail
  refine (below_any B 8 _ H.out (by omega)).mono ?_
  rintro e w1 ⟨⟨r, r0, _, r1, rfl⟩, HR1, HA1⟩
  by_cases c0 : (r == 0) = true
  · go_wp2
    go_ret
    exact ⟨⟨lo, by omega, by omega, rfl⟩, HR1, HA1⟩
  · have c0' : (r == 0) = false := by simpa using c0
    clear c0
    by_cases c1 : (r == 1) = true
    · go_wp2
      go_ret
      exact ⟨⟨hi, by omega, by omega, rfl⟩, HR1, HA1⟩
    · have c1' : (r == 1) = false := by simpa using c1
      clear c1
      go_wp2_with fail
      refine (word_any B _ HR1).mono ?_
      rintro e w2 ⟨⟨x, hx, rfl⟩, HR2, HA2⟩
      have hb := bounds_u64 hx
      obtain ⟨b0, b1⟩ := hb
      clear hx
      have m0 := Int.emod_nonneg (x / 2) (show hi - lo + 1 ≠ 0 by omega)
      have m1 := Int.emod_lt_of_pos (x / 2) (show 0 < hi - lo + 1 by omega)
      go_wp2
      go_ret
      exact ⟨⟨lo + x / 2 % (hi - lo + 1), by omega, by omega, rfl⟩, HR2, HA1.trans HA2⟩
def IntEnd (B : Nat) (w : World) (e : Ending) (w' : World) : Prop := (∃ r : Int, -9223372036854775808 ≤ r ∧ r ≤ 9223372036854775807 ∧ e = .returned (.int .i64 r)) ∧ Rd B w' ∧ Aprt B w w'
theorem four (w w1 : World) (B : Nat) (v0 v1 v2 v3 : Value) (T : TypeId) (hB : B < w.heap.size) (HA : Aprt B (w.alloc (.cells #[v0, v1, v2, v3] T)) w1) (r : Int) (r0 : 0 ≤ r) (r1 : r < 4) : ∃ v, (v = v0 ∨ v = v1 ∨ v = v2 ∨ v = v3) ∧ w1.cell? ⟨w.heap.size, r.toNat, none⟩ = some v := by
  have hc : ∀ o, w1.cell? ⟨w.heap.size, o, none⟩ = (w.alloc (.cells #[v0, v1, v2, v3] T)).cell? ⟨w.heap.size, o, none⟩ := fun o => HA.cell (by simp) (by omega)
  rw [hc]
  obtain rfl | rfl | rfl | rfl : r = 0 ∨ r = 1 ∨ r = 2 ∨ r = 3 := by omega
  · exact ⟨v0, .inl rfl, by simp⟩
  · exact ⟨v1, .inr (.inl rfl), by simp⟩
  · exact ⟨v2, .inr (.inr (.inl rfl)), by simp⟩
  · exact ⟨v3, .inr (.inr (.inr rfl)), by simp⟩
set_option maxHeartbeats 1000000 in
theorem off_any (B : Nat) (lo hi : Int) (w : World) (h : Rd B w) (h0 : 0 ≤ lo) (h1 : lo ≤ hi) (h2 : hi ≤ 1000000000000) : Calls Tryz.prog 52 #[.pointer (some ⟨B, 0, none⟩), .int .i64 lo, .int .i64 hi] w fun e w' => IntEnd B w e w' := by
  have H : Hid _ := hide h
  clear h
  go_enter Tryz.func52, Tryz.ntmps52
  go_wp2_with fail
  refine (once_any B 24 _ H.out (by omega) (by omega)).mono ?_
  rintro e w1 ⟨⟨b, rfl⟩, HR1, HA1⟩
  cases b
  · go_wp2_with fail
    refine (near_any B lo hi _ HR1 h0 h1 h2).mono ?_
    rintro e w2 ⟨⟨x, x0, x1, rfl⟩, HR2, HA2⟩
    go_wp2
    go_ret
    exact ⟨⟨x, by omega, by omega, rfl⟩, HR2, HA1.trans HA2⟩
  · have hlt := HR1.lt
    go_wp2_with fail
    refine (below_any B 4 _ (HR1.kept ((Kept.refl _).alloc _ _)) (by omega)).mono ?_
    rintro e w2 ⟨⟨r, r0, r2, r1, rfl⟩, HR2, HA2⟩
    have r3 : r < 4 := by omega
    clear r2
    obtain ⟨v, hv, hcell⟩ := four _ _ _ _ _ _ _ _ hlt HA2 r r0 r3
    have hex : ∃ z : Int, -9223372036854775808 ≤ z ∧ z ≤ 9223372036854775807 ∧ v = .int .i64 z := by
      rcases hv with rfl | rfl | rfl | rfl
      all_goals exact ⟨_, by omega, by omega, rfl⟩
    obtain ⟨z, z0, z1, rfl⟩ := hex
    clear hv
    go_wp2
    go_ret
    exact ⟨⟨z, z0, z1, rfl⟩, HR2, HA1.trans (((Kept.refl _).alloc _ _).to_apart.trans HA2)⟩
end Go.Proofs.YteaopalhbnhbaaaGreatDoor
/- The drawn amount and the drawn text. -/
namespace Go.Proofs.YteaopalhbnhbaaaGreatDoor
open Go.ChangeShapes Go.WideShapes Go.ChangeAt Go.RowKit
set_option linter.unusedVariables false
set_option maxHeartbeats 1000000 in
set_option maxRecDepth 100000 in
theorem l1Open_any (a : Option Addr) (len cap : Nat) (w : World) : Calls Tryz.prog 17 #[.slice a len cap] w fun e w' => e = .returned (.pointer (some ⟨w.heap.size, 0, none⟩)) ∧ w' = w.alloc (.cells #[.slice a len cap, .int .i64 0] 78) := by
  go_enter Tryz.func17, Tryz.ntmps17
  go_wp2
  go_ret
  exact ⟨rfl, rfl⟩
/-- the bytes of a drawn input, as the law is given them -/
def IsCode (w : World) (a : Option Addr) (len : Nat) : Prop := len ≤ 2 ^ 63 - 1 ∧ ∀ i, i < len → ∃ b off, a = some ⟨b, off, none⟩ ∧ b < w.heap.size ∧ ∃ z : Int, 0 ≤ z ∧ z ≤ 255 ∧ w.cell? ⟨b, off + i, none⟩ = some (.int .u8 z)
theorem IsCode.below {w w' : World} {a : Option Addr} {len : Nat} (h : IsCode w a len) (k : Below w.heap.size w w') : IsCode w' a len := by
  refine ⟨h.1, fun i hi => ?_⟩
  obtain ⟨b, off, e, hb, z, z0, z1, hz⟩ := h.2 i hi
  exact ⟨b, off, e, by have := k.size; omega, z, z0, z1, by rw [k.cell (by exact hb)]; exact hz⟩
theorem rd_open {w : World} {a : Option Addr} {len cap : Nat} (h : IsCode w a len) : Rd w.heap.size (w.alloc (.cells #[.slice a len cap, .int .i64 0] 78)) := by
  refine ⟨a, len, cap, 0, by simp, by simp, Nat.zero_le _, h.1, by simp, by simp, fun i hi => ?_⟩
  obtain ⟨b, off, e, hb, z, z0, z1, hz⟩ := h.2 i hi
  exact ⟨b, off, e, hb, z, z0, z1, by rw [World.cell?_alloc_past _ _ _ hb]; exact hz⟩
theorem str_cell {w w1 : World} {B : Nat} {cs : Array Value} {T : TypeId} (hB : B < w.heap.size) (HA : Aprt B (w.alloc (.cells cs T)) w1) (q : Nat) (t : ByteArray) (h : cs[q]? = some (.string t)) : w1.cell? ⟨w.heap.size, q, none⟩ = some (.string t) := by
  rw [HA.cell (by simp) (by omega)]; simpa using h
end Go.Proofs.YteaopalhbnhbaaaGreatDoor
/- The reader's off over any range from nought on. -/
namespace Go.Proofs.YteaopalhbnhbaaaGreatDoor
open Go.ChangeShapes Go.WideShapes Go.ChangeAt Go.RowKit
set_option linter.unusedVariables false
set_option maxHeartbeats 1000000 in
theorem near_big (B : Nat) (lo hi : Int) (w : World) (h : Rd B w) (h0 : 0 ≤ lo) (h1 : lo ≤ hi) (h2 : hi ≤ 9223372036854775806) : Calls Tryz.prog 89 #[.pointer (some ⟨B, 0, none⟩), .int .i64 lo, .int .i64 hi] w fun e w' => NumEnd B lo hi w e w' := by
  have H : Hid _ := hide h
  clear h
  have h1' : ¬ hi < lo := by omega
  go_enter Tryz.func89, Tryz.ntmps89
  go_wp2_with fail
  refine (below_any B 8 _ H.out (by omega)).mono ?_
  rintro e w1 ⟨⟨r, r0, _, r1, rfl⟩, HR1, HA1⟩
  by_cases c0 : (r == 0) = true
  · go_wp2
    go_ret
    exact ⟨⟨lo, by omega, by omega, rfl⟩, HR1, HA1⟩
  · have c0' : (r == 0) = false := by simpa using c0
    clear c0
    by_cases c1 : (r == 1) = true
    · go_wp2
      go_ret
      exact ⟨⟨hi, by omega, by omega, rfl⟩, HR1, HA1⟩
    · have c1' : (r == 1) = false := by simpa using c1
      clear c1
      go_wp2_with fail
      refine (word_any B _ HR1).mono ?_
      rintro e w2 ⟨⟨x, hx, rfl⟩, HR2, HA2⟩
      have hb := bounds_u64 hx
      obtain ⟨b0, b1⟩ := hb
      clear hx
      have m0 := Int.emod_nonneg (x / 2) (show hi - lo + 1 ≠ 0 by omega)
      have m1 := Int.emod_lt_of_pos (x / 2) (show 0 < hi - lo + 1 by omega)
      go_wp2
      go_ret
      exact ⟨⟨lo + x / 2 % (hi - lo + 1), by omega, by omega, rfl⟩, HR2, HA1.trans HA2⟩
set_option maxHeartbeats 1000000 in
theorem off_big (B : Nat) (lo hi : Int) (w : World) (h : Rd B w) (h0 : 0 ≤ lo) (h1 : lo ≤ hi) (h2 : hi ≤ 9223372036854775806) : Calls Tryz.prog 52 #[.pointer (some ⟨B, 0, none⟩), .int .i64 lo, .int .i64 hi] w fun e w' => IntEnd B w e w' := by
  have H : Hid _ := hide h
  clear h
  go_enter Tryz.func52, Tryz.ntmps52
  go_wp2_with fail
  refine (once_any B 24 _ H.out (by omega) (by omega)).mono ?_
  rintro e w1 ⟨⟨b, rfl⟩, HR1, HA1⟩
  cases b
  · go_wp2_with fail
    refine (near_big B lo hi _ HR1 h0 h1 h2).mono ?_
    rintro e w2 ⟨⟨x, x0, x1, rfl⟩, HR2, HA2⟩
    go_wp2
    go_ret
    exact ⟨⟨x, by omega, by omega, rfl⟩, HR2, HA1.trans HA2⟩
  · have hlt := HR1.lt
    go_wp2_with fail
    refine (below_any B 4 _ (HR1.kept ((Kept.refl _).alloc _ _)) (by omega)).mono ?_
    rintro e w2 ⟨⟨r, r0, r2, r1, rfl⟩, HR2, HA2⟩
    have r3 : r < 4 := by omega
    clear r2
    obtain ⟨v, hv, hcell⟩ := four _ _ _ _ _ _ _ _ hlt HA2 r r0 r3
    have hex : ∃ z : Int, -9223372036854775808 ≤ z ∧ z ≤ 9223372036854775807 ∧ v = .int .i64 z := by
      rcases hv with rfl | rfl | rfl | rfl
      all_goals exact ⟨_, by omega, by omega, rfl⟩
    obtain ⟨z, z0, z1, rfl⟩ := hex
    clear hv
    go_wp2
    go_ret
    exact ⟨⟨z, z0, z1, rfl⟩, HR2, HA1.trans (((Kept.refl _).alloc _ _).to_apart.trans HA2)⟩
set_option maxHeartbeats 1000000 in
theorem near_top (B : Nat) (w : World) (h : Rd B w) : Calls Tryz.prog 89 #[.pointer (some ⟨B, 0, none⟩), .int .i64 0, .int .i64 9223372036854775807] w fun e w' => NumEnd B 0 9223372036854775807 w e w' := by
  have H : Hid _ := hide h
  clear h
  go_enter Tryz.func89, Tryz.ntmps89
  go_wp2_with fail
  refine (below_any B 8 _ H.out (by omega)).mono ?_
  rintro e w1 ⟨⟨r, r0, _, r1, rfl⟩, HR1, HA1⟩
  by_cases c0 : (r == 0) = true
  · go_wp2
    go_ret
    exact ⟨⟨0, by omega, by omega, rfl⟩, HR1, HA1⟩
  · have c0' : (r == 0) = false := by simpa using c0
    clear c0
    by_cases c1 : (r == 1) = true
    · go_wp2
      go_ret
      exact ⟨⟨9223372036854775807, by omega, by omega, rfl⟩, HR1, HA1⟩
    · have c1' : (r == 1) = false := by simpa using c1
      clear c1
      go_wp2_with fail
      refine (word_any B _ HR1).mono ?_
      rintro e w2 ⟨⟨x, hx, rfl⟩, HR2, HA2⟩
      have hb := bounds_u64 hx
      obtain ⟨b0, b1⟩ := hb
      clear hx
      have hw : wrap64 9223372036854775808 = -9223372036854775808 := by unfold wrap64; omega
      have hw2 : IntKind.u64.wrap (-9223372036854775808) = 9223372036854775808 := by simp [IntKind.wrap, IntKind.bits, IntKind.signed]
      have m0 := Int.emod_nonneg (x / 2) (show (9223372036854775808 : Int) ≠ 0 by omega)
      have m1 := Int.emod_lt_of_pos (x / 2) (show 0 < (9223372036854775808 : Int) by omega)
      go_wp2
      go_ret
      exact ⟨⟨x / 2 % ((9223372036854775808 : Int)), by omega, by omega, rfl⟩, HR2, HA1.trans HA2⟩
set_option maxHeartbeats 1000000 in
theorem off_top (B : Nat) (w : World) (h : Rd B w) : Calls Tryz.prog 52 #[.pointer (some ⟨B, 0, none⟩), .int .i64 0, .int .i64 9223372036854775807] w fun e w' => IntEnd B w e w' := by
  have H : Hid _ := hide h
  clear h
  go_enter Tryz.func52, Tryz.ntmps52
  go_wp2_with fail
  refine (once_any B 24 _ H.out (by omega) (by omega)).mono ?_
  rintro e w1 ⟨⟨b, rfl⟩, HR1, HA1⟩
  cases b
  · go_wp2_with fail
    refine (near_top B _ HR1).mono ?_
    rintro e w2 ⟨⟨x, x0, x1, rfl⟩, HR2, HA2⟩
    go_wp2
    go_ret
    exact ⟨⟨x, by omega, by omega, rfl⟩, HR2, HA1.trans HA2⟩
  · have hlt := HR1.lt
    go_wp2_with fail
    refine (below_any B 4 _ (HR1.kept ((Kept.refl _).alloc _ _)) (by omega)).mono ?_
    rintro e w2 ⟨⟨r, r0, r2, r1, rfl⟩, HR2, HA2⟩
    have r3 : r < 4 := by omega
    clear r2
    obtain ⟨v, hv, hcell⟩ := four _ _ _ _ _ _ _ _ hlt HA2 r r0 r3
    have hex : ∃ z : Int, -9223372036854775808 ≤ z ∧ z ≤ 9223372036854775807 ∧ v = .int .i64 z := by
      rcases hv with rfl | rfl | rfl | rfl
      all_goals exact ⟨_, by first | omega | (unfold wrap64; omega), by first | omega | (unfold wrap64; omega), rfl⟩
    obtain ⟨z, z0, z1, rfl⟩ := hex
    clear hv
    go_wp2
    go_ret
    exact ⟨⟨z, z0, z1, rfl⟩, HR2, HA1.trans (((Kept.refl _).alloc _ _).to_apart.trans HA2)⟩
theorem off_wide (B : Nat) (hi : Int) (w : World) (h : Rd B w) (h1 : 0 ≤ hi) (h2 : hi ≤ 9223372036854775807) : Calls Tryz.prog 52 #[.pointer (some ⟨B, 0, none⟩), .int .i64 0, .int .i64 hi] w fun e w' => IntEnd B w e w' := by
  by_cases q : hi = 9223372036854775807
  · subst q; exact off_top B w h
  · exact off_big B 0 hi w h (by omega) h1 (by omega)
end Go.Proofs.YteaopalhbnhbaaaGreatDoor
/- A pool beside the reader of drawn inputs: the reader's block is turned by reading alone. -/
namespace Go.Proofs.YteaopalhbnhbaaaGreatDoor
open Go.ChangeShapes Go.WideShapes Go.ChangeAt Go.RowKit
set_option linter.unusedVariables false
/-- a block that is held, whatever lies in it -/
def tok (B : Nat) : Rs := ⟨[B], fun _ => True, fun _ _ _ h => h⟩
theorem Rd.fr {B : Nat} {x y : World} {G : List Nat} (h : Rd B x) (fr : Fr G x y) (hG : ∀ b ∈ G, B < b) : Rd B y := by
  obtain ⟨a, len, cap, p, h0, h1, h2, h3, h4, h5, h6⟩ := h.ex
  have hs := fr.size
  have hB : B ∉ G := fun q => Nat.lt_irrefl _ (hG B q)
  have hb := fr.block B h5 hB
  refine ⟨a, len, cap, p, by rw [World.cell?_of_block (w := x) hb]; exact h0, by rw [World.cell?_of_block (w := x) hb]; exact h1, h2, h3, by rw [World.frozen?_of_block (w := x) hb]; exact h4, by omega, fun i hi => ?_⟩
  obtain ⟨b, off, e, hb, z, z0, z1, hz⟩ := h6 i hi
  exact ⟨b, off, e, hb, z, z0, z1, by rw [World.cell?_of_block (w := x) (fr.block b (by omega) (fun q => by have := hG b q; omega))]; exact hz⟩
structure RP (B : Nat) (w : World) (S : List (List Rs)) (x : World) : Prop where
  p : Pool [B] w ([tok B] :: S) x
  rd : Rd B x
  lt : B < w.heap.size
theorem RP.start {B : Nat} {w : World} (h : Rd B w) (S : List (List Rs)) (e : S.flatten = []) : RP B w S w :=
  ⟨⟨Fr.refl _ _, by simp only [List.flatten_cons, e, List.append_nil]; exact Star.one trivial (by simp [tok]) (fun b hb => by simp only [tok, List.mem_singleton] at hb; subst hb; exact h.lt), by simp only [List.flatten_cons, e, List.append_nil]; exact fun b hb => .inl (by simpa [fps, tok] using hb)⟩, h, h.lt⟩
/-- a piece's blocks lie behind the reader's -/
theorem RP.far {B : Nat} {w x : World} {S : List (List Rs)} (h : RP B w S x) {i : Nat} {rs : List Rs} (hi : S[i]? = some rs) : ∀ b ∈ fps rs, B < b := fun b hb => by
  have hm : b ∈ fps S.flatten := by
    obtain ⟨A, C, e, _⟩ := slot_split hi []
    rw [e, fps_app, fps_app]; simp [hb]
  have hn : b ≠ B := fun e => by
    subst e
    have := h.p.st
    simp only [List.flatten_cons] at this
    exact this.apart b (by simp [fps, tok]) hm
  rcases h.p.hi b (by simp only [List.flatten_cons, fps_app]; simp [hm]) with q | q
  · simp only [List.mem_singleton] at q; exact absurd q hn
  · have := h.lt; omega
theorem RP.up {B : Nat} {w x y : World} {S S' : List (List Rs)} {G : List Nat} (h : RP B w S x) (p : Pool [B] w ([tok B] :: S') y) (fr : Fr G x y) (hG : ∀ b ∈ G, B < b) : RP B w S' y := ⟨p, h.rd.fr fr hG, h.lt⟩
theorem RP.step {B : Nat} {w x y : World} {S : List (List Rs)} (h : RP B w S x) {i : Nat} {rs rs' : List Rs} (hi : S[i]? = some rs) (fr : Fr (fps rs) x y) (st : Star rs' y) (sub : ∀ b ∈ fps rs', b ∈ fps rs ∨ x.heap.size ≤ b) : RP B w (S.set i rs') y :=
  h.up (h.p.step (i := i + 1) (by simpa using hi) fr st sub) fr (h.far hi)
theorem RP.call {B : Nat} {w x y : World} {S : List (List Rs)} (h : RP B w S x) {i : Nat} {rs rs' : List Rs} (hi : S[i]? = some rs) (k : Pool (fps rs) x [rs'] y) : RP B w (S.set i rs') y :=
  h.step hi k.fr (by simpa using k.st) (by simpa using k.hi)
theorem RP.keep {B : Nat} {w x y : World} {S : List (List Rs)} (h : RP B w S x) (b : Below x.heap.size x y) : RP B w S y :=
  h.up (h.p.keep b) (Fr.below (F := []) b) (fun c hc => by cases hc)
theorem RP.drew {B : Nat} {w x : World} {S : List (List Rs)} (h : RP B w S x) : RP B w S x.drew := h.keep (Below.refl _ _).drew
theorem RP.alloc {B : Nat} {w x : World} {S : List (List Rs)} (h : RP B w S x) (o : Obj) : RP B w S (x.alloc o) := h.keep (below_alloc (Below.refl _ _) o)
theorem RP.new {B : Nat} {w x y : World} {S : List (List Rs)} (h : RP B w S x) {i : Nat} {rs' : List Rs} (hi : S[i]? = some []) (b : Below x.heap.size x y) (st : Star rs' y) (hi' : ∀ c ∈ fps rs', x.heap.size ≤ c) : RP B w (S.set i rs') y :=
  h.step hi (Fr.below b) st (fun c hc => .inr (hi' c hc))
theorem RP.newBlk {B : Nat} {w x : World} {S : List (List Rs)} (h : RP B w S x) {i : Nat} (hi : S[i]? = some []) (cur : List Value) (T : TypeId) : RP B w (S.set i [blk x.heap.size cur]) (x.alloc (.cells cur.toArray T)) :=
  h.up (h.p.newBlk (i := i + 1) (by simpa using hi) cur T) (Fr.below (F := []) (below_alloc (Below.refl _ _) _)) (fun c hc => by cases hc)
theorem RP.get {B : Nat} {w x : World} {S : List (List Rs)} (h : RP B w S x) {i : Nat} {rs : List Rs} (hi : S[i]? = some rs) : Star rs x := h.p.get (i := i + 1) (by simpa using hi)
theorem RP.blkAt {B : Nat} {w x : World} {S : List (List Rs)} (h : RP B w S x) {i b : Nat} {cur : List Value} (hi : S[i]? = some [blk b cur]) : Blk b cur x := h.p.blkAt (i := i + 1) (by simpa using hi)
theorem RP.setBlk {B : Nat} {w x : World} {S : List (List Rs)} (h : RP B w S x) {i b : Nat} {cur : List Value} (hi : S[i]? = some [blk b cur]) (o : Nat) (v : Value) (ho : o < cur.length) : RP B w (S.set i [blk b (cur.set o v)]) (x.setCell ⟨b, o, none⟩ v) :=
  h.up (G := [b]) (h.p.setBlk (i := i + 1) (by simpa using hi) o v ho) ((Fr.refl _ _).set (.inl (by simp))) (fun c hc => h.far hi c (by simpa [fps, blk] using hc))
theorem RP.set6 {B : Nat} {w x : World} {S : List (List Rs)} (h : RP B w S x) {i b : Nat} {z0 z1 z2 z3 z4 z5 : Value} (hi : S[i]? = some [blk b [z0, z1, z2, z3, z4, z5]]) (v0 v1 v2 v3 v4 v5 : Value) :
    RP B w (S.set i [blk b [v0, v1, v2, v3, v4, v5]]) ((((((x.setCell ⟨b, 0, none⟩ v0).setCell ⟨b, 1, none⟩ v1).setCell ⟨b, 2, none⟩ v2).setCell ⟨b, 3, none⟩ v3).setCell ⟨b, 4, none⟩ v4).setCell ⟨b, 5, none⟩ v5) :=
  h.up (G := [b]) (h.p.set6 (i := i + 1) (by simpa using hi) v0 v1 v2 v3 v4 v5) ((((((((Fr.refl _ _).set (.inl (by simp))).set (.inl (by simp))).set (.inl (by simp))).set (.inl (by simp))).set (.inl (by simp))).set (.inl (by simp)))) (fun c hc => h.far hi c (by simpa [fps, blk] using hc))
theorem RP.set9 {B : Nat} {w x : World} {S : List (List Rs)} (h : RP B w S x) {i b : Nat} {z0 z1 z2 z3 z4 z5 z6 z7 z8 : Value} (hi : S[i]? = some [blk b [z0, z1, z2, z3, z4, z5, z6, z7, z8]]) (v0 v1 v2 v3 v4 v5 v6 v7 v8 : Value) :
    RP B w (S.set i [blk b [v0, v1, v2, v3, v4, v5, v6, v7, v8]]) (((((((((x.setCell ⟨b, 0, none⟩ v0).setCell ⟨b, 1, none⟩ v1).setCell ⟨b, 2, none⟩ v2).setCell ⟨b, 3, none⟩ v3).setCell ⟨b, 4, none⟩ v4).setCell ⟨b, 5, none⟩ v5).setCell ⟨b, 6, none⟩ v6).setCell ⟨b, 7, none⟩ v7).setCell ⟨b, 8, none⟩ v8) := by
  have hlen : i < S.length := (List.getElem?_eq_some_iff.1 hi).1
  have h0 := h.setBlk (i := i) hi 0 v0 (by simp)
  have h1 := h0.setBlk (i := i) (by rw [List.getElem?_set_self (by simpa using hlen)]) 1 v1 (by simp)
  have h2 := h1.setBlk (i := i) (by rw [List.getElem?_set_self (by simpa using hlen)]) 2 v2 (by simp)
  have h3 := h2.setBlk (i := i) (by rw [List.getElem?_set_self (by simpa using hlen)]) 3 v3 (by simp)
  have h4 := h3.setBlk (i := i) (by rw [List.getElem?_set_self (by simpa using hlen)]) 4 v4 (by simp)
  have h5 := h4.setBlk (i := i) (by rw [List.getElem?_set_self (by simpa using hlen)]) 5 v5 (by simp)
  have h6 := h5.setBlk (i := i) (by rw [List.getElem?_set_self (by simpa using hlen)]) 6 v6 (by simp)
  have h7 := h6.setBlk (i := i) (by rw [List.getElem?_set_self (by simpa using hlen)]) 7 v7 (by simp)
  have h8 := h7.setBlk (i := i) (by rw [List.getElem?_set_self (by simpa using hlen)]) 8 v8 (by simp)
  simpa [List.set_set] using h8
theorem RP.drop {B : Nat} {w x : World} {S : List (List Rs)} (h : RP B w S x) {i : Nat} {rs : List Rs} (hi : S[i]? = some rs) : RP B w (S.set i []) x :=
  h.step hi (Fr.refl _ _) (Star.nil _) (fun b hb => by simp [fps] at hb)
theorem RP.cast {B : Nat} {w x : World} {S S' : List (List Rs)} (h : RP B w S x) (e : S.flatten = S'.flatten) : RP B w S' x := ⟨h.p.cast (by simp only [List.flatten_cons, e]), h.rd, h.lt⟩
theorem RP.perm {B : Nat} {w x : World} {S S' : List (List Rs)} (h : RP B w S x) (q : S.flatten.Perm S'.flatten) : RP B w S' x := ⟨h.p.perm (by simp only [List.flatten_cons]; exact q.append_left _), h.rd, h.lt⟩
/-- something is read -/
theorem RP.read {B : Nat} {w x y : World} {S : List (List Rs)} (h : RP B w S x) (hr : Rd B y) (ha : Aprt B x y) : RP B w S y :=
  ⟨h.p.step (i := 0) (rs := [tok B]) (rs' := [tok B]) rfl ⟨ha.os, ha.tape, ha.output, ha.size, fun k hk hn => ha.block k hk (fun e => hn (by simp [fps, tok, e]))⟩ (Star.one trivial (by simp [tok]) (fun b hb => by simp only [tok, List.mem_singleton] at hb; subst hb; exact hr.lt)) (fun b hb => .inl hb), hr, h.lt⟩
theorem RP.pool {B : Nat} {w x : World} {S : List (List Rs)} (h : RP B w S x) : Pool [B] w S x := (h.p.drop (i := 0) rfl).cast (by simp)
theorem RP.apart {B : Nat} {w x : World} {S : List (List Rs)} (h : RP B w S x) : Aprt B w x := ⟨h.p.fr.os, h.p.fr.tape, h.p.fr.output, h.p.fr.size, fun k hk hn => h.p.fr.block k hk (by simpa using hn)⟩
/-- what was there, but for the reader's block -/
theorem RP.cell {B : Nat} {w x : World} {S : List (List Rs)} (h : RP B w S x) {b o : Nat} (hb : b < w.heap.size) (hB : b ≠ B) : x.cell? ⟨b, o, none⟩ = w.cell? ⟨b, o, none⟩ := h.apart.cell hb hB
end Go.Proofs.YteaopalhbnhbaaaGreatDoor
