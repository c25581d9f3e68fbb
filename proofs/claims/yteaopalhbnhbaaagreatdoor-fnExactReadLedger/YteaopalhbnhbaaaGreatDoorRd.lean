/- The reader of the drawn inputs: what it keeps, and what its next byte is. -/
import Derived.Test.YteaopalhbnhbaaaGreatDoorAmt
import Derived.Test.YteaopalhbnhbaaaGreatDoorPl
import Derived.Test.YteaopalhbnhbaaaGreatDoorBel
import Derived.Deep.QuietTactic
import Derived.BigQuiet
namespace Go.Proofs.YteaopalhbnhbaaaGreatDoor
open Go.ChangeShapes Go.WideShapes Go.ChangeAt Go.RowKit
set_option linter.unusedVariables false
theorem Kept.drewN {a w : World} (h : Kept a w) : ∀ q, Kept a (w.drewN q)
  | 0 => h
  | q + 1 => (Kept.drewN h q).drew
/-- but for block B nothing that was there has turned -/
structure Aprt (B : Nat) (w w' : World) : Prop where
  os : w'.os = w.os
  tape : w'.tape = w.tape
  output : w'.output = w.output
  size : w.heap.size ≤ w'.heap.size
  block : ∀ k, k < w.heap.size → k ≠ B → w'.heap[k]? = w.heap[k]?
theorem Aprt.refl (B : Nat) (w : World) : Aprt B w w := ⟨rfl, rfl, rfl, Nat.le_refl _, fun _ _ _ => rfl⟩
theorem Aprt.trans {B : Nat} {a b c : World} (h : Aprt B a b) (k : Aprt B b c) : Aprt B a c :=
  ⟨k.os.trans h.os, k.tape.trans h.tape, k.output.trans h.output, Nat.le_trans h.size k.size, fun i hi hB => (k.block i (Nat.lt_of_lt_of_le hi h.size) hB).trans (h.block i hi hB)⟩
theorem Kept.to_apart {B : Nat} {w w' : World} (h : Kept w w') : Aprt B w w' :=
  ⟨h.below.os, h.below.tape, h.below.output, h.below.size, fun k hk _ => h.below.block k hk⟩
theorem Aprt.setCell {B : Nat} {a w : World} (h : Aprt B a w) (o : Nat) (v : Value) : Aprt B a (w.setCell ⟨B, o, none⟩ v) :=
  h.trans ⟨rfl, rfl, rfl, by simp, fun k hk hB => Below.heap_setCell _ _ _ _ hB⟩
theorem Aprt.drewN {B : Nat} {a w : World} (h : Aprt B a w) (q : Nat) : Aprt B a (w.drewN q) := h.trans ((Kept.refl w).drewN q).to_apart
theorem Aprt.cell {B : Nat} {w w' : World} (h : Aprt B w w') {b o : Nat} (hb : b < w.heap.size) (hB : b ≠ B) : w'.cell? ⟨b, o, none⟩ = w.cell? ⟨b, o, none⟩ :=
  World.cell?_of_block (w := w) (h.block b hb hB)
theorem below_apart {W w w' : World} {B : Nat} (h : Below W.heap.size W w) (hB : W.heap.size ≤ B) (k : Aprt B w w') : Below W.heap.size W w' := by
  have hs := h.size
  exact ⟨k.os.trans h.os, k.tape.trans h.tape, k.output.trans h.output, by have := k.size; omega, fun i hi => (k.block i (by omega) (by omega)).trans (h.block i hi)⟩
/-- the reader in block B: a slice of bytes, and how many were read -/
structure Rd (B : Nat) (w : World) : Prop where
  ex : ∃ (a : Option Addr) (len cap p : Nat), w.cell? ⟨B, 0, none⟩ = some (.slice a len cap) ∧ w.cell? ⟨B, 1, none⟩ = some (.int .i64 (p : Int)) ∧ p ≤ len ∧ len ≤ 2 ^ 63 - 1 ∧ w.frozen? ⟨B, 1, none⟩ = false ∧ B < w.heap.size ∧
    ∀ i, i < len → ∃ b off, a = some ⟨b, off, none⟩ ∧ b < B ∧ ∃ z : Int, 0 ≤ z ∧ z ≤ 255 ∧ w.cell? ⟨b, off + i, none⟩ = some (.int .u8 z)
theorem Rd.lt {B : Nat} {w : World} (h : Rd B w) : B < w.heap.size := by obtain ⟨_, _, _, _, _, _, _, _, _, h5, _⟩ := h.ex; exact h5
theorem Rd.below {B : Nat} {w w' : World} (h : Rd B w) (k : Below (B + 1) w w') : Rd B w' := by
  obtain ⟨a, len, cap, p, h0, h1, h2, h3, h4, h5, h6⟩ := h.ex
  have hs := k.size
  refine ⟨a, len, cap, p, by rw [k.cell (by simp)]; exact h0, by rw [k.cell (by simp)]; exact h1, h2, h3, by rw [k.frozen (by simp)]; exact h4, by omega, fun i hi => ?_⟩
  obtain ⟨b, off, e, hb, z, z0, z1, hz⟩ := h6 i hi
  exact ⟨b, off, e, hb, z, z0, z1, by rw [k.cell (by simp; omega)]; exact hz⟩
theorem Rd.kept {B : Nat} {w w' : World} (h : Rd B w) (k : Kept w w') : Rd B w' := h.below (k.below.mono h.lt)
theorem rd_store {B : Nat} {w : World} {a : Option Addr} {len cap p : Nat} (h0 : w.cell? ⟨B, 0, none⟩ = some (.slice a len cap)) (h1 : w.cell? ⟨B, 1, none⟩ = some (.int .i64 (p : Int))) (hp : p < len) (hm : len ≤ 2 ^ 63 - 1) (hf : w.frozen? ⟨B, 1, none⟩ = false) (hB : B < w.heap.size)
    (hc : ∀ i, i < len → ∃ b off, a = some ⟨b, off, none⟩ ∧ b < B ∧ ∃ z : Int, 0 ≤ z ∧ z ≤ 255 ∧ w.cell? ⟨b, off + i, none⟩ = some (.int .u8 z)) :
    Rd B (w.setCell ⟨B, 1, none⟩ (.int .i64 ((p : Int) + 1))) := by
  refine ⟨a, len, cap, p + 1, by rw [World.cell?_setCell_other _ _ _ _ (by simp)]; exact h0, by rw [World.cell?_setCell_same _ _ _ h1]; simp, by omega, hm, by rw [World.frozen?_setCell]; exact hf, by simpa using hB, fun i hi => ?_⟩
  obtain ⟨b, off, e, hb, z, z0, z1, hz⟩ := hc i hi
  exact ⟨b, off, e, hb, z, z0, z1, by rw [World.cell?_setCell_other _ _ _ _ (fun e => Nat.ne_of_lt hb (congrArg Addr.block e).symm)]; exact hz⟩
theorem Rd.drewN {B : Nat} {w : World} (h : Rd B w) (q : Nat) : Rd B (w.drewN q) := h.kept ((Kept.refl w).drewN q)
theorem drewN_setCell (w : World) (a : Addr) (v : Value) : ∀ q, (w.drewN q).setCell a v = (w.setCell a v).drewN q
  | 0 => rfl
  | q + 1 => congrArg World.drew (drewN_setCell w a v q)
theorem emod_le_self {a n : Int} (h0 : 0 ≤ a) (hn : 0 < n) : a % n ≤ a := by
  have h1 := Int.emod_add_mul_ediv a n
  have h2 := Int.mul_nonneg (show 0 ≤ n by omega) (Int.ediv_nonneg h0 (show 0 ≤ n by omega))
  omega
def NextEnd (B : Nat) (w : World) (e : Ending) (w' : World) : Prop := (∃ n : Int, 0 ≤ n ∧ n ≤ 255 ∧ e = .returned (.int .i64 n)) ∧ Rd B w' ∧ Aprt B w w'
set_option maxHeartbeats 1000000 in
theorem next_any (B : Nat) (w : World) (h : Rd B w) : Calls Tryz.prog 84 #[.pointer (some ⟨B, 0, none⟩)] w fun e w' => NextEnd B w e w' := by
  obtain ⟨a, len, cap, p, hc0, hc1, hp, hm, hfz, hB, hcode⟩ := h.ex
  by_cases hlt : p < len
  · obtain ⟨b, off, rfl, hb, z, z0, z1, hz⟩ := hcode p hlt
    have hz2 : ∀ v, (w.setCell ⟨B, 1, none⟩ v).cell? ⟨b, off + p, none⟩ = some (.int .u8 z) := fun v => by rw [World.cell?_setCell_other _ _ _ _ (fun e => Nat.ne_of_lt hb (congrArg Addr.block e).symm)]; exact hz
    have HD : Hid _ := hide (rd_store hc0 hc1 hlt hm hfz hB hcode)
    clear hcode
    have hlt' : (p : Int) < (len : Int) := by omega
    have hd : decide ((len : Int) ≤ (p : Int)) = false := by simp; omega
    go_enter Tryz.func84, Tryz.ntmps84
    go_wp2
    go_quiet (fail)
    go_wp2
    go_quiet (fail)
    go_wp2
    go_ret
    exact ⟨⟨z, z0, z1, rfl⟩, Rd.drewN (by rw [drewN_setCell]; exact HD.out.drewN _) _, (((Aprt.refl B w).drewN _).setCell _ _).drewN _⟩
  · have hge : (len : Int) ≤ (p : Int) := by omega
    clear hcode
    go_enter Tryz.func84, Tryz.ntmps84
    go_wp2
    go_quiet (fail)
    go_wp2
    go_ret
    exact ⟨⟨0, by omega, by omega, rfl⟩, h.drewN _, (Aprt.refl B w).drewN _⟩
def BelowEnd (B : Nat) (n : Int) (w : World) (e : Ending) (w' : World) : Prop := (∃ r : Int, 0 ≤ r ∧ (r < n ∨ r = 0) ∧ r ≤ 65535 ∧ e = .returned (.int .i64 r)) ∧ Rd B w' ∧ Aprt B w w'
set_option maxHeartbeats 1000000 in
theorem below_any (B : Nat) (n : Int) (w : World) (h : Rd B w) (hn : n ≤ 1000000000) : Calls Tryz.prog 49 #[.pointer (some ⟨B, 0, none⟩), .int .i64 n] w fun e w' => BelowEnd B n w e w' := by
  have H : Hid _ := hide h
  clear h
  by_cases h1 : n ≤ 1
  · go_enter Tryz.func49, Tryz.ntmps49
    go_wp2
    go_ret
    exact ⟨⟨0, by omega, by omega, by omega, rfl⟩, H.out, Aprt.refl _ _⟩
  · by_cases h2 : n ≤ 256
    · go_enter Tryz.func49, Tryz.ntmps49
      go_wp2_with fail
      refine (next_any B _ H.out).mono ?_
      rintro e w1 ⟨⟨x, x0, x1, rfl⟩, HR1, HA1⟩
      go_wp2
      go_ret
      exact ⟨⟨x % n, Int.emod_nonneg _ (by omega), .inl (Int.emod_lt_of_pos _ (by omega)), by have := Int.emod_lt_of_pos x (show 0 < n by omega); omega, rfl⟩, HR1, HA1⟩
    · go_enter Tryz.func49, Tryz.ntmps49
      go_wp2_with fail
      refine (next_any B _ H.out).mono ?_
      rintro e w1 ⟨⟨x, x0, x1, rfl⟩, HR1, HA1⟩
      go_wp2_with fail
      refine (next_any B _ HR1).mono ?_
      rintro e w2 ⟨⟨y, y0, y1, rfl⟩, HR2, HA2⟩
      go_wp2
      go_ret
      have hle := emod_le_self (a := x * 256 + y) (n := n) (by omega) (by omega)
      exact ⟨⟨(x * 256 + y) % n, Int.emod_nonneg _ (by omega), .inl (Int.emod_lt_of_pos _ (by omega)), by omega, rfl⟩, HR2, HA1.trans HA2⟩
def OnceRd (B : Nat) (w : World) (e : Ending) (w' : World) : Prop := (∃ b : Bool, e = .returned (.bool b)) ∧ Rd B w' ∧ Aprt B w w'
set_option maxHeartbeats 400000 in
theorem once_any (B : Nat) (n : Int) (w : World) (h : Rd B w) (h0 : 0 ≤ n) (hn : n ≤ 1000000000) : Calls Tryz.prog 86 #[.pointer (some ⟨B, 0, none⟩), .int .i64 n] w fun e w' => OnceRd B w e w' := by
  have H : Hid _ := hide h
  clear h
  go_enter Tryz.func86, Tryz.ntmps86
  go_wp2_with fail
  refine (below_any B n _ H.out hn).mono ?_
  rintro e w1 ⟨⟨r, r0, _, r1, rfl⟩, HR1, HA1⟩
  go_wp2
  go_ret
  exact ⟨⟨_, rfl⟩, HR1, HA1⟩
def WordEnd (B : Nat) (w : World) (e : Ending) (w' : World) : Prop := (∃ x : Int, (Lit.int .u64 x).wf = true ∧ e = .returned (.int .u64 x)) ∧ Rd B w' ∧ Aprt B w w'
set_option maxHeartbeats 1000000 in
theorem word_any (B : Nat) (w : World) (h : Rd B w) : Calls Tryz.prog 107 #[.pointer (some ⟨B, 0, none⟩)] w fun e w' => WordEnd B w e w' := by
  have H : Hid _ := hide h
  clear h
  go_enter Tryz.func107, Tryz.ntmps107
  go_wp2
  go_loopw [3, 4] (fun x i w' => ∃ (k : Nat) (v : Int), k ≤ 8 ∧ i = .int .i64 (k : Int) ∧ x = .int .u64 v ∧ (Lit.int .u64 v).wf = true ∧ Rd B w' ∧ Aprt B w w') (fun x i w' => 8 - (intOf i).toNat)
  case atStart => exact ⟨0, 0, by omega, rfl, rfl, by decide, H.out, Aprt.refl _ _⟩
  case round =>
    obtain ⟨k, v, hk, rfl, rfl, hv, HR, HA⟩ := hrel
    have HV : Hid _ := hide hv
    clear hv
    by_cases h : k < 8
    · have h' : (k : Int) < 8 := by omega
      go_wp2_with fail
      refine (next_any B _ HR).mono ?_
      rintro e w1 ⟨⟨x, x0, x1, rfl⟩, HR1, HA1⟩
      go_wp2
      exact ⟨⟨k + 1, _, by omega, by go_num, rfl, wf_bits _ _ _ _, HR1, HA.trans HA1⟩, by simp [intOf]; omega⟩
    · have h' : ¬ (k : Int) < 8 := by omega
      go_wp2
      go_ret
      exact ⟨⟨_, HV.out, rfl⟩, HR, HA⟩
end Go.Proofs.YteaopalhbnhbaaaGreatDoor
