/- The reader's size, text and dop. -/
import Derived.Test.YtiilkkdbifhojaaRd2
import Derived.Test.YtiilkkdbifhojaaDkI1
namespace Go.Proofs.Ytiilkkdbifhojaa
open Go.ChangeShapes Go.WideShapes Go.ChangeAt Go.RowKit
set_option linter.unusedVariables false
set_option maxRecDepth 100000
theorem Apart.mono_hi {B : Nat} {a w : World} (h : Apart B a w) {p : Addr} (hp : a.heap.size ≤ p.block) (v : Value) : Apart B a (w.setCell p v) :=
  ⟨h.os, h.tape, h.output, by have := h.size; simp; omega, fun k hk hB => (Below.heap_setCell _ _ _ _ (by omega)).trans (h.block k hk hB)⟩
theorem Apart.below {B : Nat} {a w w' : World} (h : Apart B a w) (k : Below w.heap.size w w') : Apart B a w' :=
  ⟨k.os.trans h.os, k.tape.trans h.tape, k.output.trans h.output, Nat.le_trans h.size k.size, fun i hi hB => (k.block i (Nat.lt_of_lt_of_le hi h.size)).trans (h.block i hi hB)⟩
theorem apart_of {B : Nat} {w w' : World} (k : Below w.heap.size w w') : Apart B w w' := (Apart.refl B w).below k
theorem Apart.grownBy {B : Nat} {w w' : World} (h : Apart B w w') : w.grownBy w' (some B) := ⟨h.os, h.tape, h.output, h.size, fun k hk hne => h.block k hk (fun e => hne (by rw [e]))⟩
theorem Blk.apart {g B : Nat} {cur : List Value} {x y : World} (h : Blk g cur x) (k : Apart B x y) (hne : g ≠ B) : Blk g cur y := h.grown k.grownBy (fun e => hne (by simpa using e))
theorem Rd.on {B : Nat} {w w' : World} (h : Rd B w) (k : Below w.heap.size w w') : Rd B w' := h.below (k.mono h.lt)
theorem Rd.set_hi {B g o : Nat} {w : World} (h : Rd B w) (hg : B < g) (v : Value) : Rd B (w.setCell ⟨g, o, none⟩ v) := h.below ((Below.refl (B + 1) w).setCell (p := ⟨g, o, none⟩) hg v)
/-- a cell of a table that was laid ahead of the reading -/
theorem tab_cell {w w1 : World} {B : Nat} {cs : List Value} {T : TypeId} (hB : B < w.heap.size) (HA : Apart B (w.alloc (.cells cs.toArray T)) w1) (r : Nat) (v : Value) (h : cs[r]? = some v) : w1.cell? ⟨w.heap.size, r, none⟩ = some v := by
  rw [HA.cell (by simp) (by omega)]
  exact Blk.new.c r v h
set_option maxHeartbeats 1000000 in
theorem size_any (B : Nat) (per most : Int) (w : World) (h : Rd B w) (hp : 2 ≤ per) (hp2 : per ≤ 1000) (hm : 1 ≤ most) (hm2 : most ≤ 1000) : Calls Try.prog 37 #[.pointer (some ⟨B, 0, none⟩), .int .i64 per, .int .i64 most] w fun e w' => NumEnd B 1 most w e w' := by
  have H : Hid _ := hide h
  obtain ⟨a, len, cap, p, hc0, hc1, hpl, hlm, hfz, hB, hcode⟩ := h.ex
  clear h hcode hc1 hfz
  have q0 : (0 : Int) ≤ (len : Int) / per := Int.ediv_nonneg (by omega) (by omega)
  have q1 : (len : Int) / per ≤ 4611686018427387904 := Int.ediv_le_of_le_mul (by omega) (by
    have : (len : Int) ≤ 9223372036854775807 := by omega
    have h2 : 4611686018427387904 * 2 ≤ 4611686018427387904 * per := Int.mul_le_mul_of_nonneg_left hp (by omega)
    omega)
  have hpz : (per == 0) = false := by simp; omega
  by_cases hgt : most < 1 + (len : Int) / per
  · go_enter Try.func37, Try.ntmps37
    go_wp2_with fail
    refine (below_any B most _ H.out (by omega)).mono ?_
    rintro e w1 ⟨⟨r, r0, r2, r1, rfl⟩, HR1, HA1⟩
    go_wp2
    go_ret
    exact ⟨⟨1 + r, by omega, by omega, rfl⟩, HR1, HA1⟩
  · go_enter Try.func37, Try.ntmps37
    go_wp2_with fail
    refine (below_any B _ _ H.out (by omega)).mono ?_
    rintro e w1 ⟨⟨r, r0, r2, r1, rfl⟩, HR1, HA1⟩
    go_wp2
    go_ret
    exact ⟨⟨1 + r, by omega, by omega, rfl⟩, HR1, HA1⟩
def StrEnd (B : Nat) (w : World) (e : Ending) (w' : World) : Prop := (∃ s : ByteArray, s.size ≤ 100 ∧ e = .returned (.string s)) ∧ Rd B w' ∧ Apart B w w'
theorem tab_str {w w1 : World} {B : Nat} {cs : List ByteArray} {T : TypeId} (hB : B < w.heap.size) (HA : Apart B (w.alloc (.cells (cs.map Value.string).toArray T)) w1) (hs : ∀ s ∈ cs, s.size ≤ 100) (r : Nat) (hr : r < cs.length) : ∃ s : ByteArray, s.size ≤ 100 ∧ w1.cell? ⟨w.heap.size, r, none⟩ = some (.string s) :=
  ⟨cs[r], hs _ (List.getElem_mem hr), tab_cell hB HA r _ (by simp [List.getElem?_eq_getElem hr])⟩
set_option maxHeartbeats 1000000 in
theorem text_any (B : Nat) (w : World) (h : Rd B w) : Calls Try.prog 53 #[.pointer (some ⟨B, 0, none⟩)] w fun e w' => StrEnd B w e w' := by
  have H : Hid _ := hide h
  have hlt := h.lt
  clear h
  go_enter Try.func53, Try.ntmps53
  go_wp2_with fail
  refine (below_any B 6 _ (H.out.kept ((Kept.refl _).alloc _ _)) (by omega)).mono ?_
  rintro e w1 ⟨⟨r, r0, r2, r1, rfl⟩, HR1, HA1⟩
  obtain ⟨n, rfl⟩ : ∃ n : Nat, r = (n : Int) := ⟨r.toNat, by omega⟩
  have r3 : (n : Int) < 6 := by omega
  have HB : Hid _ := hide (((Kept.refl w).alloc _ _).to_apart.trans HA1)
  obtain ⟨s, hs, hcell⟩ := tab_str (cs := [⟨#[]⟩, ⟨#[97]⟩, ⟨#[98]⟩, ⟨#[97, 98]⟩, ⟨#[97, 98, 99]⟩, ⟨#[120, 32, 121]⟩]) hlt HA1 (by decide) n (by simp; omega)
  have HRR : Hid _ := hide HR1
  clear r2 HA1 HR1
  go_wp2
  go_ret
  exact ⟨⟨s, hs, rfl⟩, HRR.out, HB.out⟩
theorem em_sm : (⟨#[]⟩ : ByteArray).size ≤ 1048600 := Nat.zero_le _
def DopEnd (B : Nat) (w : World) (e : Ending) (w' : World) : Prop := (∃ o : Dp, SmO o ∧ e = .returned (dpV o)) ∧ Rd B w' ∧ Apart B w w'
theorem dop_end {B : Nat} {w x : World} {o : Dp} (hs : SmO o) (hB : B < w.heap.size) (hr : Rd B x) (ha : Apart B w x) : DopEnd B w (.returned (dpV o)) ((((x.setCell ⟨w.heap.size, 0, none⟩ (.int .i64 o.kind)).setCell ⟨w.heap.size, 1, none⟩ (.string o.nm)).setCell ⟨w.heap.size, 2, none⟩ (.string o.tn)).setCell ⟨w.heap.size, 3, none⟩ (.string o.da)) :=
  ⟨⟨o, hs, rfl⟩, (((hr.set_hi hB _).set_hi hB _).set_hi hB _).set_hi hB _, (((ha.mono_hi (p := ⟨w.heap.size, 0, none⟩) (Nat.le_refl _) _).mono_hi (p := ⟨w.heap.size, 1, none⟩) (Nat.le_refl _) _).mono_hi (p := ⟨w.heap.size, 2, none⟩) (Nat.le_refl _) _).mono_hi (p := ⟨w.heap.size, 3, none⟩) (Nat.le_refl _) _⟩
set_option maxHeartbeats 4000000 in
theorem dop_any (B : Nat) (w : World) (h : Rd B w) : Calls Try.prog 31 #[.pointer (some ⟨B, 0, none⟩)] w fun e w' => DopEnd B w e w' := by
  have H : Hid _ := hide h
  have hlt := h.lt
  clear h
  obtain ⟨w0, hw0⟩ : ∃ w0, w0 = w.alloc (.cells #[.int .i64 0, .string ⟨#[]⟩, .string ⟨#[]⟩, .string ⟨#[]⟩] 36) := ⟨_, rfl⟩
  have HW : Hid (w.alloc (.cells #[.int .i64 0, .string ⟨#[]⟩, .string ⟨#[]⟩, .string ⟨#[]⟩] 36) = w0) := hide hw0.symm
  have K0 : Hid (Blk w.heap.size [.int .i64 0, .string ⟨#[]⟩, .string ⟨#[]⟩, .string ⟨#[]⟩] w0) := hide (by rw [hw0]; exact Blk.new)
  have HB0 : Hid (Below w.heap.size w w0) := hide (by rw [hw0]; exact below_alloc (Below.refl _ _) _)
  have hs0 : w0.heap.size = w.heap.size + 1 := by rw [hw0]; simp
  have HS0 : Hid _ := hide hs0
  clear hw0 hs0
  go_enter Try.func31, Try.ntmps31
  go_wp2_with fail
  rw [HW.out]
  have hl0 : B < w0.heap.size := by have := HS0.out; omega
  refine (below_any B 4 _ ((H.out.on HB0.out).kept ((Kept.refl _).alloc _ _)) (by omega)).mono ?_
  rintro e w1 ⟨⟨r, r0, r2, r1, rfl⟩, HR1, HA1⟩
  obtain ⟨n, rfl⟩ : ∃ n : Nat, r = (n : Int) := ⟨r.toNat, by omega⟩
  have r3 : (n : Int) < 4 := by omega
  obtain ⟨nm, hnm, hcell⟩ := tab_str (cs := [⟨#[108, 111, 103]⟩, ⟨#[98, 97, 115, 101]⟩, ⟨#[98, 97, 115, 101, 46, 110, 101, 119]⟩, ⟨#[98]⟩]) hl0 HA1 (by decide) n (by simp; omega)
  rw [HS0.out] at hcell
  have HAA := ((Kept.refl w0).alloc _ _).to_apart.trans HA1
  have HP1 : Hid _ := hide ((apart_of HB0.out).trans HAA)
  have K1 : Hid _ := hide (K0.out.apart HAA (by omega))
  have HRR1 : Hid _ := hide HR1
  clear r2 HA1 HR1 HAA HB0 K0
  go_wp2_with fail
  refine (below_any B 5 _ HRR1.out (by omega)).mono ?_
  rintro e w2 ⟨⟨q, q0, q2, q1, rfl⟩, HR2, HA2⟩
  have HP2 : Hid _ := hide (HP1.out.trans HA2)
  have K2 : Hid _ := hide (K1.out.apart HA2 (by omega))
  have HRR2 : Hid _ := hide HR2
  clear HR2 HA2 HP1 K1 HRR1 hcell
  by_cases c0 : q = 0
  · subst c0
    have hl2 := HRR2.out.lt
    go_wp2_with fail
    refine (below_any B 3 _ (HRR2.out.kept ((Kept.refl _).alloc _ _)) (by omega)).mono ?_
    rintro e w3 ⟨⟨r, r0, r2, r1, rfl⟩, HR3, HA3⟩
    obtain ⟨m, rfl⟩ : ∃ n : Nat, r = (n : Int) := ⟨r.toNat, by omega⟩
    have r3 : (m : Int) < 3 := by omega
    obtain ⟨tn, htn, hcell⟩ := tab_str (cs := [⟨#[108, 111, 103]⟩, ⟨#[98, 97, 115, 101]⟩, ⟨#[99]⟩]) hl2 HA3 (by decide) m (by simp; omega)
    have HAA := ((Kept.refl w2).alloc _ _).to_apart.trans HA3
    have K3 : Hid _ := hide (K2.out.apart HAA (by omega))
    have HE : Hid _ := hide (dop_end (o := ⟨2, nm, tn, ⟨#[]⟩⟩) ⟨by simp only; omega, by simp only; omega, em_sm⟩ hlt HR3 (HP2.out.trans HAA))
    have HS : Hid _ := hide ((((K3.out.set 0 (.int .i64 2) (by simp)).set 1 (.string nm) (by simp)).set 2 (.string tn) (by simp)).set 3 (.string ⟨#[]⟩) (by simp))
    have y0 := K3.out.c 0 _ rfl
    have y1 := K3.out.c 1 _ rfl
    have y2 := K3.out.c 2 _ rfl
    have y3 := K3.out.c 3 _ rfl
    have f0 := K3.out.f 0
    have f1 := K3.out.f 1
    have f2 := K3.out.f 2
    have f3 := K3.out.f 3
    clear r2 HR3 HA3 HAA
    go_wp2
    have z0 := HS.out.c 0 _ rfl
    have z1 := HS.out.c 1 _ rfl
    have z2 := HS.out.c 2 _ rfl
    have z3 := HS.out.c 3 _ rfl
    exact bodyPost_ret (v := dpV ⟨2, nm, tn, ⟨#[]⟩⟩) (by simp only [dpV]; simp [results, Try.results31, go_sem, z0, z1, z2, z3]) rfl HE.out
  · have c0' : (q == 0) = false := by simpa using c0
    by_cases c1 : q = 1
    · subst c1
      have HE : Hid _ := hide (dop_end (o := ⟨3, nm, ⟨#[]⟩, ⟨#[]⟩⟩) ⟨by simp only; omega, em_sm, em_sm⟩ hlt HRR2.out HP2.out)
      have HS : Hid _ := hide ((((K2.out.set 0 (.int .i64 3) (by simp)).set 1 (.string nm) (by simp)).set 2 (.string ⟨#[]⟩) (by simp)).set 3 (.string ⟨#[]⟩) (by simp))
      have y0 := K2.out.c 0 _ rfl
      have y1 := K2.out.c 1 _ rfl
      have y2 := K2.out.c 2 _ rfl
      have y3 := K2.out.c 3 _ rfl
      have f0 := K2.out.f 0
      have f1 := K2.out.f 1
      have f2 := K2.out.f 2
      have f3 := K2.out.f 3
      clear c0
      go_wp2
      have z0 := HS.out.c 0 _ rfl
      have z1 := HS.out.c 1 _ rfl
      have z2 := HS.out.c 2 _ rfl
      have z3 := HS.out.c 3 _ rfl
      exact bodyPost_ret (v := dpV ⟨3, nm, ⟨#[]⟩, ⟨#[]⟩⟩) (by simp only [dpV]; simp [results, Try.results31, go_sem, z0, z1, z2, z3]) rfl HE.out
    · have c1' : (q == 1) = false := by simpa using c1
      clear c0 c1
      go_wp2_with fail
      refine (text_any B _ HRR2.out).mono ?_
      rintro e w3 ⟨⟨da, hda, rfl⟩, HR3, HA3⟩
      have K3 : Hid _ := hide (K2.out.apart HA3 (by omega))
      have HE : Hid _ := hide (dop_end (o := ⟨1, nm, ⟨#[]⟩, da⟩) ⟨by simp only; omega, em_sm, by simp only; omega⟩ hlt HR3 (HP2.out.trans HA3))
      have HS : Hid _ := hide ((((K3.out.set 0 (.int .i64 1) (by simp)).set 1 (.string nm) (by simp)).set 2 (.string ⟨#[]⟩) (by simp)).set 3 (.string da) (by simp))
      have y0 := K3.out.c 0 _ rfl
      have y1 := K3.out.c 1 _ rfl
      have y2 := K3.out.c 2 _ rfl
      have y3 := K3.out.c 3 _ rfl
      have f0 := K3.out.f 0
      have f1 := K3.out.f 1
      have f2 := K3.out.f 2
      have f3 := K3.out.f 3
      clear HR3 HA3
      go_wp2
      have z0 := HS.out.c 0 _ rfl
      have z1 := HS.out.c 1 _ rfl
      have z2 := HS.out.c 2 _ rfl
      have z3 := HS.out.c 3 _ rfl
      exact bodyPost_ret (v := dpV ⟨1, nm, ⟨#[]⟩, da⟩) (by simp only [dpV]; simp [results, Try.results31, go_sem, z0, z1, z2, z3]) rfl HE.out
end Go.Proofs.Ytiilkkdbifhojaa
