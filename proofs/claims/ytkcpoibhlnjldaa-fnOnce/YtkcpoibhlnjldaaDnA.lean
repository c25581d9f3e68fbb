/- A drawn act. -/
import Derived.Test.YtkcpoibhlnjldaaBc
import Derived.Test.YtkcpoibhlnjldaaAcD
import Derived.Deep.CutBlock
namespace Go.Proofs.Ytkcpoibhlnjldaa
open Go.Value renaming int → J, slice → V
open Go.IntKind renaming i64 → Z
open Go renaming undef → U
open Go.ChangeShapes Go.WideShapes Go.ChangeAt Go.RowKit
set_option linter.unusedVariables false
set_option maxRecDepth 100000
set_option maxHeartbeats 1000000 in
theorem amount_any (B : Nat) (w : World) (h : Rd B w) : Calls Try.prog 33 #[.pointer (some ⟨B, 0, none⟩)] w fun e w' => IntEnd B w e w' := by
 have H : Hid _ := hide h
 clear h
 go_enter Try.func33, Try.ntmps33
 go_wp2_with fail
 refine (once_any B 16 _ H.out (by omega) (by omega)).mono ?_
 rintro e w1 ⟨⟨b, rfl⟩, HR1, HA1⟩
 cases b
 ·go_wp2_with fail
  refine (below_any B 60 _ HR1 (by omega)).mono ?_
  rintro e w2 ⟨⟨x, x0, _, x1, rfl⟩, HR2, HA2⟩
  go_wp2
  go_ret
  exact ⟨⟨x, by omega, by omega, rfl⟩, HR2, HA1.trans HA2⟩
 ·go_wp2_with fail
  refine (off_any B _ _ _ HR1 (by omega) (by omega) (by omega)).mono ?_
  rintro e w2 ⟨⟨x, x0, x1, rfl⟩, HR2, HA2⟩
  go_wp2
  go_ret
  exact ⟨⟨x, by omega, by omega, rfl⟩, HR2, HA1.trans HA2⟩
theorem name_calls {P : Program} {f : FuncId} {args : Array Value} {w : World} {R : Ending → World → Prop} (h : ∀ W, W = w → Calls P f args W R) : Calls P f args w R := h w rfl
theorem name_post9 {P : Program} {f : Func} {Q : Ending → World → Prop} {e : Exit} {a : Act} {w : World} (h : ∀ W, W = w → bodyPost P f Q e a W) : bodyPost P f Q e a w := h w rfl
theorem name_world9 {P : Program} {c : Code} {Q : Exit → Act → World → Prop} {a : Act} {w : World} (h : ∀ W, W = w → c.wp P Q a W) : c.wp P Q a w := h w rfl
/-- an act, whatever it is; of what was there only the reader has turned -/
def NactEnd (B : Nat) (w : World) (e : Ending) (w' : World) : Prop := (∃ a : Ac, e = .returned a.v) ∧ Rd B w' ∧ Apart B w w'
/-- an act that is being drawn, in block M -/
def NaS (B : Nat) (w : World) (n : Nd) (M : Nat) (k i t m f1 f2 f3 f4 f5 : Int) (x : World) : Prop := RP B w [[blk w.heap.size (ndCells n)], [blk (w.heap.size + 1) [J Z 0, J Z 0, J Z 0, J Z 0, J Z 0, J Z 0, J Z 0, J Z 0, J Z 0]], [blk M [J Z k, J Z i, J Z t, J Z m, J Z f1, J Z f2, J Z f3, J Z f4, J Z f5]]] x
theorem NaS.read {B : Nat} {w : World} {n : Nd} {M : Nat} {k i t m f1 f2 f3 f4 f5 : Int} {x y : World} (h : NaS B w n M k i t m f1 f2 f3 f4 f5 x) (hr : Rd B y) (ha : Apart B x y) : NaS B w n M k i t m f1 f2 f3 f4 f5 y := RP.read h hr ha
theorem NaS.put5 {B : Nat} {w : World} {n : Nd} {M : Nat} {k i t m f1 f2 f3 f4 f5 : Int} {x : World} (h : NaS B w n M k i t m f1 f2 f3 f4 f5 x) (a b c d e : Int) : ∃ f1 f2 f3 f4 f5 : Int, NaS B w n M k i t m f1 f2 f3 f4 f5 (((((x.setCell ⟨M, 4, none⟩ (J Z a)).setCell ⟨M, 5, none⟩ (J Z b)).setCell ⟨M, 6, none⟩ (J Z c)).setCell ⟨M, 7, none⟩ (J Z d)).setCell ⟨M, 8, none⟩ (J Z e)) :=
 ⟨a, b, c, d, e, ((((RP.setBlk (i := 2) h rfl 4 (J Z a) (by simp)).setBlk (i := 2) rfl 5 (J Z b) (by simp)).setBlk (i := 2) rfl 6 (J Z c) (by simp)).setBlk (i := 2) rfl 7 (J Z d) (by simp)).setBlk (i := 2) rfl 8 (J Z e) (by simp)⟩
theorem NaS.put {B : Nat} {w : World} {n : Nd} {M : Nat} {k i t m f1 f2 f3 f4 f5 : Int} {x : World} (h : NaS B w n M k i t m f1 f2 f3 f4 f5 x) (v : Int) : NaS B w n M k i v m f1 f2 f3 f4 f5 (x.setCell ⟨M, 2, none⟩ (J Z v)) := RP.setBlk (i := 2) h rfl 2 (J Z v) (by simp)
structure NmF (B : Nat) (w : World) (n : Nd) (M : Nat) (l0 l1 l2 l3 l4 l5 l6 l7 l8 l9 l10 l11 l12 l13 : Bool) (u55 u56 u57 u58 u59 u60 u61 u62 u63 u64 u65 u66 u67 : Value) (x : World) : Prop where
 na : ∃ f1 f2 f3 f4 f5 : Int, NaS B w n M 4 0 0 0 f1 f2 f3 f4 f5 x
 q56 : l1 = true → ∃ r : Int, 0 ≤ r ∧ r ≤ 65535 ∧ u56 = J Z r
 q57 : l2 = true → ∃ r : Int, 0 ≤ r ∧ r ≤ 65540 ∧ u57 = J Z r
 q61 : l6 = true → ∃ r : Int, 0 ≤ r ∧ r ≤ 65535 ∧ u61 = J Z r
 q62 : l7 = true → ∃ r : Int, 0 ≤ r ∧ r ≤ 65540 ∧ u62 = J Z r
 q64 : l9 = true → ∃ r : Int, 0 ≤ r ∧ r ≤ 65535 ∧ u64 = J Z r
 q65 : l10 = true → ∃ r : Int, 0 ≤ r ∧ r ≤ 65540 ∧ u65 = J Z r
 q66 : l11 = true → ∃ a b c : Int, u66 = .agg #[J Z a, J Z n.id, J Z b, J Z c, J Z 0]
 p55 : l0 = true → u55 = .pointer (some ⟨B, 0, none⟩)
 p60 : l5 = true → u60 = .pointer (some ⟨B, 0, none⟩)
 p63 : l8 = true → u63 = .pointer (some ⟨B, 0, none⟩)
 p58 : l3 = true → u58 = .pointer (some ⟨w.heap.size, 0, none⟩)
 p59 : l4 = true → u59 = J Z n.id
 p67 : l12 = true → u67 = .pointer (some ⟨M, 4, none⟩)
 d2 : l2 = true → l1 = true
 d7 : l7 = true → l6 = true
 d10 : l10 = true → l9 = true
theorem NmF.rd {B : Nat} {w : World} {n : Nd} {M : Nat} {l0 l1 l2 l3 l4 l5 l6 l7 l8 l9 l10 l11 l12 l13 : Bool} {u55 u56 u57 u58 u59 u60 u61 u62 u63 u64 u65 u66 u67 : Value} {x : World} (h : NmF B w n M l0 l1 l2 l3 l4 l5 l6 l7 l8 l9 l10 l11 l12 l13 u55 u56 u57 u58 u59 u60 u61 u62 u63 u64 u65 u66 u67 x) : Rd B x := by obtain ⟨_, _, _, _, _, hn⟩ := h.na; exact RP.rd hn
theorem NmF.read {B : Nat} {w : World} {n : Nd} {M : Nat} {l0 l1 l2 l3 l4 l5 l6 l7 l8 l9 l10 l11 l12 l13 : Bool} {u55 u56 u57 u58 u59 u60 u61 u62 u63 u64 u65 u66 u67 : Value} {x : World} {y : World} (h : NmF B w n M l0 l1 l2 l3 l4 l5 l6 l7 l8 l9 l10 l11 l12 l13 u55 u56 u57 u58 u59 u60 u61 u62 u63 u64 u65 u66 u67 x) (hr : Rd B y) (ha : Apart B x y) : NmF B w n M l0 l1 l2 l3 l4 l5 l6 l7 l8 l9 l10 l11 l12 l13 u55 u56 u57 u58 u59 u60 u61 u62 u63 u64 u65 u66 u67 y := { h with na := by obtain ⟨f1, f2, f3, f4, f5, hn⟩ := h.na; exact ⟨f1, f2, f3, f4, f5, hn.read hr ha⟩ }
theorem NmF.c1 {B : Nat} {w : World} {n : Nd} {M : Nat} {l2 l3 l4 l5 l6 l7 l8 l9 l10 l11 l12 l13 : Bool} {u55 u56 u57 u58 u59 u60 u61 u62 u63 u64 u65 u66 u67 : Value} {x : World} {y : World} {r : Int} (h : NmF B w n M true false l2 l3 l4 l5 l6 l7 l8 l9 l10 l11 l12 l13 u55 u56 u57 u58 u59 u60 u61 u62 u63 u64 u65 u66 u67 x) (hr : Rd B y) (ha : Apart B x y) (r0 : 0 ≤ r) (r1 : r ≤ 65535) : NmF B w n M true true l2 l3 l4 l5 l6 l7 l8 l9 l10 l11 l12 l13 u55 (J Z r) u57 u58 u59 u60 u61 u62 u63 u64 u65 u66 u67 y := { h.read hr ha with q56 := fun _ => ⟨r, r0, (by omega), rfl⟩, q57 := fun q => (by cases h.d2 q), d2 := fun _ => rfl }
theorem NmF.c6 {B : Nat} {w : World} {n : Nd} {M : Nat} {l0 l2 l3 l4 l7 l8 l9 l10 l11 l12 l13 : Bool} {u55 u56 u57 u58 u59 u60 u61 u62 u63 u64 u65 u66 u67 : Value} {x : World} {y : World} {r : Int} (h : NmF B w n M l0 true l2 l3 l4 true false l7 l8 l9 l10 l11 l12 l13 u55 u56 u57 u58 u59 u60 u61 u62 u63 u64 u65 u66 u67 x) (hr : Rd B y) (ha : Apart B x y) (r0 : 0 ≤ r) (r1 : r ≤ 65535) : NmF B w n M l0 true l2 l3 l4 true true l7 l8 l9 l10 l11 l12 l13 u55 u56 u57 u58 u59 u60 (J Z r) u62 u63 u64 u65 u66 u67 y := { h.read hr ha with q61 := fun _ => ⟨r, r0, (by omega), rfl⟩, q62 := fun q => (by cases h.d7 q), d7 := fun _ => rfl }
theorem NmF.c9 {B : Nat} {w : World} {n : Nd} {M : Nat} {l0 l1 l2 l3 l4 l5 l7 l10 l11 l12 l13 : Bool} {u55 u56 u57 u58 u59 u60 u61 u62 u63 u64 u65 u66 u67 : Value} {x : World} {y : World} {r : Int} (h : NmF B w n M l0 l1 l2 l3 l4 l5 true l7 true false l10 l11 l12 l13 u55 u56 u57 u58 u59 u60 u61 u62 u63 u64 u65 u66 u67 x) (hr : Rd B y) (ha : Apart B x y) (r0 : 0 ≤ r) (r1 : r ≤ 65535) : NmF B w n M l0 l1 l2 l3 l4 l5 true l7 true true l10 l11 l12 l13 u55 u56 u57 u58 u59 u60 u61 u62 u63 (J Z r) u65 u66 u67 y := { h.read hr ha with q64 := fun _ => ⟨r, r0, (by omega), rfl⟩, q65 := fun q => (by cases h.d10 q), d10 := fun _ => rfl }
structure NgF (B : Nat) (w : World) (n : Nd) (M : Nat) (l0 l1 l2 l3 l4 l5 l6 l7 l8 l9 l10 l11 : Bool) (u38 u39 u40 u41 u42 u43 u44 u45 u46 u47 u48 : Value) (x : World) : Prop where
 na : ∃ t : Int, NaS B w n M 3 0 t 0 0 0 0 0 0 x
 q44 : l6 = true → ∃ r : Nat, r < n.peers.length ∧ u44 = J Z (r : Int)
 q45 : l7 = true → ∃ (r : Nat) (b off : Nat), r < n.peers.length ∧ n.pa = some ⟨b, off, none⟩ ∧ u45 = .pointer (some ⟨b, off + r * 4, none⟩)
 q46 : l8 = true → ∃ (r : Nat) (b off : Nat), r < n.peers.length ∧ n.pa = some ⟨b, off, none⟩ ∧ u46 = .pointer (some ⟨b, off + r * 4, none⟩)
 q47 : l9 = true → ∃ v : Int, u47 = J Z v
 d7 : l7 = true → l6 = true
 p38 : l0 = true → u38 = .pointer (some ⟨w.heap.size, 5, none⟩)
 p41 : l3 = true → u41 = .pointer (some ⟨w.heap.size, 5, none⟩)
 p39 : l1 = true → u39 = V n.pa n.peers.length n.pc
 p42 : l4 = true → u42 = V n.pa n.peers.length n.pc
 p40 : l2 = true → u40 = .pointer (some ⟨B, 0, none⟩)
 p43 : l5 = true → u43 = J Z (n.peers.length : Int)
 p48 : l10 = true → u48 = .pointer (some ⟨M, 2, none⟩)
theorem NgF.rd {B : Nat} {w : World} {n : Nd} {M : Nat} {l0 l1 l2 l3 l4 l5 l6 l7 l8 l9 l10 l11 : Bool} {u38 u39 u40 u41 u42 u43 u44 u45 u46 u47 u48 : Value} {x : World} (h : NgF B w n M l0 l1 l2 l3 l4 l5 l6 l7 l8 l9 l10 l11 u38 u39 u40 u41 u42 u43 u44 u45 u46 u47 u48 x) : Rd B x := by obtain ⟨_, hn⟩ := h.na; exact RP.rd hn
theorem NgF.c6 {B : Nat} {w : World} {n : Nd} {M : Nat} {l0 l1 l3 l4 l7 l8 l9 l10 l11 : Bool} {u38 u39 u40 u41 u42 u43 u44 u45 u46 u47 u48 : Value} {x : World} {y : World} {r : Int} (h : NgF B w n M l0 l1 true l3 l4 true false l7 l8 l9 l10 l11 u38 u39 u40 u41 u42 u43 u44 u45 u46 u47 u48 x) (hr : Rd B y) (ha : Apart B x y) (r0 : 0 ≤ r) (r1 : r < (n.peers.length : Int)) : NgF B w n M l0 l1 true l3 l4 true true l7 l8 l9 l10 l11 u38 u39 u40 u41 u42 u43 (J Z r) u45 u46 u47 u48 y := { h with na := by (obtain ⟨t, hn⟩ := h.na; exact ⟨t, hn.read hr ha⟩), q44 := fun _ => ⟨r.toNat, by omega, by rw [Int.toNat_of_nonneg r0]⟩, q45 := fun q => (by cases h.d7 q), d7 := fun _ => rfl }
set_option maxHeartbeats 4000000 in
theorem nact_any (B : Nat) (n : Nd) (w : World) (h : Rd B w) (hs : SmN n) (hN : ∀ x, Apart B w x → NodeAt x n) : Calls Try.prog 13 #[.pointer (some ⟨B, 0, none⟩), ndV n] w fun e w' => NactEnd B w e w' := by
 have hB := h.lt
 have hpl : n.peers.length ≤ 1048576 := hs.2.1
 have HN : Hid (∀ x, Apart B w x → NodeAt x n) := hide hN
 obtain ⟨W2, hW2⟩ : ∃ W2, W2 = (w.alloc (.cells #[J Z n.id, J Z n.has, J Z n.spent, J Z n.earned, V n.sa n.seen.length n.sc, V n.pa n.peers.length n.pc] 27)).alloc (.cells #[J Z 0, J Z 0, J Z 0, J Z 0, J Z 0, J Z 0, J Z 0, J Z 0, J Z 0] 31) := ⟨_, rfl⟩
 have HP0 : Hid (RP B w [[blk w.heap.size (ndCells n)], [blk (w.heap.size + 1) [J Z 0, J Z 0, J Z 0, J Z 0, J Z 0, J Z 0, J Z 0, J Z 0, J Z 0]], []] W2) := hide (by
  have p1 := (RP.start h [[], [], []] rfl).newBlk (i := 0) rfl (ndCells n) 27
  have s1 : (w.alloc (.cells (ndCells n).toArray 27)).heap.size = w.heap.size + 1 := by simp
  have p2 := p1.newBlk (i := 1) rfl [J Z 0, J Z 0, J Z 0, J Z 0, J Z 0, J Z 0, J Z 0, J Z 0, J Z 0] 31
  rw [s1] at p2
  rw [hW2]
  exact p2)
 have HW2 : Hid (_ = W2) := hide hW2.symm
 clear h hN hs hW2
 unfold ndV
 go_enter Try.func13, Try.ntmps13
 go_wp2_with fail
 rw [HW2.out]
 refine (below_any B 5 _ HP0.out.rd (by omega)).mono ?_
 rintro e w1 ⟨⟨r, r0, r5, _, rfl⟩, hr1, ha1⟩
 have r5 : r < 5 := by omega
 have HP1 : Hid _ := hide (HP0.out.read hr1 ha1)
 obtain ⟨W3, hW3⟩ : ∃ W3, W3 = w1.alloc (.cells #[J Z (1 + r), J Z 0, J Z 0, J Z 0, J Z 0, J Z 0, J Z 0, J Z 0, J Z 0] 31) := ⟨_, rfl⟩
 have HA : Hid (NaS B w n w1.heap.size (1 + r) 0 0 0 0 0 0 0 0 W3) := hide (by
  rw [hW3]; exact HP1.out.newBlk (i := 2) rfl [J Z (1 + r), J Z 0, J Z 0, J Z 0, J Z 0, J Z 0, J Z 0, J Z 0, J Z 0] 31)
 have HW3 : Hid (_ = W3) := hide hW3.symm
 clear hr1 ha1 hW3 HP0 HP1 HW2
 go_upto_block 0 with fail
 rw [HW3.out]
 go_cut [] from 12 to 76 (fun wx => Hid (∃ k i t m f1 f2 f3 f4 f5 : Int, NaS B w n w1.heap.size k i t m f1 f2 f3 f4 f5 wx))
 case first =>
  obtain rfl | rfl | rfl | rfl | rfl : r = 0 ∨ r = 1 ∨ r = 2 ∨ r = 3 ∨ r = 4 := by omega
  ·go_wp2_with fail
   refine (below_any B 30 _ HA.out.rd (by omega)).mono ?_
   rintro e w4 ⟨⟨s, s0, _, s1, rfl⟩, hr4, ha4⟩
   have HA4 : Hid (NaS B w n w1.heap.size 1 0 0 0 0 0 0 0 0 w4) := hide (HA.out.read hr4 ha4)
   have c1 := (HA4.out.blkAt (i := 2) rfl).c 1 _ rfl
   have f1 := (HA4.out.blkAt (i := 2) rfl).f 1
   clear hr4 ha4 HA
   go_wp2_with fail
   refine name_calls (fun W5 hW5 => ?_)
   have HA5 : Hid (NaS B w n w1.heap.size 1 (1 + s) 0 0 0 0 0 0 0 W5) := hide (by rw [hW5]; exact HA4.out.setBlk (i := 2) rfl 1 (J Z (1 + s)) (by simp))
   clear hW5 HA4 c1 f1
   refine (amount_any B _ HA5.out.rd).mono ?_
   rintro e w6 ⟨⟨m, m0, m1, rfl⟩, hr6, ha6⟩
   have HA6 : Hid (NaS B w n w1.heap.size 1 (1 + s) 0 0 0 0 0 0 0 w6) := hide (HA5.out.read hr6 ha6)
   have c3 := (HA6.out.blkAt (i := 2) rfl).c 3 _ rfl
   have f3 := (HA6.out.blkAt (i := 2) rfl).f 3
   clear hr6 ha6 HA5
   go_wp2_with fail
   go_meet
   exact hide ⟨_, _, _, _, _, _, _, _, _, HA6.out.setBlk (i := 2) rfl 3 (J Z _) (by simp)⟩
  ·go_wp2_with fail
   refine (below_any B 30 _ HA.out.rd (by omega)).mono ?_
   rintro e w4 ⟨⟨s, s0, _, s1, rfl⟩, hr4, ha4⟩
   have HA4 : Hid (NaS B w n w1.heap.size 2 0 0 0 0 0 0 0 0 w4) := hide (HA.out.read hr4 ha4)
   have c1 := (HA4.out.blkAt (i := 2) rfl).c 1 _ rfl
   have f1 := (HA4.out.blkAt (i := 2) rfl).f 1
   clear hr4 ha4 HA
   go_wp2_with fail
   refine name_calls (fun W5 hW5 => ?_)
   have HA5 : Hid (NaS B w n w1.heap.size 2 (1 + s) 0 0 0 0 0 0 0 W5) := hide (by rw [hW5]; exact HA4.out.setBlk (i := 2) rfl 1 (J Z (1 + s)) (by simp))
   clear hW5 HA4 c1 f1
   refine (amount_any B _ HA5.out.rd).mono ?_
   rintro e w6 ⟨⟨m, m0, m1, rfl⟩, hr6, ha6⟩
   have HA6 : Hid (NaS B w n w1.heap.size 2 (1 + s) 0 0 0 0 0 0 0 w6) := hide (HA5.out.read hr6 ha6)
   have c3 := (HA6.out.blkAt (i := 2) rfl).c 3 _ rfl
   have f3 := (HA6.out.blkAt (i := 2) rfl).f 3
   clear hr6 ha6 HA5
   go_wp2_with fail
   go_meet
   exact hide ⟨_, _, _, _, _, _, _, _, _, HA6.out.setBlk (i := 2) rfl 3 (J Z _) (by simp)⟩
  ·go_wp2_with fail
   refine (below_any B 4 _ HA.out.rd (by omega)).mono ?_
   rintro e w4 ⟨⟨s, s0, _, s1, rfl⟩, hr4, ha4⟩
   have HA4 : Hid (NaS B w n w1.heap.size 3 0 0 0 0 0 0 0 0 w4) := hide (HA.out.read hr4 ha4)
   have c2 := (HA4.out.blkAt (i := 2) rfl).c 2 _ rfl
   have f2 := (HA4.out.blkAt (i := 2) rfl).f 2
   have n5 : w4.cell? ⟨w.heap.size, 5, none⟩ = some (V n.pa n.peers.length n.pc) := (HA4.out.blkAt (i := 0) rfl).c 5 _ rfl
   clear hr4 ha4 HA
   by_cases hp : 0 < n.peers.length
   ·have hp' : (0 : Int) < (n.peers.length : Int) := by omega
    go_wp2_with fail
    refine name_calls (fun W5 hW5 => ?_)
    have HA5 : Hid (NaS B w n w1.heap.size 3 0 (1 + s) 0 0 0 0 0 0 W5) := hide (by rw [hW5]; exact HA4.out.put (1 + s))
    clear hW5 HA4 c2 f2 n5
    refine (once_any B 4 _ HA5.out.rd (by omega) (by omega)).mono ?_
    rintro e w6 ⟨⟨bb, rfl⟩, hr6, ha6⟩
    have HA6 : Hid (NaS B w n w1.heap.size 3 0 (1 + s) 0 0 0 0 0 0 w6) := hide (HA5.out.read hr6 ha6)
    clear hr6 ha6 HA5
    cases bb
    ·go_upto_region 10 with fail
     rename_i K0 hK0
     refine wp_region_inv (by kernel_rfl) (fun L act x => ∃ l0 l1 l2 l3 l4 l5 l6 l7 l8 l9 l10 l11 : Bool, ∃ u38 u39 u40 u41 u42 u43 u44 u45 u46 u47 u48 : Value, L = #[l0, l1, l2, l3, l4, l5, l6, l7, l8, l9, l10, l11] ∧ act = { tmps := #[Value.pointer (some { block := B, off := 0 }), Value.agg #[J Z n.id, J Z n.has, J Z n.spent, J Z n.earned, V n.sa n.seen.length n.sc, V n.pa n.peers.length n.pc], U, Value.pointer (some { block := w.heap.size, off := 0 }), Value.pointer (some { block := w.heap.size + 1, off := 0 }), Value.pointer (some { block := w1.heap.size, off := 0 }), Value.pointer (some { block := B, off := 0 }), J Z 2, J Z 3, Value.agg #[J Z 3, J Z 0, J Z 0, J Z 0, J Z 0, J Z 0, J Z 0, J Z 0, J Z 0], Value.pointer (some { block := w1.heap.size, off := 0 }), J Z 3, Value.bool false, Value.bool false, Value.bool false, U, U, U, U, U, U, U, U, Value.bool true, Value.bool true, Value.pointer (some { block := B, off := 0 }), J Z s, J Z (1 + s), Value.pointer (some { block := w1.heap.size, off := 2 }), Value.pointer (some { block := w.heap.size, off := 5 }), V n.pa n.peers.length n.pc, J Z ↑n.peers.length, Value.bool true, Value.bool true, Value.pointer (some { block := B, off := 0 }), Value.bool false, Value.bool true, Value.bool true, u38, u39, u40, u41, u42, u43, u44, u45, u46, u47, u48, U, U, U, U, U, U, U, U, U, U, U, U, U, U, U, U, U, U, U, U, U, U, U, U, U, U, U, U, U, U, U, U, U, U], defers := [] } ∧ NgF B w n w1.heap.size l0 l1 l2 l3 l4 l5 l6 l7 l8 l9 l10 l11 u38 u39 u40 u41 u42 u43 u44 u45 u46 u47 u48 x) ?_ ?_ ?_
     rotate_left 2
     ·exact ⟨false, false, false, false, false, false, false, false, false, false, false, false, U, U, U, U, U, U, U, U, U, U, U, rfl, rfl, ⟨⟨_, HA6.out.drew⟩, nofun, nofun, nofun, nofun, nofun, nofun, nofun, nofun, nofun, nofun, nofun, nofun⟩⟩
     ·rintro L act x i ⟨l0, l1, l2, l3, l4, l5, l6, l7, l8, l9, l10, l11, u38, u39, u40, u41, u42, u43, u44, u45, u46, u47, u48, rfl, rfl, h⟩ hi K hK
      have hi15 : i < 12 := by
       obtain ⟨_, o, ho, _⟩ := mem_ready.1 hi
       exact (Array.getElem?_eq_some_iff.1 ho).1
      have hl := (mem_ready.1 hi).1
      obtain rfl | rfl | rfl | rfl | rfl | rfl | rfl | rfl | rfl | rfl | rfl | rfl := (by omega : i = 0 ∨ i = 1 ∨ i = 2 ∨ i = 3 ∨ i = 4 ∨ i = 5 ∨ i = 6 ∨ i = 7 ∨ i = 8 ∨ i = 9 ∨ i = 10 ∨ i = 11)
      ·have e : l0 = false := hl
       subst e
       refine wpOp_run (v := .pointer (some ⟨w.heap.size, 5, none⟩)) (w' := x) (by rfl) (by rfl) ?_ (hK _ _ ⟨true, l1, l2, l3, l4, l5, l6, l7, l8, l9, l10, l11, (.pointer (some ⟨w.heap.size, 5, none⟩)), u39, u40, u41, u42, u43, u44, u45, u46, u47, u48, rfl, rfl, { h with p38 := fun _ => rfl }⟩)
       go_simp
      ·have e : l1 = false := hl
       subst e
       have d0 : l0 = true := ready_on hi 0 (by kernel_rfl)
       subst d0
       obtain ⟨t, hn⟩ := h.na
       have c5 : x.cell? ⟨w.heap.size, 5, none⟩ = some (V n.pa n.peers.length n.pc) := (hn.blkAt (i := 0) rfl).c 5 _ rfl
       refine wpOp_run (v := V n.pa n.peers.length n.pc) (w' := x) (by rfl) (by rfl) ?_ (hK _ _ ⟨true, true, l2, l3, l4, l5, l6, l7, l8, l9, l10, l11, u38, (V n.pa n.peers.length n.pc), u40, u41, u42, u43, u44, u45, u46, u47, u48, rfl, rfl, { h with p39 := fun _ => rfl }⟩)
       rw [h.p38 rfl]
       go_simp
      ·have e : l2 = false := hl
       subst e
       refine wpOp_run (v := .pointer (some ⟨B, 0, none⟩)) (w' := x) (by rfl) (by rfl) ?_ (hK _ _ ⟨l0, l1, true, l3, l4, l5, l6, l7, l8, l9, l10, l11, u38, u39, (.pointer (some ⟨B, 0, none⟩)), u41, u42, u43, u44, u45, u46, u47, u48, rfl, rfl, { h with p40 := fun _ => rfl }⟩)
       go_simp
      ·have e : l3 = false := hl
       subst e
       refine wpOp_run (v := .pointer (some ⟨w.heap.size, 5, none⟩)) (w' := x) (by rfl) (by rfl) ?_ (hK _ _ ⟨l0, l1, l2, true, l4, l5, l6, l7, l8, l9, l10, l11, u38, u39, u40, (.pointer (some ⟨w.heap.size, 5, none⟩)), u42, u43, u44, u45, u46, u47, u48, rfl, rfl, { h with p41 := fun _ => rfl }⟩)
       go_simp
      ·have e : l4 = false := hl
       subst e
       have d3 : l3 = true := ready_on hi 3 (by kernel_rfl)
       subst d3
       obtain ⟨t, hn⟩ := h.na
       have c5 : x.cell? ⟨w.heap.size, 5, none⟩ = some (V n.pa n.peers.length n.pc) := (hn.blkAt (i := 0) rfl).c 5 _ rfl
       refine wpOp_run (v := V n.pa n.peers.length n.pc) (w' := x) (by rfl) (by rfl) ?_ (hK _ _ ⟨l0, l1, l2, true, true, l5, l6, l7, l8, l9, l10, l11, u38, u39, u40, u41, (V n.pa n.peers.length n.pc), u43, u44, u45, u46, u47, u48, rfl, rfl, { h with p42 := fun _ => rfl }⟩)
       rw [h.p41 rfl]
       go_simp
      ·have e : l5 = false := hl
       subst e
       have d4 : l4 = true := ready_on hi 4 (by kernel_rfl)
       subst d4
       refine wpOp_run (v := J Z (n.peers.length : Int)) (w' := x) (by rfl) (by rfl) ?_ (hK _ _ ⟨l0, l1, l2, l3, true, true, l6, l7, l8, l9, l10, l11, u38, u39, u40, u41, u42, (J Z (n.peers.length : Int)), u44, u45, u46, u47, u48, rfl, rfl, { h with p43 := fun _ => rfl }⟩)
       rw [h.p42 rfl]
       go_simp
      ·have e : l6 = false := hl
       subst e
       have d2 : l2 = true := ready_on hi 2 (by kernel_rfl)
       subst d2
       have d5 : l5 = true := ready_on hi 5 (by kernel_rfl)
       subst d5
       refine wpOp_call (by rfl) (by rfl) ?_ (below_any B (n.peers.length : Int) x h.rd (by omega)) ?_
       ·rw [h.p40 rfl, h.p43 rfl]; go_simp
       ·rintro e w' ⟨⟨r, r0, rr, r1, rfl⟩, hr, ha⟩
        exact ⟨_, rfl, hK _ _ ⟨l0, l1, true, l3, l4, true, true, l7, l8, l9, l10, l11, u38, u39, u40, u41, u42, u43, (J Z r), u45, u46, u47, u48, rfl, rfl, h.c6 hr ha r0 (by omega)⟩⟩
      ·have e : l7 = false := hl
       subst e
       have d1 : l1 = true := ready_on hi 1 (by kernel_rfl)
       subst d1
       have d6 : l6 = true := ready_on hi 6 (by kernel_rfl)
       subst d6
       obtain ⟨r, hr, e1⟩ := h.q44 rfl
       obtain ⟨t, hn⟩ := h.na
       obtain ⟨b, off, e, _⟩ := pr_row (HN.out x (RP.apart hn)).peers.row r hr
       refine wpOp_run (v := .pointer (some ⟨b, off + r * 4, none⟩)) (w' := x) (by rfl) (by rfl) ?_ (hK _ _ ⟨l0, true, l2, l3, l4, l5, true, true, l8, l9, l10, l11, u38, u39, u40, u41, u42, u43, u44, (.pointer (some ⟨b, off + r * 4, none⟩)), u46, u47, u48, rfl, rfl, { h with q45 := fun _ => ⟨r, b, off, hr, e, rfl⟩, d7 := fun _ => rfl }⟩)
       rw [h.p39 rfl, e1, e]
       have hr2 : (r : Int) < (n.peers.length : Int) := (by omega)
       go_simp
      ·have e : l8 = false := hl
       subst e
       have d7 : l7 = true := ready_on hi 7 (by kernel_rfl)
       subst d7
       obtain ⟨r, b, off, hr, e, e1⟩ := h.q45 rfl
       refine wpOp_run (v := .pointer (some ⟨b, off + r * 4, none⟩)) (w' := x) (by rfl) (by rfl) ?_ (hK _ _ ⟨l0, l1, l2, l3, l4, l5, l6, true, true, l9, l10, l11, u38, u39, u40, u41, u42, u43, u44, u45, (.pointer (some ⟨b, off + r * 4, none⟩)), u47, u48, rfl, rfl, { h with q46 := fun _ => ⟨r, b, off, hr, e, rfl⟩ }⟩)
       rw [e1]
       go_simp
      ·have e : l9 = false := hl
       subst e
       have d8 : l8 = true := ready_on hi 8 (by kernel_rfl)
       subst d8
       obtain ⟨r, b, off, hr, e, e1⟩ := h.q46 rfl
       obtain ⟨t, hn⟩ := h.na
       obtain ⟨b2, off2, e2, _, cc, _⟩ := pr_row (HN.out x (RP.apart hn)).peers.row r hr
       rw [e] at e2
       simp only [Option.some.injEq, Addr.mk.injEq, and_true] at e2
       obtain ⟨rfl, rfl⟩ := e2
       refine wpOp_run (v := J Z (n.peers[r]).id) (w' := x) (by rfl) (by rfl) ?_ (hK _ _ ⟨l0, l1, l2, l3, l4, l5, l6, l7, true, true, l10, l11, u38, u39, u40, u41, u42, u43, u44, u45, u46, (J Z (n.peers[r]).id), u48, rfl, rfl, { h with q47 := fun _ => ⟨_, rfl⟩ }⟩)
       rw [e1]
       go_simp
      ·have e : l10 = false := hl
       subst e
       have d0 : l0 = true := ready_on hi 0 (by kernel_rfl)
       subst d0
       have d1 : l1 = true := ready_on hi 1 (by kernel_rfl)
       subst d1
       have d2 : l2 = true := ready_on hi 2 (by kernel_rfl)
       subst d2
       have d3 : l3 = true := ready_on hi 3 (by kernel_rfl)
       subst d3
       have d4 : l4 = true := ready_on hi 4 (by kernel_rfl)
       subst d4
       have d5 : l5 = true := ready_on hi 5 (by kernel_rfl)
       subst d5
       have d6 : l6 = true := ready_on hi 6 (by kernel_rfl)
       subst d6
       have d7 : l7 = true := ready_on hi 7 (by kernel_rfl)
       subst d7
       have d8 : l8 = true := ready_on hi 8 (by kernel_rfl)
       subst d8
       have d9 : l9 = true := ready_on hi 9 (by kernel_rfl)
       subst d9
       refine wpOp_run (v := .pointer (some ⟨w1.heap.size, 2, none⟩)) (w' := x) (by rfl) (by rfl) ?_ (hK _ _ ⟨true, true, true, true, true, true, true, true, true, true, true, l11, u38, u39, u40, u41, u42, u43, u44, u45, u46, u47, (.pointer (some ⟨w1.heap.size, 2, none⟩)), rfl, rfl, { h with p48 := fun _ => rfl }⟩)
       go_simp
      ·have e : l11 = false := hl
       subst e
       have d0 : l0 = true := ready_on hi 0 (by kernel_rfl)
       subst d0
       have d1 : l1 = true := ready_on hi 1 (by kernel_rfl)
       subst d1
       have d2 : l2 = true := ready_on hi 2 (by kernel_rfl)
       subst d2
       have d3 : l3 = true := ready_on hi 3 (by kernel_rfl)
       subst d3
       have d4 : l4 = true := ready_on hi 4 (by kernel_rfl)
       subst d4
       have d5 : l5 = true := ready_on hi 5 (by kernel_rfl)
       subst d5
       have d6 : l6 = true := ready_on hi 6 (by kernel_rfl)
       subst d6
       have d7 : l7 = true := ready_on hi 7 (by kernel_rfl)
       subst d7
       have d8 : l8 = true := ready_on hi 8 (by kernel_rfl)
       subst d8
       have d9 : l9 = true := ready_on hi 9 (by kernel_rfl)
       subst d9
       have d10 : l10 = true := ready_on hi 10 (by kernel_rfl)
       subst d10
       obtain ⟨v, e1⟩ := h.q47 rfl
       obtain ⟨t, hn⟩ := h.na
       refine wpOp_skip (w' := x.setCell ⟨w1.heap.size, 2, none⟩ (J Z v)) (by rfl) (by rfl) ?_ (hK _ _ ⟨true, true, true, true, true, true, true, true, true, true, true, true, u38, u39, u40, u41, u42, u43, u44, u45, u46, u47, u48, rfl, rfl, { h with na := ⟨v, hn.put v⟩ }⟩)
       rw [h.p48 rfl, e1]
       have c2 := (hn.blkAt (i := 2) rfl).c 2 _ rfl
       have fz2 := (hn.blkAt (i := 2) rfl).f 2
       go_simp
     ·rintro L act x ⟨l0, l1, l2, l3, l4, l5, l6, l7, l8, l9, l10, l11, u38, u39, u40, u41, u42, u43, u44, u45, u46, u47, u48, rfl, rfl, h⟩ hr
      have hall := ready_all hr rfl (by decide)
      have t0 : l0 = true := hall 0 (by decide)
      have t1 : l1 = true := hall 1 (by decide)
      have t2 : l2 = true := hall 2 (by decide)
      have t3 : l3 = true := hall 3 (by decide)
      have t4 : l4 = true := hall 4 (by decide)
      have t5 : l5 = true := hall 5 (by decide)
      have t6 : l6 = true := hall 6 (by decide)
      have t7 : l7 = true := hall 7 (by decide)
      have t8 : l8 = true := hall 8 (by decide)
      have t9 : l9 = true := hall 9 (by decide)
      have t10 : l10 = true := hall 10 (by decide)
      have t11 : l11 = true := hall 11 (by decide)
      subst t0 t1 t2 t3 t4 t5 t6 t7 t8 t9 t10 t11
      clear hall hr
      obtain ⟨t, hn⟩ := h.na
      clear h
      have HA6 : Hid (NaS B w n w1.heap.size 3 0 t 0 0 0 0 0 0 x) := hide hn
      clear hn
      refine hK0 _ _ ?_
      go_wp2_with fail
      refine (below_any B 30 _ HA6.out.rd (by omega)).mono ?_
      rintro e w7 ⟨⟨s, s0, _, s1, rfl⟩, hr7, ha7⟩
      have HA7 : Hid _ := hide (HA6.out.read hr7 ha7)
      have c3 := (HA7.out.blkAt (i := 2) rfl).c 3 _ rfl
      have fz3 := (HA7.out.blkAt (i := 2) rfl).f 3
      clear hr7 ha7 HA6
      go_wp2_with fail
      go_meet
      exact hide ⟨_, _, _, _, _, _, _, _, _, HA7.out.setBlk (i := 2) rfl 3 (J Z _) (by simp)⟩
    ·go_wp2_with fail
     refine (below_any B 30 _ HA6.out.rd (by omega)).mono ?_
     rintro e w7 ⟨⟨s7, s70, _, s71, rfl⟩, hr7, ha7⟩
     have HA7 : Hid _ := hide (HA6.out.read hr7 ha7)
     have c3 := (HA7.out.blkAt (i := 2) rfl).c 3 _ rfl
     have fz3 := (HA7.out.blkAt (i := 2) rfl).f 3
     clear hr7 ha7 HA6
     go_wp2_with fail
     go_meet
     exact hide ⟨_, _, _, _, _, _, _, _, _, HA7.out.setBlk (i := 2) rfl 3 (J Z _) (by simp)⟩
   ·have hp' : ¬ (0 : Int) < (n.peers.length : Int) := by omega
    go_wp2_with fail
    refine name_calls (fun W5 hW5 => ?_)
    have HA6 : Hid (NaS B w n w1.heap.size 3 0 (1 + s) 0 0 0 0 0 0 W5) := hide (by rw [hW5]; exact HA4.out.put (1 + s))
    clear hW5 HA4 c2 f2 n5
    refine (below_any B 30 _ HA6.out.rd (by omega)).mono ?_
    rintro e w7 ⟨⟨s7, s70, _, s71, rfl⟩, hr7, ha7⟩
    have HA7 : Hid _ := hide (HA6.out.read hr7 ha7)
    have c3 := (HA7.out.blkAt (i := 2) rfl).c 3 _ rfl
    have fz3 := (HA7.out.blkAt (i := 2) rfl).f 3
    clear hr7 ha7 HA6
    go_wp2_with fail
    go_meet
    exact hide ⟨_, _, _, _, _, _, _, _, _, HA7.out.setBlk (i := 2) rfl 3 (J Z _) (by simp)⟩
  ·go_upto_region 13 with fail
   rename_i K0 hK0
   refine wp_region_inv (by kernel_rfl) (fun L act x => ∃ l0 l1 l2 l3 l4 l5 l6 l7 l8 l9 l10 l11 l12 l13 : Bool, ∃ u55 u56 u57 u58 u59 u60 u61 u62 u63 u64 u65 u66 u67 : Value, L = #[l0, l1, l2, l3, l4, l5, l6, l7, l8, l9, l10, l11, l12, l13] ∧ act = { tmps := #[Value.pointer (some { block := B, off := 0 }), Value.agg #[J Z n.id, J Z n.has, J Z n.spent, J Z n.earned, V n.sa n.seen.length n.sc, V n.pa n.peers.length n.pc], U, Value.pointer (some { block := w.heap.size, off := 0 }), Value.pointer (some { block := w.heap.size + 1, off := 0 }), Value.pointer (some { block := w1.heap.size, off := 0 }), Value.pointer (some { block := B, off := 0 }), J Z 3, J Z (1 + 3), Value.agg #[J Z (1 + 3), J Z 0, J Z 0, J Z 0, J Z 0, J Z 0, J Z 0, J Z 0, J Z 0], Value.pointer (some { block := w1.heap.size, off := 0 }), J Z (1 + 3), Value.bool false, Value.bool false, Value.bool false, U, U, U, U, U, U, U, U, Value.bool false, Value.bool false, U, U, U, U, U, U, U, U, U, U, U, U, U, U, U, U, U, U, U, U, U, U, U, U, U, U, U, U, Value.bool true, Value.bool true, u55, u56, u57, u58, u59, u60, u61, u62, u63, u64, u65, u66, u67, U, U, U, U, U, U, U, U, U, U, U, U, U, U, U], defers := [] } ∧ NmF B w n w1.heap.size l0 l1 l2 l3 l4 l5 l6 l7 l8 l9 l10 l11 l12 l13 u55 u56 u57 u58 u59 u60 u61 u62 u63 u64 u65 u66 u67 x) ?_ ?_ ?_
   rotate_left 2
   ·exact ⟨false, false, false, false, false, false, false, false, false, false, false, false, false, false, U, U, U, U, U, U, U, U, U, U, U, U, U, rfl, rfl, ⟨⟨_, _, _, _, _, HA.out.drew⟩, nofun, nofun, nofun, nofun, nofun, nofun, nofun, nofun, nofun, nofun, nofun, nofun, nofun, nofun, nofun, nofun⟩⟩
   ·rintro L act x i ⟨l0, l1, l2, l3, l4, l5, l6, l7, l8, l9, l10, l11, l12, l13, u55, u56, u57, u58, u59, u60, u61, u62, u63, u64, u65, u66, u67, rfl, rfl, h⟩ hi K hK
    have hi15 : i < 14 := by
     obtain ⟨_, o, ho, _⟩ := mem_ready.1 hi
     exact (Array.getElem?_eq_some_iff.1 ho).1
    have hl := (mem_ready.1 hi).1
    obtain rfl | rfl | rfl | rfl | rfl | rfl | rfl | rfl | rfl | rfl | rfl | rfl | rfl | rfl := (by omega : i = 0 ∨ i = 1 ∨ i = 2 ∨ i = 3 ∨ i = 4 ∨ i = 5 ∨ i = 6 ∨ i = 7 ∨ i = 8 ∨ i = 9 ∨ i = 10 ∨ i = 11 ∨ i = 12 ∨ i = 13)
    ·have e : l0 = false := hl
     subst e
     refine wpOp_run (v := .pointer (some ⟨B, 0, none⟩)) (w' := x) (by rfl) (by rfl) ?_ (hK _ _ ⟨true, l1, l2, l3, l4, l5, l6, l7, l8, l9, l10, l11, l12, l13, (.pointer (some ⟨B, 0, none⟩)), u56, u57, u58, u59, u60, u61, u62, u63, u64, u65, u66, u67, rfl, rfl, { h with p55 := fun _ => rfl }⟩)
     go_simp
    ·have e : l1 = false := hl
     subst e
     have d0 : l0 = true := ready_on hi 0 (by kernel_rfl)
     subst d0
     refine wpOp_call (by rfl) (by rfl) ?_ (below_any B 2 x h.rd (by omega)) ?_
     ·rw [h.p55 rfl]; go_simp
     ·rintro e w' ⟨⟨r, r0, _, r1, rfl⟩, hr, ha⟩
      exact ⟨_, rfl, hK _ _ ⟨true, true, l2, l3, l4, l5, l6, l7, l8, l9, l10, l11, l12, l13, u55, (J Z r), u57, u58, u59, u60, u61, u62, u63, u64, u65, u66, u67, rfl, rfl, h.c1 hr ha r0 r1⟩⟩
    ·have e : l2 = false := hl
     subst e
     have d1 : l1 = true := ready_on hi 1 (by kernel_rfl)
     subst d1
     obtain ⟨r, r0, r1, e1⟩ := h.q56 rfl
     refine wpOp_run (v := J Z (2 + r)) (w' := x) (by rfl) (by rfl) ?_ (hK _ _ ⟨l0, true, true, l3, l4, l5, l6, l7, l8, l9, l10, l11, l12, l13, u55, u56, (J Z (2 + r)), u58, u59, u60, u61, u62, u63, u64, u65, u66, u67, rfl, rfl, { h with q57 := fun _ => ⟨_, (by omega), (by omega), rfl⟩, d2 := fun _ => rfl }⟩)
     rw [e1]
     go_simp
     simp [IntKind.wrap, IntKind.bits, IntKind.signed]
     omega
    ·have e : l3 = false := hl
     subst e
     refine wpOp_run (v := .pointer (some ⟨w.heap.size, 0, none⟩)) (w' := x) (by rfl) (by rfl) ?_ (hK _ _ ⟨l0, l1, l2, true, l4, l5, l6, l7, l8, l9, l10, l11, l12, l13, u55, u56, u57, (.pointer (some ⟨w.heap.size, 0, none⟩)), u59, u60, u61, u62, u63, u64, u65, u66, u67, rfl, rfl, { h with p58 := fun _ => rfl }⟩)
     go_simp
    ·have e : l4 = false := hl
     subst e
     have d3 : l3 = true := ready_on hi 3 (by kernel_rfl)
     subst d3
     obtain ⟨f1, f2, f3, f4, f5, hn⟩ := h.na
     have c0 : x.cell? ⟨w.heap.size, 0, none⟩ = some (J Z n.id) := (hn.blkAt (i := 0) rfl).c 0 _ rfl
     refine wpOp_run (v := J Z n.id) (w' := x) (by rfl) (by rfl) ?_ (hK _ _ ⟨l0, l1, l2, true, true, l5, l6, l7, l8, l9, l10, l11, l12, l13, u55, u56, u57, u58, (J Z n.id), u60, u61, u62, u63, u64, u65, u66, u67, rfl, rfl, { h with p59 := fun _ => rfl }⟩)
     rw [h.p58 rfl]
     go_simp
    ·have e : l5 = false := hl
     subst e
     refine wpOp_run (v := .pointer (some ⟨B, 0, none⟩)) (w' := x) (by rfl) (by rfl) ?_ (hK _ _ ⟨l0, l1, l2, l3, l4, true, l6, l7, l8, l9, l10, l11, l12, l13, u55, u56, u57, u58, u59, (.pointer (some ⟨B, 0, none⟩)), u61, u62, u63, u64, u65, u66, u67, rfl, rfl, { h with p60 := fun _ => rfl }⟩)
     go_simp
    ·have e : l6 = false := hl
     subst e
     have d1 : l1 = true := ready_on hi 1 (by kernel_rfl)
     subst d1
     have d5 : l5 = true := ready_on hi 5 (by kernel_rfl)
     subst d5
     refine wpOp_call (by rfl) (by rfl) ?_ (below_any B 2 x h.rd (by omega)) ?_
     ·rw [h.p60 rfl]; go_simp
     ·rintro e w' ⟨⟨r, r0, _, r1, rfl⟩, hr, ha⟩
      exact ⟨_, rfl, hK _ _ ⟨l0, true, l2, l3, l4, true, true, l7, l8, l9, l10, l11, l12, l13, u55, u56, u57, u58, u59, u60, (J Z r), u62, u63, u64, u65, u66, u67, rfl, rfl, h.c6 hr ha r0 r1⟩⟩
    ·have e : l7 = false := hl
     subst e
     have d6 : l6 = true := ready_on hi 6 (by kernel_rfl)
     subst d6
     obtain ⟨r, r0, r1, e1⟩ := h.q61 rfl
     refine wpOp_run (v := J Z (1 + r)) (w' := x) (by rfl) (by rfl) ?_ (hK _ _ ⟨l0, l1, l2, l3, l4, l5, true, true, l8, l9, l10, l11, l12, l13, u55, u56, u57, u58, u59, u60, u61, (J Z (1 + r)), u63, u64, u65, u66, u67, rfl, rfl, { h with q62 := fun _ => ⟨_, (by omega), (by omega), rfl⟩, d7 := fun _ => rfl }⟩)
     rw [e1]
     go_simp
     simp [IntKind.wrap, IntKind.bits, IntKind.signed]
     omega
    ·have e : l8 = false := hl
     subst e
     refine wpOp_run (v := .pointer (some ⟨B, 0, none⟩)) (w' := x) (by rfl) (by rfl) ?_ (hK _ _ ⟨l0, l1, l2, l3, l4, l5, l6, l7, true, l9, l10, l11, l12, l13, u55, u56, u57, u58, u59, u60, u61, u62, (.pointer (some ⟨B, 0, none⟩)), u64, u65, u66, u67, rfl, rfl, { h with p63 := fun _ => rfl }⟩)
     go_simp
    ·have e : l9 = false := hl
     subst e
     have d6 : l6 = true := ready_on hi 6 (by kernel_rfl)
     subst d6
     have d8 : l8 = true := ready_on hi 8 (by kernel_rfl)
     subst d8
     refine wpOp_call (by rfl) (by rfl) ?_ (below_any B 4 x h.rd (by omega)) ?_
     ·rw [h.p63 rfl]; go_simp
     ·rintro e w' ⟨⟨r, r0, _, r1, rfl⟩, hr, ha⟩
      exact ⟨_, rfl, hK _ _ ⟨l0, l1, l2, l3, l4, l5, true, l7, true, true, l10, l11, l12, l13, u55, u56, u57, u58, u59, u60, u61, u62, u63, (J Z r), u65, u66, u67, rfl, rfl, h.c9 hr ha r0 r1⟩⟩
    ·have e : l10 = false := hl
     subst e
     have d9 : l9 = true := ready_on hi 9 (by kernel_rfl)
     subst d9
     obtain ⟨r, r0, r1, e1⟩ := h.q64 rfl
     refine wpOp_run (v := J Z (1 + r)) (w' := x) (by rfl) (by rfl) ?_ (hK _ _ ⟨l0, l1, l2, l3, l4, l5, l6, l7, l8, true, true, l11, l12, l13, u55, u56, u57, u58, u59, u60, u61, u62, u63, u64, (J Z (1 + r)), u66, u67, rfl, rfl, { h with q65 := fun _ => ⟨_, (by omega), (by omega), rfl⟩, d10 := fun _ => rfl }⟩)
     rw [e1]
     go_simp
     simp [IntKind.wrap, IntKind.bits, IntKind.signed]
     omega
    ·have e : l11 = false := hl
     subst e
     have d2 : l2 = true := ready_on hi 2 (by kernel_rfl)
     subst d2
     have d4 : l4 = true := ready_on hi 4 (by kernel_rfl)
     subst d4
     have d7 : l7 = true := ready_on hi 7 (by kernel_rfl)
     subst d7
     have d10 : l10 = true := ready_on hi 10 (by kernel_rfl)
     subst d10
     obtain ⟨a, a0, a1, ea⟩ := h.q57 rfl
     obtain ⟨b, b0, b1, eb⟩ := h.q62 rfl
     obtain ⟨c, c0, c1, ec⟩ := h.q65 rfl
     refine wpOp_run (v := .agg #[J Z a, J Z n.id, J Z b, J Z c, J Z 0]) (w' := x) (by rfl) (by rfl) ?_ (hK _ _ ⟨l0, l1, true, l3, true, l5, l6, true, l8, l9, true, true, l12, l13, u55, u56, u57, u58, u59, u60, u61, u62, u63, u64, u65, (.agg #[J Z a, J Z n.id, J Z b, J Z c, J Z 0]), u67, rfl, rfl, { h with q66 := fun _ => ⟨_, _, _, rfl⟩ }⟩)
     rw [ea, eb, ec, h.p59 rfl]
     go_simp
    ·have e : l12 = false := hl
     subst e
     have d0 : l0 = true := ready_on hi 0 (by kernel_rfl)
     subst d0
     have d1 : l1 = true := ready_on hi 1 (by kernel_rfl)
     subst d1
     have d2 : l2 = true := ready_on hi 2 (by kernel_rfl)
     subst d2
     have d3 : l3 = true := ready_on hi 3 (by kernel_rfl)
     subst d3
     have d4 : l4 = true := ready_on hi 4 (by kernel_rfl)
     subst d4
     have d5 : l5 = true := ready_on hi 5 (by kernel_rfl)
     subst d5
     have d6 : l6 = true := ready_on hi 6 (by kernel_rfl)
     subst d6
     have d7 : l7 = true := ready_on hi 7 (by kernel_rfl)
     subst d7
     have d8 : l8 = true := ready_on hi 8 (by kernel_rfl)
     subst d8
     have d9 : l9 = true := ready_on hi 9 (by kernel_rfl)
     subst d9
     have d10 : l10 = true := ready_on hi 10 (by kernel_rfl)
     subst d10
     have d11 : l11 = true := ready_on hi 11 (by kernel_rfl)
     subst d11
     refine wpOp_run (v := .pointer (some ⟨w1.heap.size, 4, none⟩)) (w' := x) (by rfl) (by rfl) ?_ (hK _ _ ⟨true, true, true, true, true, true, true, true, true, true, true, true, true, l13, u55, u56, u57, u58, u59, u60, u61, u62, u63, u64, u65, u66, (.pointer (some ⟨w1.heap.size, 4, none⟩)), rfl, rfl, { h with p67 := fun _ => rfl }⟩)
     go_simp
    ·have e : l13 = false := hl
     subst e
     have d0 : l0 = true := ready_on hi 0 (by kernel_rfl)
     subst d0
     have d1 : l1 = true := ready_on hi 1 (by kernel_rfl)
     subst d1
     have d2 : l2 = true := ready_on hi 2 (by kernel_rfl)
     subst d2
     have d3 : l3 = true := ready_on hi 3 (by kernel_rfl)
     subst d3
     have d4 : l4 = true := ready_on hi 4 (by kernel_rfl)
     subst d4
     have d5 : l5 = true := ready_on hi 5 (by kernel_rfl)
     subst d5
     have d6 : l6 = true := ready_on hi 6 (by kernel_rfl)
     subst d6
     have d7 : l7 = true := ready_on hi 7 (by kernel_rfl)
     subst d7
     have d8 : l8 = true := ready_on hi 8 (by kernel_rfl)
     subst d8
     have d9 : l9 = true := ready_on hi 9 (by kernel_rfl)
     subst d9
     have d10 : l10 = true := ready_on hi 10 (by kernel_rfl)
     subst d10
     have d11 : l11 = true := ready_on hi 11 (by kernel_rfl)
     subst d11
     have d12 : l12 = true := ready_on hi 12 (by kernel_rfl)
     subst d12
     obtain ⟨a, b, c, e1⟩ := h.q66 rfl
     obtain ⟨f1, f2, f3, f4, f5, hn⟩ := h.na
     refine wpOp_skip (w' := ((((x.setCell ⟨w1.heap.size, 4, none⟩ (J Z a)).setCell ⟨w1.heap.size, 5, none⟩ (J Z n.id)).setCell ⟨w1.heap.size, 6, none⟩ (J Z b)).setCell ⟨w1.heap.size, 7, none⟩ (J Z c)).setCell ⟨w1.heap.size, 8, none⟩ (J Z 0)) (by rfl) (by rfl) ?_ (hK _ _ ⟨true, true, true, true, true, true, true, true, true, true, true, true, true, true, u55, u56, u57, u58, u59, u60, u61, u62, u63, u64, u65, u66, u67, rfl, rfl, { h with na := NaS.put5 hn a n.id b c 0 }⟩)
     rw [h.p67 rfl, e1]
     have c4 := (hn.blkAt (i := 2) rfl).c 4 _ rfl
     have f4' := (hn.blkAt (i := 2) rfl).f 4
     have c5 := (hn.blkAt (i := 2) rfl).c 5 _ rfl
     have f5' := (hn.blkAt (i := 2) rfl).f 5
     have c6 := (hn.blkAt (i := 2) rfl).c 6 _ rfl
     have f6' := (hn.blkAt (i := 2) rfl).f 6
     have c7 := (hn.blkAt (i := 2) rfl).c 7 _ rfl
     have f7' := (hn.blkAt (i := 2) rfl).f 7
     have c8 := (hn.blkAt (i := 2) rfl).c 8 _ rfl
     have f8' := (hn.blkAt (i := 2) rfl).f 8
     go_simp
   ·rintro L act x ⟨l0, l1, l2, l3, l4, l5, l6, l7, l8, l9, l10, l11, l12, l13, u55, u56, u57, u58, u59, u60, u61, u62, u63, u64, u65, u66, u67, rfl, rfl, h⟩ hr
    have hall := ready_all hr rfl (by decide)
    have t0 : l0 = true := hall 0 (by decide)
    have t1 : l1 = true := hall 1 (by decide)
    have t2 : l2 = true := hall 2 (by decide)
    have t3 : l3 = true := hall 3 (by decide)
    have t4 : l4 = true := hall 4 (by decide)
    have t5 : l5 = true := hall 5 (by decide)
    have t6 : l6 = true := hall 6 (by decide)
    have t7 : l7 = true := hall 7 (by decide)
    have t8 : l8 = true := hall 8 (by decide)
    have t9 : l9 = true := hall 9 (by decide)
    have t10 : l10 = true := hall 10 (by decide)
    have t11 : l11 = true := hall 11 (by decide)
    have t12 : l12 = true := hall 12 (by decide)
    have t13 : l13 = true := hall 13 (by decide)
    subst t0 t1 t2 t3 t4 t5 t6 t7 t8 t9 t10 t11 t12 t13
    clear hall hr
    obtain ⟨f1, f2, f3, f4, f5, hn⟩ := h.na
    clear h
    have HA6 : Hid (NaS B w n w1.heap.size 4 0 0 0 f1 f2 f3 f4 f5 x) := hide hn
    have c6 := (hn.blkAt (i := 2) rfl).c 6 _ rfl
    clear hn
    refine hK0 _ _ ?_
    by_cases hk1 : f3 = 1
    ·subst hk1
     go_wp2_with fail
     refine (below_any B 20 _ HA6.out.rd (by omega)).mono ?_
     rintro e w7 ⟨⟨s, s0, _, s1, rfl⟩, hr7, ha7⟩
     have HA7 : Hid _ := hide (HA6.out.read hr7 ha7)
     have c8 := (HA7.out.blkAt (i := 2) rfl).c 8 _ rfl
     have fz8 := (HA7.out.blkAt (i := 2) rfl).f 8
     clear hr7 ha7 HA6 c6
     go_wp2_with fail
     go_meet
     exact hide ⟨_, _, _, _, _, _, _, _, _, HA7.out.setBlk (i := 2) rfl 8 (J Z _) (by simp)⟩
    ·have hk2 : (f3 == 1) = false := by simpa using hk1
     go_wp2_with fail
     go_meet
     exact hide ⟨_, _, _, _, _, _, _, _, _, HA6.out⟩
  ·go_wp2_with fail
   go_meet
   exact hide ⟨_, _, _, _, _, _, _, _, _, HA.out⟩
 case rest =>
  obtain ⟨kd, ai, ato, am, g1, g2, g3, g4, g5, hc⟩ := hcut.out
  have HC : Hid _ := hide hc
  clear hcut hc
  go_wp2_with fail
  refine (once_any B 40 _ HC.out.rd (by omega) (by omega)).mono ?_
  rintro e w6 ⟨⟨bb, rfl⟩, hr6, ha6⟩
  have H6 : Hid (NaS B w n w1.heap.size kd ai ato am g1 g2 g3 g4 g5 w6) := hide (HC.out.read hr6 ha6)
  clear hr6 ha6 HC
  cases bb
  ·have HQ : Hid _ := hide (H6.out.set9 (i := 1) rfl (J Z kd) (J Z ai) (J Z ato) (J Z am) (J Z g1) (J Z g2) (J Z g3) (J Z g4) (J Z g5))
   have m0_ := (H6.out.blkAt (i := 2) rfl).c 0 _ rfl
   have r0_ := (H6.out.blkAt (i := 1) rfl).c 0 _ rfl
   have rf0_ := (H6.out.blkAt (i := 1) rfl).f 0
   have m1_ := (H6.out.blkAt (i := 2) rfl).c 1 _ rfl
   have r1_ := (H6.out.blkAt (i := 1) rfl).c 1 _ rfl
   have rf1_ := (H6.out.blkAt (i := 1) rfl).f 1
   have m2_ := (H6.out.blkAt (i := 2) rfl).c 2 _ rfl
   have r2_ := (H6.out.blkAt (i := 1) rfl).c 2 _ rfl
   have rf2_ := (H6.out.blkAt (i := 1) rfl).f 2
   have m3_ := (H6.out.blkAt (i := 2) rfl).c 3 _ rfl
   have r3_ := (H6.out.blkAt (i := 1) rfl).c 3 _ rfl
   have rf3_ := (H6.out.blkAt (i := 1) rfl).f 3
   have m4_ := (H6.out.blkAt (i := 2) rfl).c 4 _ rfl
   have r4_ := (H6.out.blkAt (i := 1) rfl).c 4 _ rfl
   have rf4_ := (H6.out.blkAt (i := 1) rfl).f 4
   have m5_ := (H6.out.blkAt (i := 2) rfl).c 5 _ rfl
   have r5_ := (H6.out.blkAt (i := 1) rfl).c 5 _ rfl
   have rf5_ := (H6.out.blkAt (i := 1) rfl).f 5
   have m6_ := (H6.out.blkAt (i := 2) rfl).c 6 _ rfl
   have r6_ := (H6.out.blkAt (i := 1) rfl).c 6 _ rfl
   have rf6_ := (H6.out.blkAt (i := 1) rfl).f 6
   have m7_ := (H6.out.blkAt (i := 2) rfl).c 7 _ rfl
   have r7_ := (H6.out.blkAt (i := 1) rfl).c 7 _ rfl
   have rf7_ := (H6.out.blkAt (i := 1) rfl).f 7
   have m8_ := (H6.out.blkAt (i := 2) rfl).c 8 _ rfl
   have r8_ := (H6.out.blkAt (i := 1) rfl).c 8 _ rfl
   have rf8_ := (H6.out.blkAt (i := 1) rfl).f 8
   go_wp2
   refine name_post9 (fun W9 hW9 => ?_)
   have hq := HQ.out
   rw [← hW9] at hq
   have z_ := hq.blkAt (i := 1) rfl
   have g0_ := z_.c 0 _ rfl
   have g1_ := z_.c 1 _ rfl
   have g2_ := z_.c 2 _ rfl
   have g3_ := z_.c 3 _ rfl
   have g4_ := z_.c 4 _ rfl
   have g5_ := z_.c 5 _ rfl
   have g6_ := z_.c 6 _ rfl
   have g7_ := z_.c 7 _ rfl
   have g8_ := z_.c 8 _ rfl
   exact bodyPost_ret (v := Ac.v ⟨kd, ai, ato, am, ⟨g1, g2, g3, g4, g5⟩⟩) (by simp [results, Try.results13, go_sem, g0_, g1_, g2_, g3_, g4_, g5_, g6_, g7_, g8_, Ac.v]) rfl ⟨⟨_, rfl⟩, hq.rd, hq.apart⟩
  ·go_wp2_with fail
   refine (off_any B 0 30 _ H6.out.rd (by omega) (by omega) (by omega)).mono ?_
   rintro e w7 ⟨⟨am2, m0, m1, rfl⟩, hr7, ha7⟩
   have H7 : Hid (NaS B w n w1.heap.size kd ai ato am g1 g2 g3 g4 g5 w7) := hide (H6.out.read hr7 ha7)
   have c3 := (H7.out.blkAt (i := 2) rfl).c 3 _ rfl
   have fz3 := (H7.out.blkAt (i := 2) rfl).f 3
   clear hr7 ha7 H6
   go_upto_region 18 with fail
   refine name_world9 (fun W8 hW8 => ?_)
   have H8 : Hid (NaS B w n w1.heap.size kd ai ato am2 g1 g2 g3 g4 g5 W8) := hide (by rw [hW8]; exact RP.setBlk (i := 2) H7.out rfl 3 (J Z am2) (by simp))
   clear hW8 H7 c3 fz3
   have HQ : Hid _ := hide (H8.out.set9 (i := 1) rfl (J Z kd) (J Z ai) (J Z ato) (J Z am2) (J Z g1) (J Z g2) (J Z g3) (J Z g4) (J Z g5))
   have m0_ := (H8.out.blkAt (i := 2) rfl).c 0 _ rfl
   have r0_ := (H8.out.blkAt (i := 1) rfl).c 0 _ rfl
   have rf0_ := (H8.out.blkAt (i := 1) rfl).f 0
   have m1_ := (H8.out.blkAt (i := 2) rfl).c 1 _ rfl
   have r1_ := (H8.out.blkAt (i := 1) rfl).c 1 _ rfl
   have rf1_ := (H8.out.blkAt (i := 1) rfl).f 1
   have m2_ := (H8.out.blkAt (i := 2) rfl).c 2 _ rfl
   have r2_ := (H8.out.blkAt (i := 1) rfl).c 2 _ rfl
   have rf2_ := (H8.out.blkAt (i := 1) rfl).f 2
   have m3_ := (H8.out.blkAt (i := 2) rfl).c 3 _ rfl
   have r3_ := (H8.out.blkAt (i := 1) rfl).c 3 _ rfl
   have rf3_ := (H8.out.blkAt (i := 1) rfl).f 3
   have m4_ := (H8.out.blkAt (i := 2) rfl).c 4 _ rfl
   have r4_ := (H8.out.blkAt (i := 1) rfl).c 4 _ rfl
   have rf4_ := (H8.out.blkAt (i := 1) rfl).f 4
   have m5_ := (H8.out.blkAt (i := 2) rfl).c 5 _ rfl
   have r5_ := (H8.out.blkAt (i := 1) rfl).c 5 _ rfl
   have rf5_ := (H8.out.blkAt (i := 1) rfl).f 5
   have m6_ := (H8.out.blkAt (i := 2) rfl).c 6 _ rfl
   have r6_ := (H8.out.blkAt (i := 1) rfl).c 6 _ rfl
   have rf6_ := (H8.out.blkAt (i := 1) rfl).f 6
   have m7_ := (H8.out.blkAt (i := 2) rfl).c 7 _ rfl
   have r7_ := (H8.out.blkAt (i := 1) rfl).c 7 _ rfl
   have rf7_ := (H8.out.blkAt (i := 1) rfl).f 7
   have m8_ := (H8.out.blkAt (i := 2) rfl).c 8 _ rfl
   have r8_ := (H8.out.blkAt (i := 1) rfl).c 8 _ rfl
   have rf8_ := (H8.out.blkAt (i := 1) rfl).f 8
   go_wp2
   refine name_post9 (fun W9 hW9 => ?_)
   have hq := HQ.out
   rw [← hW9] at hq
   have z_ := hq.blkAt (i := 1) rfl
   have g0_ := z_.c 0 _ rfl
   have g1_ := z_.c 1 _ rfl
   have g2_ := z_.c 2 _ rfl
   have g3_ := z_.c 3 _ rfl
   have g4_ := z_.c 4 _ rfl
   have g5_ := z_.c 5 _ rfl
   have g6_ := z_.c 6 _ rfl
   have g7_ := z_.c 7 _ rfl
   have g8_ := z_.c 8 _ rfl
   exact bodyPost_ret (v := Ac.v ⟨kd, ai, ato, am2, ⟨g1, g2, g3, g4, g5⟩⟩) (by simp [results, Try.results13, go_sem, g0_, g1_, g2_, g3_, g4_, g5_, g6_, g7_, g8_, Ac.v]) rfl ⟨⟨_, rfl⟩, hq.rd, hq.apart⟩
end Go.Proofs.Ytkcpoibhlnjldaa
