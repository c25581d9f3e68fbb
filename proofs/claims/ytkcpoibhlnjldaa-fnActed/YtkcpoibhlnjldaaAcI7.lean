/- The contract of the program's give, where it packs. -/
import Derived.Test.YtkcpoibhlnjldaaBb
import Derived.Test.YtkcpoibhlnjldaaBa
namespace Go.Proofs.Ytkcpoibhlnjldaa
open Go.Value renaming int → J, slice → V
open Go.IntKind renaming i64 → Z
open Go renaming undef → U
open Go.ChangeShapes Go.WideShapes Go.ChangeAt Go.RowKit
set_option linter.unusedVariables false
set_option maxRecDepth 100000
theorem name_world {P : Program} {c : Code} {Q : Exit → Act → World → Prop} {a : Act} {w : World} (h : ∀ W, W = w → c.wp P Q a W) : c.wp P Q a w := h w rfl
/-- given: a new row, the end written anew, less of its own, and one message -/
def GiveEnd (B b o : Nat) (id has to amt : Int) (E : En) (p : Prc) (w : World) (e : Ending) (w' : World) : Prop := ∃ g, e = .returned (.tuple #[V (some ⟨g, 0, none⟩) 1 1, J Z 0]) ∧ ∃ w2 v o1 o2 W, Below w.heap.size w w2 ∧ NewRow 2 prcCells E.out w v w2 ∧ W = (((setEnd w2 b o v E).setCell ⟨B, 1, none⟩ (J Z (has - amt))).alloc o1).alloc o2 ∧ Below W.heap.size W w' ∧ W.heap.size ≤ g ∧ Blk g [J Z id, J Z to, J Z 1, J Z p.seq, J Z p.amt] w'
structure GvF (wp : World) (B P : Nat) (id to seq am : Int) (l0 l1 l2 l3 l4 l5 l6 l7 l8 l9 : Bool) (u6 u7 u45 u46 u47 u48 u49 u50 u51 u52 : Value) (x : World) : Prop where
 bel : Below wp.heap.size wp x
 q51 : l6 = true → u51 = .agg #[J Z id, J Z to, J Z 1, J Z seq, J Z am]
 d7 : l7 = true → l6 = true
 d8 : l8 = true → l7 = true
 q52 : l7 = true → ∃ g, u52 = V (some ⟨g, 0, none⟩) 1 1 ∧ wp.heap.size ≤ g ∧ Blk g [J Z id, J Z to, J Z 1, J Z seq, J Z am] x
 q6 : l8 = true → u6 = u52
 p45 : l0 = true → u45 = .pointer (some ⟨B, 0, none⟩)
 p46 : l1 = true → u46 = .pointer (some ⟨B, 0, none⟩)
 p47 : l2 = true → u47 = .pointer (some ⟨B, 0, none⟩)
 p48 : l3 = true → u48 = J Z id
 p49 : l4 = true → u49 = J Z to
 p50 : l5 = true → u50 = .agg #[J Z seq, J Z am]
 p7 : l9 = true → u7 = J Z 0
set_option maxHeartbeats 4000000 in
theorem give_yes (B b off k : Nat) (v2 v3 v4 : Value) (id : Int) (has : Int) (l : List Pr) (pc : Nat) (to amt : Int) (w : World) (K : Blk B [J Z id, J Z has, v2, v3, v4, V (some ⟨b, off, none⟩) l.length pc] w) (hl : l.length ≤ 1048576) (h : RowAt 4 prCells w (some ⟨b, off, none⟩) l) (hk : k < l.length) (hf : fi (l.map Pr.id) to = some k) (hq : ¬ has < amt) (hsm : (l[k]).E.out.length ≤ 1048576) (hr : RowAt 2 prcCells w (l[k]).a (l[k]).E.out) (q : pkOk (l[k]).E amt = true) (hne : B ≠ b) (hfz : ∀ j, w.frozen? ⟨b, j, none⟩ = false) (hbd : 0 ≤ has ∧ has ≤ 10000000000000) (hba : 0 ≤ amt) :
  Calls Try.prog 43 #[.pointer (some ⟨B, 0, none⟩), J Z to, J Z amt] w fun e w' => GiveEnd B b (off + k * 4) id has to amt (pkE (l[k]).E amt) (pkP (l[k]).E amt) w e w' := by
 have HK : Hid _ := hide K
 have HC : Hid _ := hide h
 have HF : Hid _ := hide hf
 have HR : Hid _ := hide hr
 obtain ⟨b', off', hpa, hb, c0, c1, c2, c3⟩ := pr_row h k hk
 simp only [Option.some.injEq, Addr.mk.injEq, and_true] at hpa
 obtain ⟨rfl, rfl⟩ := hpa
 clear K h hf hr c0
 go_enter Try.func43, Try.ntmps43
 go_wp2_with fail
 refine (endTo_any B _ _ v2 v3 v4 _ l pc to w HK.out hl HC.out).mono ?_
 rw [endPtr_hit HF.out]
 rintro e w1 ⟨rfl, hb1⟩
 have HB1 : Hid _ := hide hb1
 have d1 : w1.cell? ⟨B, 1, none⟩ = some (J Z has) := (hb1.cell (p := ⟨B, 1, none⟩) HK.out.lt).trans (HK.out.c 1 _ rfl)
 have e1 := (hb1.cell (p := ⟨b, off + k * 4 + 1, none⟩) hb).trans c1
 have e2 := (hb1.cell (p := ⟨b, off + k * 4 + 2, none⟩) hb).trans c2
 have e3 := (hb1.cell (p := ⟨b, off + k * 4 + 3, none⟩) hb).trans c3
 clear hb1
 go_wp2_with fail
 refine (implPacked_any _ (l[k]).E.out _ _ _ amt w1 hsm (HR.out.below HB1.out)).mono ?_
 rintro e w2 ⟨hb2, v, rfl, hn2⟩
 obtain ⟨g4, a4, cap4, hg4, rfl, ho4⟩ := hn2
 have HB2 : Hid (Below w.heap.size w w2) := hide (below_trans HB1.out hb2)
 have hne' : b ≠ B := fun e => hne e.symm
 have hb3 : b < w2.heap.size := Nat.lt_of_lt_of_le hb HB2.out.size
 have hB3 : B < w2.heap.size := Nat.lt_of_lt_of_le HK.out.lt HB2.out.size
 have eW : IntKind.i64.wrap (has - amt) = has - amt := wrap_in (by omega) (by omega)
 have m0 : w2.cell? ⟨B, 0, none⟩ = some (J Z id) := (HB2.out.cell (p := ⟨B, 0, none⟩) HK.out.lt).trans (HK.out.c 0 _ rfl)
 have m1 : w2.cell? ⟨B, 1, none⟩ = some (J Z has) := (HB2.out.cell (p := ⟨B, 1, none⟩) HK.out.lt).trans (HK.out.c 1 _ rfl)
 have mf : w2.frozen? ⟨B, 1, none⟩ = false := (HB2.out.frozen (p := ⟨B, 1, none⟩) HK.out.lt).trans (HK.out.f 1)
 have g1 : w2.cell? ⟨b, off + k * 4 + 1, none⟩ = _ := (HB2.out.cell (p := ⟨b, off + k * 4 + 1, none⟩) hb).trans c1
 have z1 : w2.frozen? ⟨b, off + k * 4 + 1, none⟩ = false := (HB2.out.frozen (p := ⟨b, off + k * 4 + 1, none⟩) hb).trans (hfz _)
 have g2 : w2.cell? ⟨b, off + k * 4 + 1 + 1, none⟩ = _ := (HB2.out.cell (p := ⟨b, off + k * 4 + 2, none⟩) hb).trans c2
 have z2 : w2.frozen? ⟨b, off + k * 4 + 1 + 1, none⟩ = false := (HB2.out.frozen (p := ⟨b, off + k * 4 + 2, none⟩) hb).trans (hfz _)
 have g3 : w2.cell? ⟨b, off + k * 4 + 1 + 2, none⟩ = _ := (HB2.out.cell (p := ⟨b, off + k * 4 + 3, none⟩) hb).trans c3
 have z3 : w2.frozen? ⟨b, off + k * 4 + 1 + 2, none⟩ = false := (HB2.out.frozen (p := ⟨b, off + k * 4 + 3, none⟩) hb).trans (hfz _)
 have hsz : w.heap.size ≤ w1.heap.size := HB1.out.size
 have HNR : Hid (NewRow 2 prcCells (pkE (l[k]).E amt).out w (V a4 (pkE (l[k]).E amt).out.length cap4) w2) := hide ⟨g4, a4, cap4, by omega, rfl, ho4⟩
 clear hb2 ho4 hg4 hsz
 have q' : pkOk ⟨(l[k]).E.out, (l[k]).E.sent, (l[k]).E.got⟩ amt = true := q
 go_wp2_with fail
 refine name_world (fun W hW => ?_)
 have HN0 : Hid (W.cell? ⟨B, 0, none⟩ = some (J Z id)) := hide (by
  rw [hW, World.cell?_alloc_past _ _ _ (by simp; omega), World.cell?_alloc_past _ _ _ (by simp; omega), cell_set_other (.inr (by simp)), cell_set_other (.inl (by simp; exact fun e => hne e.symm)), cell_set_other (.inl (by simp; exact fun e => hne e.symm)), cell_set_other (.inl (by simp; exact fun e => hne e.symm))]
  exact m0)
 have HN1 : Hid (W.cell? ⟨w2.heap.size + 1, 0, none⟩ = some (J Z ((pkP { out := (l[k]).E.out, sent := (l[k]).E.sent, got := (l[k]).E.got } amt).seq))) := hide (by rw [hW]; exact World.cell?_alloc_at _ _ _ _ (by simp))
 have HN2 : Hid (W.cell? ⟨w2.heap.size + 1, 1, none⟩ = some (J Z ((pkP { out := (l[k]).E.out, sent := (l[k]).E.sent, got := (l[k]).E.got } amt).amt))) := hide (by rw [hW]; exact World.cell?_alloc_at _ _ _ _ (by simp))
 have HP : Hid (w2.heap.size + 1 < W.heap.size) := hide (by rw [hW]; simp)
 have HB0 : Hid (B < W.heap.size) := hide (by rw [hW]; simp; omega)
 have HW : Hid _ := hide hW
 clear hW g1 g2 g3 z1 z2 z3 m0 m1 mf e1 e2 e3 d1
 rename_i K0 hK0
 refine wp_region_inv (by kernel_rfl) (fun L act x => ∃ l0 l1 l2 l3 l4 l5 l6 l7 l8 l9 : Bool, ∃ u6 u7 u45 u46 u47 u48 u49 u50 u51 u52 : Value, L = #[l0, l1, l2, l3, l4, l5, l6, l7, l8, l9] ∧ act = { tmps := #[Value.pointer (some { block := B, off := 0 }), J Z to, J Z amt, U, U, U, u6, u7, Value.pointer (some { block := b, off := off + k * 4 + 1 }), Value.pointer (some { block := w2.heap.size, off := 0 }), Value.pointer (some { block := w2.heap.size + 1, off := 0 }), Value.bool true, Value.pointer (some { block := B, off := 0 }), J Z to, Value.pointer (some { block := b, off := off + k * 4 + 1 }), Value.pointer (some { block := b, off := off + k * 4 + 1 }), Value.bool false, J Z amt, Value.pointer (some { block := B, off := 0 }), Value.pointer (some { block := B, off := 0 }), Value.pointer (some { block := B, off := 1 }), J Z has, Value.bool (decide (has < amt)), Value.tuple #[Value.agg #[V a4 (pkE { out := l[k].E.out, sent := l[k].E.sent, got := l[k].E.got } amt).out.length cap4, J Z (pkE { out := l[k].E.out, sent := l[k].E.sent, got := l[k].E.got } amt).sent, J Z (pkE { out := l[k].E.out, sent := l[k].E.sent, got := l[k].E.got } amt).got], Value.agg #[J Z (pkP { out := l[k].E.out, sent := l[k].E.sent, got := l[k].E.got } amt).seq, J Z (pkP { out := l[k].E.out, sent := l[k].E.sent, got := l[k].E.got } amt).amt], Value.bool true], Value.pointer (some { block := b, off := off + k * 4 + 1 }), Value.pointer (some { block := b, off := off + k * 4 + 1 }), Value.agg #[V l[k].a l[k].E.out.length l[k].cap, J Z l[k].E.sent, J Z l[k].E.got], J Z amt, Value.tuple #[Value.agg #[V a4 (pkE { out := l[k].E.out, sent := l[k].E.sent, got := l[k].E.got } amt).out.length cap4, J Z (pkE { out := l[k].E.out, sent := l[k].E.sent, got := l[k].E.got } amt).sent, J Z (pkE { out := l[k].E.out, sent := l[k].E.sent, got := l[k].E.got } amt).got], Value.agg #[J Z (pkP { out := l[k].E.out, sent := l[k].E.sent, got := l[k].E.got } amt).seq, J Z (pkP { out := l[k].E.out, sent := l[k].E.sent, got := l[k].E.got } amt).amt], Value.bool true], Value.agg #[V a4 (pkE { out := l[k].E.out, sent := l[k].E.sent, got := l[k].E.got } amt).out.length cap4, J Z (pkE { out := l[k].E.out, sent := l[k].E.sent, got := l[k].E.got } amt).sent, J Z (pkE { out := l[k].E.out, sent := l[k].E.sent, got := l[k].E.got } amt).got], Value.agg #[J Z (pkP { out := l[k].E.out, sent := l[k].E.sent, got := l[k].E.got } amt).seq, J Z (pkP { out := l[k].E.out, sent := l[k].E.sent, got := l[k].E.got } amt).amt], Value.bool true, Value.bool true, Value.bool false, Value.pointer (some { block := b, off := off + k * 4 + 1 }), Value.agg #[V a4 (pkE { out := l[k].E.out, sent := l[k].E.sent, got := l[k].E.got } amt).out.length cap4, J Z (pkE { out := l[k].E.out, sent := l[k].E.sent, got := l[k].E.got } amt).sent, J Z (pkE { out := l[k].E.out, sent := l[k].E.sent, got := l[k].E.got } amt).got], Value.pointer (some { block := b, off := off + k * 4 + 1 }), Value.pointer (some { block := B, off := 0 }), Value.pointer (some { block := B, off := 0 }), Value.pointer (some { block := B, off := 1 }), J Z has, J Z amt, J Z (has - amt), Value.pointer (some { block := B, off := 0 }), Value.pointer (some { block := B, off := 1 }), u45, u46, u47, u48, u49, u50, u51, u52], defers := [] } ∧ GvF W B (w2.heap.size + 1) id to (pkP { out := (l[k]).E.out, sent := (l[k]).E.sent, got := (l[k]).E.got } amt).seq (pkP { out := (l[k]).E.out, sent := (l[k]).E.sent, got := (l[k]).E.got } amt).amt l0 l1 l2 l3 l4 l5 l6 l7 l8 l9 u6 u7 u45 u46 u47 u48 u49 u50 u51 u52 x) ?_ ?_ ?_
 rotate_left 2
 ·exact ⟨false, false, false, false, false, false, false, false, false, false, (V none 0 0), (J Z 0), U, U, U, U, U, U, U, U, rfl, rfl, ⟨(Below.refl _ _).drew, nofun, nofun, nofun, nofun, nofun, nofun, nofun, nofun, nofun, nofun, nofun, nofun⟩⟩
 ·rintro L act x i ⟨l0, l1, l2, l3, l4, l5, l6, l7, l8, l9, u6, u7, u45, u46, u47, u48, u49, u50, u51, u52, rfl, rfl, h⟩ hi K hK
  have hi15 : i < 10 := by
   obtain ⟨_, o, ho, _⟩ := mem_ready.1 hi
   exact (Array.getElem?_eq_some_iff.1 ho).1
  have hl := (mem_ready.1 hi).1
  obtain rfl | rfl | rfl | rfl | rfl | rfl | rfl | rfl | rfl | rfl := (by omega : i = 0 ∨ i = 1 ∨ i = 2 ∨ i = 3 ∨ i = 4 ∨ i = 5 ∨ i = 6 ∨ i = 7 ∨ i = 8 ∨ i = 9)
  ·have e : l0 = false := hl
   subst e
   refine wpOp_run (v := .pointer (some ⟨B, 0, none⟩)) (w' := x) (by rfl) (by rfl) ?_ (hK _ _ ⟨true, l1, l2, l3, l4, l5, l6, l7, l8, l9, u6, u7, (.pointer (some ⟨B, 0, none⟩)), u46, u47, u48, u49, u50, u51, u52, rfl, rfl, { h with p45 := fun _ => rfl }⟩)
   go_simp
  ·have e : l1 = false := hl
   subst e
   have d0 : l0 = true := ready_on hi 0 (by kernel_rfl)
   subst d0
   refine wpOp_run (v := .pointer (some ⟨B, 0, none⟩)) (w' := x) (by rfl) (by rfl) ?_ (hK _ _ ⟨true, true, l2, l3, l4, l5, l6, l7, l8, l9, u6, u7, u45, (.pointer (some ⟨B, 0, none⟩)), u47, u48, u49, u50, u51, u52, rfl, rfl, { h with p46 := fun _ => rfl }⟩)
   rw [h.p45 rfl]
   go_simp
  ·have e : l2 = false := hl
   subst e
   have d1 : l1 = true := ready_on hi 1 (by kernel_rfl)
   subst d1
   refine wpOp_run (v := .pointer (some ⟨B, 0, none⟩)) (w' := x) (by rfl) (by rfl) ?_ (hK _ _ ⟨l0, true, true, l3, l4, l5, l6, l7, l8, l9, u6, u7, u45, u46, (.pointer (some ⟨B, 0, none⟩)), u48, u49, u50, u51, u52, rfl, rfl, { h with p47 := fun _ => rfl }⟩)
   rw [h.p46 rfl]
   go_simp
  ·have e : l3 = false := hl
   subst e
   have d2 : l2 = true := ready_on hi 2 (by kernel_rfl)
   subst d2
   have c0 : x.cell? ⟨B, 0, none⟩ = some (J Z id) := (h.bel.cell (by exact HB0.out)).trans HN0.out
   refine wpOp_run (v := J Z id) (w' := x) (by rfl) (by rfl) ?_ (hK _ _ ⟨l0, l1, true, true, l4, l5, l6, l7, l8, l9, u6, u7, u45, u46, u47, (J Z id), u49, u50, u51, u52, rfl, rfl, { h with p48 := fun _ => rfl }⟩)
   rw [h.p47 rfl]
   go_simp
  ·have e : l4 = false := hl
   subst e
   refine wpOp_run (v := J Z to) (w' := x) (by rfl) (by rfl) ?_ (hK _ _ ⟨l0, l1, l2, l3, true, l5, l6, l7, l8, l9, u6, u7, u45, u46, u47, u48, (J Z to), u50, u51, u52, rfl, rfl, { h with p49 := fun _ => rfl }⟩)
   go_simp
  ·have e : l5 = false := hl
   subst e
   have c0 : x.cell? ⟨w2.heap.size + 1, 0, none⟩ = some (J Z ((pkP { out := (l[k]).E.out, sent := (l[k]).E.sent, got := (l[k]).E.got } amt).seq)) := (h.bel.cell (by exact HP.out)).trans HN1.out
   have c1 : x.cell? ⟨w2.heap.size + 1, 1, none⟩ = some (J Z ((pkP { out := (l[k]).E.out, sent := (l[k]).E.sent, got := (l[k]).E.got } amt).amt)) := (h.bel.cell (by exact HP.out)).trans HN2.out
   refine wpOp_run (v := .agg #[J Z ((pkP { out := (l[k]).E.out, sent := (l[k]).E.sent, got := (l[k]).E.got } amt).seq), J Z ((pkP { out := (l[k]).E.out, sent := (l[k]).E.sent, got := (l[k]).E.got } amt).amt)]) (w' := x) (by rfl) (by rfl) ?_ (hK _ _ ⟨l0, l1, l2, l3, l4, true, l6, l7, l8, l9, u6, u7, u45, u46, u47, u48, u49, (.agg #[J Z ((pkP { out := (l[k]).E.out, sent := (l[k]).E.sent, got := (l[k]).E.got } amt).seq), J Z ((pkP { out := (l[k]).E.out, sent := (l[k]).E.sent, got := (l[k]).E.got } amt).amt)]), u51, u52, rfl, rfl, { h with p50 := fun _ => rfl }⟩)
   go_simp
  ·have e : l6 = false := hl
   subst e
   have d3 : l3 = true := ready_on hi 3 (by kernel_rfl)
   subst d3
   have d4 : l4 = true := ready_on hi 4 (by kernel_rfl)
   subst d4
   have d5 : l5 = true := ready_on hi 5 (by kernel_rfl)
   subst d5
   refine wpOp_call (by rfl) (by rfl) ?_ (parcelMsg_any id to ((pkP { out := (l[k]).E.out, sent := (l[k]).E.sent, got := (l[k]).E.got } amt).seq) ((pkP { out := (l[k]).E.out, sent := (l[k]).E.sent, got := (l[k]).E.got } amt).amt) x) ?_
   ·rw [h.p48 rfl, h.p49 rfl, h.p50 rfl]; go_simp
   ·rintro e w' ⟨rfl, hb⟩
    exact ⟨_, rfl, hK _ _ ⟨l0, l1, l2, true, true, true, true, l7, l8, l9, u6, u7, u45, u46, u47, u48, u49, u50, (.agg #[J Z id, J Z to, J Z 1, J Z ((pkP { out := (l[k]).E.out, sent := (l[k]).E.sent, got := (l[k]).E.got } amt).seq), J Z ((pkP { out := (l[k]).E.out, sent := (l[k]).E.sent, got := (l[k]).E.got } amt).amt)]), u52, rfl, rfl, { h with bel := below_trans h.bel hb, q51 := fun _ => rfl, d7 := fun q => rfl, q52 := fun q => absurd (h.d7 q) (by simp) }⟩⟩
  ·have e : l7 = false := hl
   subst e
   have d6 : l6 = true := ready_on hi 6 (by kernel_rfl)
   subst d6
   refine wpOp_run (v := V (some ⟨x.heap.size, 0, none⟩) 1 1) (w' := x.alloc (.cells #[J Z id, J Z to, J Z 1, J Z ((pkP { out := (l[k]).E.out, sent := (l[k]).E.sent, got := (l[k]).E.got } amt).seq), J Z ((pkP { out := (l[k]).E.out, sent := (l[k]).E.sent, got := (l[k]).E.got } amt).amt)] 29)) (by rfl) (by rfl) ?_ (hK _ _ ⟨l0, l1, l2, l3, l4, l5, true, true, l8, l9, u6, u7, u45, u46, u47, u48, u49, u50, u51, (V (some ⟨x.heap.size, 0, none⟩) 1 1), rfl, rfl, { h with bel := below_alloc h.bel _, d7 := fun _ => rfl, d8 := fun _ => rfl, q52 := fun _ => ⟨x.heap.size, rfl, h.bel.size, Blk.new (cur := [J Z id, J Z to, J Z 1, J Z ((pkP { out := (l[k]).E.out, sent := (l[k]).E.sent, got := (l[k]).E.got } amt).seq), J Z ((pkP { out := (l[k]).E.out, sent := (l[k]).E.sent, got := (l[k]).E.got } amt).amt)])⟩, q6 := fun q => absurd (h.d8 q) (by simp) }⟩)
   rw [h.q51 rfl]
   go_simp
  ·have e : l8 = false := hl
   subst e
   have d0 : l0 = true := ready_on hi 0 (by kernel_rfl)
   subst d0
   have d1 : l1 = true := ready_on hi 1 (by kernel_rfl)
   subst d1
   have d2 : l2 = true := ready_on hi 2 (by kernel_rfl)
   subst d2
   have d3 : l3 = true := ready_on hi 3 (by kernel_rfl)
   subst d3
   have d4 : l4 = true := ready_on hi 4 (by kernel_rfl)
   subst d4
   have d5 : l5 = true := ready_on hi 5 (by kernel_rfl)
   subst d5
   have d6 : l6 = true := ready_on hi 6 (by kernel_rfl)
   subst d6
   have d7 : l7 = true := ready_on hi 7 (by kernel_rfl)
   subst d7
   refine wpOp_run (v := u52) (w' := x) (by rfl) (by rfl) ?_ (hK _ _ ⟨true, true, true, true, true, true, true, true, true, l9, (u52), u7, u45, u46, u47, u48, u49, u50, u51, u52, rfl, rfl, { h with d8 := fun _ => rfl, q6 := fun _ => rfl }⟩)
   go_simp
  ·have e : l9 = false := hl
   subst e
   have d0 : l0 = true := ready_on hi 0 (by kernel_rfl)
   subst d0
   have d1 : l1 = true := ready_on hi 1 (by kernel_rfl)
   subst d1
   have d2 : l2 = true := ready_on hi 2 (by kernel_rfl)
   subst d2
   have d3 : l3 = true := ready_on hi 3 (by kernel_rfl)
   subst d3
   have d4 : l4 = true := ready_on hi 4 (by kernel_rfl)
   subst d4
   have d5 : l5 = true := ready_on hi 5 (by kernel_rfl)
   subst d5
   have d6 : l6 = true := ready_on hi 6 (by kernel_rfl)
   subst d6
   have d7 : l7 = true := ready_on hi 7 (by kernel_rfl)
   subst d7
   have d8 : l8 = true := ready_on hi 8 (by kernel_rfl)
   subst d8
   refine wpOp_run (v := J Z 0) (w' := x) (by rfl) (by rfl) ?_ (hK _ _ ⟨true, true, true, true, true, true, true, true, true, true, u6, (J Z 0), u45, u46, u47, u48, u49, u50, u51, u52, rfl, rfl, { h with p7 := fun _ => rfl }⟩)
   go_simp
 ·rintro L act x ⟨l0, l1, l2, l3, l4, l5, l6, l7, l8, l9, u6, u7, u45, u46, u47, u48, u49, u50, u51, u52, rfl, rfl, h⟩ hr
  have hall := ready_all hr rfl (by decide)
  have t0 : l0 = true := hall 0 (by decide)
  have t1 : l1 = true := hall 1 (by decide)
  have t2 : l2 = true := hall 2 (by decide)
  have t3 : l3 = true := hall 3 (by decide)
  have t4 : l4 = true := hall 4 (by decide)
  have t5 : l5 = true := hall 5 (by decide)
  have t6 : l6 = true := hall 6 (by decide)
  have t7 : l7 = true := hall 7 (by decide)
  have t8 : l8 = true := hall 8 (by decide)
  have t9 : l9 = true := hall 9 (by decide)
  subst t0 t1 t2 t3 t4 t5 t6 t7 t8 t9
  clear hall hr
  obtain ⟨g, e52, hg, KG⟩ := h.q52 rfl
  have e6 := h.q6 rfl
  have e7 := h.p7 rfl
  have HBX : Hid (Below W.heap.size W x) := hide h.bel
  have HG : Hid _ := hide KG
  clear h KG
  subst e6 e52 e7
  refine hK0 _ _ ?_
  go_wp2
  exact bodyPost_ret (v := .tuple #[V (some ⟨g, 0, none⟩) 1 1, J Z 0]) (by simp [results, Try.results43, go_sem]) rfl ⟨g, rfl, w2, _, _, _, W, HB2.out, HNR.out, HW.out, HBX.out, hg, HG.out⟩
end Go.Proofs.Ytkcpoibhlnjldaa
