/- A drawn ledger and a drawn command. -/
import Derived.Test.YtjjoeajnhblacaaGreatDoorDnL
import Derived.Test.YtjjoeajnhblacaaGreatDoorGl
namespace Go.Proofs.YtjjoeajnhblacaaGreatDoor
open Go.ChangeShapes Go.WideShapes Go.ChangeAt Go.RowKit
set_option linter.unusedVariables false
set_option maxRecDepth 100000
/-- a drawn ledger and a command, the ledger of the call's own -/
def DrawEnd (w : World) (e : Ending) (w' : World) : Prop := ∃ (p : LP) (D : Led) (c : Cm), e = .returned (.tuple #[ledV p D, c.v]) ∧ PlOk p D ∧ LedF D ∧ c.fr.size ≤ 8 ∧ c.to.size ≤ 8 ∧ Pool [] w [ledL p D] w'
theorem Pool.read {F : List Nat} {w x y : World} {S : List (List Rs)} {B i : Nat} (h : Pool F w S x) (hi : S[i]? = some [tok B]) (hr : Rd B y) (ha : Aprt B x y) : Pool F w S y := by
  have := h.step hi (rs' := [tok B]) ⟨ha.os, ha.tape, ha.output, ha.size, fun k hk hn => ha.block k hk (fun e => hn (by simp [fps, tok, e]))⟩ (Star.one trivial (by simp [tok]) (fun b hb => by simp only [tok, List.mem_singleton] at hb; subst hb; exact hr.lt)) (fun b hb => .inl hb)
  obtain ⟨hl, e⟩ := List.getElem?_eq_some_iff.1 hi
  have e2 : S.set i [tok B] = S := by rw [← e]; exact List.set_getElem_self hl
  rwa [e2] at this
theorem Pool.set3 {F : List Nat} {w x : World} {S : List (List Rs)} (h : Pool F w S x) {i b : Nat} {z0 z1 z2 : Value} (hi : S[i]? = some [blk b [z0, z1, z2]]) (v0 v1 v2 : Value) :
    Pool F w (S.set i [blk b [v0, v1, v2]]) (((x.setCell ⟨b, 0, none⟩ v0).setCell ⟨b, 1, none⟩ v1).setCell ⟨b, 2, none⟩ v2) := by
  have hlen : i < S.length := (List.getElem?_eq_some_iff.1 hi).1
  have h0 := h.setBlk (i := i) hi 0 v0 (by simp)
  have h1 := h0.setBlk (i := i) (by rw [List.getElem?_set_self (by simpa using hlen)]) 1 v1 (by simp)
  have h2 := h1.setBlk (i := i) (by rw [List.getElem?_set_self (by simpa using hlen)]) 2 v2 (by simp)
  simpa [List.set_set] using h2
structure NdF (B : Nat) (w : World) (p : LP) (D : Led) (N : Nat) (l0 l1 l2 l3 l4 l5 : Bool) (u10 u11 u12 u13 : Value) (x : World) : Prop where
  po : l4 = false → Pool [] w [[tok B], [blk w.heap.size [.slice none 0 0, .slice none 0 0, .slice none 0 0]], [blk (w.heap.size + 1) [.int .i64 0, .int .i64 0, .string ⟨#[]⟩, .string ⟨#[]⟩, .int .i64 0, .int .i64 0]], [blk N (ledC p D)], ledL p D] x
  rd : l4 = false → Rd B x
  p4 : l4 = true → l5 = false → Pool [] w [[tok B], [blk w.heap.size (ledC p D)], [blk (w.heap.size + 1) [.int .i64 0, .int .i64 0, .string ⟨#[]⟩, .string ⟨#[]⟩, .int .i64 0, .int .i64 0]], [blk N (ledC p D)], ledL p D] x
  p5 : l5 = true → ∃ c : Cm, c.fr.size ≤ 8 ∧ c.to.size ≤ 8 ∧ Pool [] w [[tok B], [blk w.heap.size (ledC p D)], [blk (w.heap.size + 1) c.cells], [blk N (ledC p D)], ledL p D] x
  q13 : l3 = true → ∃ c : Cm, c.fr.size ≤ 8 ∧ c.to.size ≤ 8 ∧ u13 = c.v
  d4 : l4 = true → l0 = true ∧ l3 = true
  d3 : l3 = true → l1 = true ∧ l2 = true
  d5 : l5 = true → l4 = true
  p10 : l0 = true → u10 = .agg #[.slice p.aa D.acc.length p.ca, .slice p.ha D.hold.length p.ch, .slice p.sa D.seen.length p.cs]
  p11 : l1 = true → u11 = .pointer (some ⟨B, 0, none⟩)
  p12 : l2 = true → u12 = .agg #[.slice p.aa D.acc.length p.ca, .slice p.ha D.hold.length p.ch, .slice p.sa D.seen.length p.cs]
theorem NdF.row {B : Nat} {w : World} {p : LP} {D : Led} {N : Nat} {l0 l1 l2 l3 l4 l5 : Bool} {u10 u11 u12 u13 : Value} {x : World} (h : NdF B w p D N l0 l1 l2 l3 l4 l5 u10 u11 u12 u13 x) (e4 : l4 = false) {y : World} (ha : Aprt B x y) : RowAt 4 hldCells y p.ha D.hold := by
  have q := h.po e4
  have s := q.get (i := 4) rfl
  have d : ∀ b ∈ fps (ledL p D), b ≠ B := fun b hb e => by
    subst e
    have := q.st
    simp only [List.flatten_cons, List.flatten_nil, List.append_nil, List.cons_append, List.nil_append] at this
    exact (Star.apart (a := [tok b]) (b := _) this) b (by simp [fps, tok]) (by simp only [fps_cons, List.mem_append]; exact .inr (.inr (.inr hb)))
  exact (s.keep (F := [B]) (⟨ha.os, ha.tape, ha.output, ha.size, fun k hk hn => ha.block k hk (by simpa using hn)⟩) (fun b hb q => d b hb (by simpa using q))).hold_row
theorem NdF.c3 {B : Nat} {w : World} {p : LP} {D : Led} {N : Nat} {l0 l4 l5 : Bool} {u10 u11 u12 u13 : Value} {x : World} {c : Cm} {y : World} (h : NdF B w p D N l0 true true false l4 l5 u10 u11 u12 u13 x) (e4 : l4 = false) (hcf : c.fr.size ≤ 8) (hct : c.to.size ≤ 8) (hr : Rd B y) (ha : Aprt B x y) : NdF B w p D N l0 true true true l4 l5 u10 u11 u12 c.v y :=
  { h with
    po := fun q => (h.po q).read (i := 0) rfl hr ha, rd := fun _ => hr, q13 := fun _ => ⟨c, hcf, hct, rfl⟩
    p4 := fun q => (by rw [e4] at q; cases q), p5 := fun q => (by have := h.d5 q; rw [e4] at this; cases this)
    d4 := fun q => (by rw [e4] at q; cases q), d3 := fun _ => ⟨rfl, rfl⟩ }
theorem NdF.s4 {B : Nat} {w : World} {p : LP} {D : Led} {N : Nat} {l1 l2 l5 : Bool} {u10 u11 u12 u13 : Value} {x : World} (h : NdF B w p D N true l1 l2 true false l5 u10 u11 u12 u13 x) : NdF B w p D N true l1 l2 true true l5 u10 u11 u12 u13 (((x.setCell ⟨w.heap.size, 0, none⟩ (.slice p.aa D.acc.length p.ca)).setCell ⟨w.heap.size, 1, none⟩ (.slice p.ha D.hold.length p.ch)).setCell ⟨w.heap.size, 2, none⟩ (.slice p.sa D.seen.length p.cs)) :=
  { h with
    po := fun q => (by cases q), rd := fun q => (by cases q)
    p4 := fun _ _ => (h.po rfl).set3 (i := 1) rfl _ _ _
    p5 := fun q => (by cases h.d5 q), d4 := fun _ => ⟨rfl, rfl⟩, d5 := fun _ => rfl }
theorem NdF.s5 {B : Nat} {w : World} {p : LP} {D : Led} {N : Nat} {u10 u11 u12 u13 : Value} {x : World} {c : Cm} (h : NdF B w p D N true true true true true false u10 u11 u12 u13 x) (hcf : c.fr.size ≤ 8) (hct : c.to.size ≤ 8) : NdF B w p D N true true true true true true u10 u11 u12 u13 ((((((x.setCell ⟨w.heap.size + 1, 0, none⟩ (.int .i64 c.id)).setCell ⟨w.heap.size + 1, 1, none⟩ (.int .i64 c.kind)).setCell ⟨w.heap.size + 1, 2, none⟩ (.string c.fr)).setCell ⟨w.heap.size + 1, 3, none⟩ (.string c.to)).setCell ⟨w.heap.size + 1, 4, none⟩ (.int .i64 c.am)).setCell ⟨w.heap.size + 1, 5, none⟩ (.int .i64 c.ref)) :=
  { h with
    po := fun q => (by cases q), rd := fun q => (by cases q)
    p4 := fun _ q => (by cases q)
    p5 := fun _ => ⟨c, hcf, hct, (h.p4 rfl rfl).set6 (i := 2) rfl _ _ _ _ _ _⟩
    d5 := fun _ => rfl }
set_option maxHeartbeats 4000000 in
theorem drawApplied_any (a0 : Option Addr) (len cap : Nat) (w : World) (h : IsCode w a0 len) : Calls Tryz.prog 10 #[.slice a0 len cap] w fun e w' => DrawEnd w e w' := by
  obtain ⟨W2, hW2⟩ : ∃ W2, W2 = (w.alloc (.cells #[.slice none 0 0, .slice none 0 0, .slice none 0 0] 28)).alloc (.cells #[.int .i64 0, .int .i64 0, .string ⟨#[]⟩, .string ⟨#[]⟩, .int .i64 0, .int .i64 0] 30) := ⟨_, rfl⟩
  have HP0 : Hid (Pool [] w [[], [blk w.heap.size [.slice none 0 0, .slice none 0 0, .slice none 0 0]], [blk (w.heap.size + 1) [.int .i64 0, .int .i64 0, .string ⟨#[]⟩, .string ⟨#[]⟩, .int .i64 0, .int .i64 0]], [], []] W2) := hide (by
    have p1 := (Pool.start w [[], [], [], [], []] rfl).newBlk (i := 1) rfl [.slice none 0 0, .slice none 0 0, .slice none 0 0] 28
    have s1 : (w.alloc (.cells #[.slice none 0 0, .slice none 0 0, .slice none 0 0] 28)).heap.size = w.heap.size + 1 := by simp
    have p2 := p1.newBlk (i := 2) rfl [.int .i64 0, .int .i64 0, .string ⟨#[]⟩, .string ⟨#[]⟩, .int .i64 0, .int .i64 0] 30
    rw [s1] at p2
    rw [hW2]
    exact p2)
  have HC : Hid (IsCode W2 a0 len) := hide (h.below (HP0.out.below))
  have HW2 : Hid (_ = W2) := hide hW2.symm
  clear h hW2
  go_enter Tryz.func10, Tryz.ntmps10
  go_wp2_with fail
  rw [HW2.out]
  refine (l1Open_any a0 len cap W2).mono ?_
  rintro e w3 ⟨rfl, hw3⟩
  have hrd : Rd W2.heap.size w3 := by rw [hw3]; exact rd_open HC.out
  obtain ⟨B, hB⟩ : ∃ B, B = W2.heap.size := ⟨_, rfl⟩
  rw [← hB] at hrd ⊢
  have HP3 : Hid (Pool [] w [[tok B], [blk w.heap.size [.slice none 0 0, .slice none 0 0, .slice none 0 0]], [blk (w.heap.size + 1) [.int .i64 0, .int .i64 0, .string ⟨#[]⟩, .string ⟨#[]⟩, .int .i64 0, .int .i64 0]], [], []] w3) := hide (by
    rw [hw3]
    exact HP0.out.new (i := 0) rfl (below_alloc (Below.refl _ _) _) (Star.one trivial (by simp [tok]) (fun b hb => by simp only [tok, List.mem_singleton] at hb; subst hb; rw [hB]; simp)) (fun c hc => by simp only [fps_one, tok, List.mem_singleton] at hc; subst hc; rw [hB]; exact Nat.le_refl _))
  have HR3 : Hid (Rd B w3) := hide hrd
  clear hrd hw3 hB HP0 HC
  go_wp2_with fail
  refine (dledger_any B 14 w3 HR3.out (by omega) (by omega)).mono ?_
  rintro e w4 ⟨p, D, rfl, hpk, hf, hrp⟩
  have HK : Hid (PlOk p D) := hide hpk
  have HF : Hid (LedF D) := hide hf
  have HP4 : Hid (Pool [] w [[tok B], [blk w.heap.size [.slice none 0 0, .slice none 0 0, .slice none 0 0]], [blk (w.heap.size + 1) [.int .i64 0, .int .i64 0, .string ⟨#[]⟩, .string ⟨#[]⟩, .int .i64 0, .int .i64 0]], [], ledL p D] w4) := hide (by
    have p1 := HP3.out.call (i := 0) rfl (rs' := [tok B] ++ ledL p D) (hrp.p.cast (by simp))
    refine p1.perm ?_
    simp only [List.set_cons_zero, List.flatten_cons, List.flatten_nil, List.append_nil, List.nil_append, List.cons_append]
    refine List.Perm.cons _ ?_
    exact (List.perm_append_comm (l₁ := ledL p D) (l₂ := [_, _])))
  have HR4 : Hid (Rd B w4) := hide hrp.rd
  clear hpk hf hrp HP3 HR3
  unfold ledV
  go_upto_region 3 with fail
  rename_i K0 hK0
  refine cnm_world (fun W5 hW5 => ?_)
  have HP5 : Hid (Pool [] w [[tok B], [blk w.heap.size [.slice none 0 0, .slice none 0 0, .slice none 0 0]], [blk (w.heap.size + 1) [.int .i64 0, .int .i64 0, .string ⟨#[]⟩, .string ⟨#[]⟩, .int .i64 0, .int .i64 0]], [blk w4.heap.size (ledC p D)], ledL p D] W5) := hide (by rw [hW5]; exact HP4.out.newBlk (i := 3) rfl (ledC p D) 28)
  have HR5 : Hid (Rd B W5) := hide (by rw [hW5]; exact HR4.out.kept ((Kept.refl _).alloc _ _))
  clear hW5 HP4 HR4
  refine wp_region_inv (by kernel_rfl) (fun L act x => ∃ l0 l1 l2 l3 l4 l5 : Bool, ∃ u10 u11 u12 u13 : Value, L = #[l0, l1, l2, l3, l4, l5] ∧ act = { tmps := #[Value.slice a0 len cap, undef, Value.pointer (some { block := w.heap.size, off := 0 }), Value.pointer (some { block := w.heap.size + 1, off := 0 }), Value.pointer (some { block := B, off := 0 }), Value.pointer (some { block := w4.heap.size, off := 0 }), Value.slice a0 len cap, Value.pointer (some { block := B, off := 0 }), Value.pointer (some { block := B, off := 0 }), Value.agg #[Value.slice p.aa D.acc.length p.ca, Value.slice p.ha D.hold.length p.ch, Value.slice p.sa D.seen.length p.cs], u10, u11, u12, u13], defers := [] } ∧ NdF B w p D w4.heap.size l0 l1 l2 l3 l4 l5 u10 u11 u12 u13 x) ?_ ?_ ?_
  rotate_left 2
  · exact ⟨false, false, false, false, false, false, (undef), (undef), (undef), (undef), rfl, rfl, ⟨fun _ => HP5.out.drew, fun _ => HR5.out.kept (Kept.refl _).drew, fun q => (by cases q), fun q => (by cases q), fun q => (by cases q), fun q => (by cases q), fun q => (by cases q), fun q => (by cases q), fun q => (by cases q), fun q => (by cases q), fun q => (by cases q)⟩⟩
  · rintro L act x i ⟨l0, l1, l2, l3, l4, l5, u10, u11, u12, u13, rfl, rfl, h⟩ hi K hK
    have hi15 : i < 6 := by
      obtain ⟨_, o, ho, _⟩ := mem_ready.1 hi
      exact (Array.getElem?_eq_some_iff.1 ho).1
    have hl := (mem_ready.1 hi).1
    obtain rfl | rfl | rfl | rfl | rfl | rfl := (by omega : i = 0 ∨ i = 1 ∨ i = 2 ∨ i = 3 ∨ i = 4 ∨ i = 5)
    · have e : l0 = false := hl
      subst e
      have e4 : l4 = false := by
        cases l4 with
        | false => rfl
        | true => exact absurd (h.d4 rfl).1 (by simp)
      have hb := (h.po e4).blkAt (i := 3) rfl
      have c0 := hb.c 0 _ rfl
      have c1 := hb.c 1 _ rfl
      have c2 := hb.c 2 _ rfl
      refine wpOp_run (v := .agg #[.slice p.aa D.acc.length p.ca, .slice p.ha D.hold.length p.ch, .slice p.sa D.seen.length p.cs]) (w' := x) (by rfl) (by rfl) ?_ (hK _ _ ⟨true, l1, l2, l3, l4, l5, (.agg #[.slice p.aa D.acc.length p.ca, .slice p.ha D.hold.length p.ch, .slice p.sa D.seen.length p.cs]), u11, u12, u13, rfl, rfl, { h with p10 := fun _ => rfl, d4 := fun q => (by cases (h.d4 q).1) }⟩)
      go_simp
    · have e : l1 = false := hl
      subst e
      refine wpOp_run (v := .pointer (some ⟨B, 0, none⟩)) (w' := x) (by rfl) (by rfl) ?_ (hK _ _ ⟨l0, true, l2, l3, l4, l5, u10, (.pointer (some ⟨B, 0, none⟩)), u12, u13, rfl, rfl, { h with p11 := fun _ => rfl, d3 := fun q => (by cases (h.d3 q).1) }⟩)
      go_simp
    · have e : l2 = false := hl
      subst e
      have e4 : l4 = false := by
        cases l4 with
        | false => rfl
        | true => exact absurd (h.d3 (h.d4 rfl).2).2 (by simp)
      have hb := (h.po e4).blkAt (i := 3) rfl
      have c0 := hb.c 0 _ rfl
      have c1 := hb.c 1 _ rfl
      have c2 := hb.c 2 _ rfl
      refine wpOp_run (v := .agg #[.slice p.aa D.acc.length p.ca, .slice p.ha D.hold.length p.ch, .slice p.sa D.seen.length p.cs]) (w' := x) (by rfl) (by rfl) ?_ (hK _ _ ⟨l0, l1, true, l3, l4, l5, u10, u11, (.agg #[.slice p.aa D.acc.length p.ca, .slice p.ha D.hold.length p.ch, .slice p.sa D.seen.length p.cs]), u13, rfl, rfl, { h with p12 := fun _ => rfl, d3 := fun q => (by cases (h.d3 q).2) }⟩)
      go_simp
    · have e : l3 = false := hl
      subst e
      have d1 : l1 = true := ready_on hi 1 (by kernel_rfl)
      subst d1
      have d2 : l2 = true := ready_on hi 2 (by kernel_rfl)
      subst d2
      have e4 : l4 = false := by
        cases l4 with
        | false => rfl
        | true => exact absurd (h.d4 rfl).2 (by simp)
      refine wpOp_call (by rfl) (by rfl) ?_ (command_any B p D x (h.rd e4) (by have := HF.out.a; omega) (by have := HF.out.h; omega) (fun y ha => h.row e4 ha)) ?_
      · rw [h.p11 rfl, h.p12 rfl]; unfold ledV; go_simp
      · rintro e w' ⟨⟨c, hcf, hct, rfl⟩, hr, ha⟩
        exact ⟨_, rfl, hK _ _ ⟨l0, true, true, true, l4, l5, u10, u11, u12, (c.v), rfl, rfl, h.c3 e4 hcf hct hr ha⟩⟩
    · have e : l4 = false := hl
      subst e
      have d0 : l0 = true := ready_on hi 0 (by kernel_rfl)
      subst d0
      have d3 : l3 = true := ready_on hi 3 (by kernel_rfl)
      subst d3
      refine wpOp_skip (w' := (((x.setCell ⟨w.heap.size, 0, none⟩ (.slice p.aa D.acc.length p.ca)).setCell ⟨w.heap.size, 1, none⟩ (.slice p.ha D.hold.length p.ch)).setCell ⟨w.heap.size, 2, none⟩ (.slice p.sa D.seen.length p.cs))) (by rfl) (by rfl) ?_ (hK _ _ ⟨true, l1, l2, true, true, l5, u10, u11, u12, u13, rfl, rfl, h.s4⟩)
      rw [h.p10 rfl]
      have hb := (h.po rfl).blkAt (i := 1) rfl
      have c0 := hb.c 0 _ rfl
      have z0 := hb.f 0
      have c1 := hb.c 1 _ rfl
      have z1 := hb.f 1
      have c2 := hb.c 2 _ rfl
      have z2 := hb.f 2
      go_simp
    · have e : l5 = false := hl
      subst e
      have d0 : l0 = true := ready_on hi 0 (by kernel_rfl)
      subst d0
      have d1 : l1 = true := ready_on hi 1 (by kernel_rfl)
      subst d1
      have d2 : l2 = true := ready_on hi 2 (by kernel_rfl)
      subst d2
      have d3 : l3 = true := ready_on hi 3 (by kernel_rfl)
      subst d3
      have d4 : l4 = true := ready_on hi 4 (by kernel_rfl)
      subst d4
      obtain ⟨c, hcf, hct, ea⟩ := h.q13 rfl
      refine wpOp_skip (w' := ((((((x.setCell ⟨w.heap.size + 1, 0, none⟩ (.int .i64 c.id)).setCell ⟨w.heap.size + 1, 1, none⟩ (.int .i64 c.kind)).setCell ⟨w.heap.size + 1, 2, none⟩ (.string c.fr)).setCell ⟨w.heap.size + 1, 3, none⟩ (.string c.to)).setCell ⟨w.heap.size + 1, 4, none⟩ (.int .i64 c.am)).setCell ⟨w.heap.size + 1, 5, none⟩ (.int .i64 c.ref))) (by rfl) (by rfl) ?_ (hK _ _ ⟨true, true, true, true, true, true, u10, u11, u12, u13, rfl, rfl, h.s5 (c := c) hcf hct⟩)
      rw [ea]
      unfold Cm.v
      have hb := (h.p4 rfl rfl).blkAt (i := 2) rfl
      have c0 := hb.c 0 _ rfl
      have z0 := hb.f 0
      have c1 := hb.c 1 _ rfl
      have z1 := hb.f 1
      have c2 := hb.c 2 _ rfl
      have z2 := hb.f 2
      have c3 := hb.c 3 _ rfl
      have z3 := hb.f 3
      have c4 := hb.c 4 _ rfl
      have z4 := hb.f 4
      have c5 := hb.c 5 _ rfl
      have z5 := hb.f 5
      go_simp
  · rintro L act x ⟨l0, l1, l2, l3, l4, l5, u10, u11, u12, u13, rfl, rfl, h⟩ hr
    have hall := ready_all hr rfl (by decide)
    have t0 : l0 = true := hall 0 (by decide)
    have t1 : l1 = true := hall 1 (by decide)
    have t2 : l2 = true := hall 2 (by decide)
    have t3 : l3 = true := hall 3 (by decide)
    have t4 : l4 = true := hall 4 (by decide)
    have t5 : l5 = true := hall 5 (by decide)
    subst t0 t1 t2 t3 t4 t5
    clear hall hr
    obtain ⟨c, hcf, hct, hq⟩ := h.p5 rfl
    clear h
    refine hK0 _ _ ?_
    have y_ := hq.blkAt (i := 1) rfl
    have z_ := hq.blkAt (i := 2) rfl
    have k0_ := y_.c 0 _ rfl
    have k1_ := y_.c 1 _ rfl
    have k2_ := y_.c 2 _ rfl
    have g0_ := z_.c 0 _ rfl
    have g1_ := z_.c 1 _ rfl
    have g2_ := z_.c 2 _ rfl
    have g3_ := z_.c 3 _ rfl
    have g4_ := z_.c 4 _ rfl
    have g5_ := z_.c 5 _ rfl
    have HQ : Hid _ := hide hq
    clear hq y_ z_
    go_wp2
    exact bodyPost_ret (v := .tuple #[ledV p D, c.v]) (by simp [results, Tryz.results10, go_sem, k0_, k1_, k2_, g0_, g1_, g2_, g3_, g4_, g5_, ledV, Cm.v]) rfl ⟨p, D, c, rfl, HK.out, HF.out, hcf, hct, ((((HQ.out.drop (i := 3) rfl).drop (i := 2) rfl).drop (i := 1) rfl).drop (i := 0) rfl).cast (by simp)⟩
end Go.Proofs.YtjjoeajnhblacaaGreatDoor
