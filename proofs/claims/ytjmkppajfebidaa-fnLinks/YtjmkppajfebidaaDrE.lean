/- The drawn end. -/
import Derived.Test.YtjmkppajfebidaaDe
import Derived.Deep.RegionHeld3
namespace Go.Proofs.Ytjmkppajfebidaa
open Go.ChangeShapes Go.WideShapes Go.ChangeAt Go.RowKit
set_option linter.unusedVariables false
theorem ack_sent (E : En) (s : Int) : (ackE E s).sent = E.sent ∨ (ackE E s).sent = 0 := by
  unfold ackE
  split
  · exact .inl rfl
  · exact .inr rfl
/-- what is acknowledged leaves a right end -/
theorem ack_right {E : En} (q : endB E = true) (s : Int) : endB (ackE E s) = true := by
  unfold ackE
  split
  · rename_i hok
    obtain ⟨h8, ⟨s0, s1⟩, ⟨g0, g1⟩, hl⟩ := endB_parts q
    have hs : 0 ≤ s ∧ s ≤ E.sent := by
      have : inB 0 E.sent s = true := by cases hi : inB 0 E.sent s <;> simp [ackOk, hi] at hok ⊢
      simpa [inB] using this
    have e : E.out.filter (fun p => decide (s < p.seq)) = E.out.drop (s - (E.sent - (E.out.length : Int))).toNat := filter_drop (fun j hj hd => by have := (hl j hj).1; omega) (fun j hj hd => by have := (hl j hj).1; omega)
    rw [e]
    refine endB_yes (by simp; omega) ⟨by simp [inB]; omega, by simp [inB]; omega⟩ ?_
    intro j hj hj2
    have hd : (E.out.drop (s - (E.sent - (E.out.length : Int))).toNat).length = E.out.length - (s - (E.sent - (E.out.length : Int))).toNat := by simp
    obtain ⟨e1, e2, e3, e4⟩ := hl ((s - (E.sent - (E.out.length : Int))).toNat + j) (by omega)
    rw [List.getElem_drop, hd]
    simp only [prcB, inB]
    simp
    omega
  · rfl
abbrev DeS (w : World) (B : Nat) (E : En) (a : Option Addr) (cap g : Nat) (y : World) : Prop := y.cell? ⟨w.heap.size + 1, 0, none⟩ = some (.slice a E.out.length cap) ∧ y.cell? ⟨w.heap.size + 1, 1, none⟩ = some (.int .i64 E.sent) ∧ y.cell? ⟨w.heap.size + 1, 2, none⟩ = some (.int .i64 E.got) ∧ Hid (De w B E a cap g y)
theorem DeS.of {w : World} {B : Nat} {E : En} {a : Option Addr} {cap g : Nat} {y : World} (h : De w B E a cap g y) : DeS w B E a cap g y := ⟨h.c0, h.c1, h.c2, h⟩
def EndDr (B : Nat) (w : World) (e : Ending) (w' : World) : Prop := ∃ (E : En) (a : Option Addr) (cap g : Nat), e = .returned (.agg #[.slice a E.out.length cap, .int .i64 E.sent, .int .i64 E.got]) ∧ E.out.length ≤ 8 ∧ (-9223372036854775808 ≤ E.sent ∧ E.sent ≤ 9223372036854775807) ∧ (0 ≤ E.got ∧ E.got ≤ 4) ∧ w.heap.size + 2 ≤ g ∧ OwnRow 2 prcCells w' g a cap E.out ∧ Rd B w' ∧ Apart B w w'
theorem de_start {w : World} {B : Nat} (h : Rd B w) : De w B ⟨[], 0, 0⟩ none 0 (w.heap.size + 2) ((w.alloc (.cells #[.slice none 0 0, .int .i64 0, .int .i64 0] 26)).alloc (.cells #[.slice none 0 0, .int .i64 0, .int .i64 0] 26)) := by
  have hB := h.lt
  obtain ⟨wa, hwa⟩ : ∃ wa, wa = w.alloc (.cells #[.slice none 0 0, .int .i64 0, .int .i64 0] 26) := ⟨_, rfl⟩
  have sa : wa.heap.size = w.heap.size + 1 := by rw [hwa]; simp
  have b1 : Below w.heap.size w wa := by rw [hwa]; exact below_alloc (Below.refl _ _) _
  have b2 : Below wa.heap.size wa (wa.alloc (.cells #[.slice none 0 0, .int .i64 0, .int .i64 0] 26)) := below_alloc (Below.refl _ _) _
  have b := below_trans b1 b2
  rw [← hwa]
  refine ⟨h.below (b.mono hB), ⟨b.os, b.tape, b.output, b.size, fun k hk _ => b.block k hk⟩, hB, by simp [sa], ?_, ?_, ?_, ?_, ?_, Nat.le_refl _, OwnRow.nil (fun _ => rfl)⟩
  · rw [← sa]; exact World.cell?_alloc_at _ _ _ _ rfl
  · rw [← sa]; exact World.cell?_alloc_at _ _ _ _ rfl
  · rw [← sa]; exact World.cell?_alloc_at _ _ _ _ rfl
  · rw [← sa]; exact frozen_of_block (heap_alloc_new wa _)
  · have hr : ResMid w.heap.size wa := by
      rw [hwa]
      refine ⟨by simp, fun j hj => ?_, frozen_of_block (heap_alloc_new w _)⟩
      match j, hj with
      | 0, _ => exact ⟨_, World.cell?_alloc_at _ _ _ _ rfl⟩
      | 1, _ => exact ⟨_, World.cell?_alloc_at _ _ _ _ rfl⟩
      | 2, _ => exact ⟨_, World.cell?_alloc_at _ _ _ _ rfl⟩
    exact hr.keep (b2.block _ (by omega)) b2.size
theorem De.got {w : World} {B : Nat} {E : En} {a : Option Addr} {cap g : Nat} {x : World} (h : De w B E a cap g x) (n : Int) : De w B ⟨E.out, E.sent, n⟩ a cap g (x.setCell ⟨w.heap.size + 1, 2, none⟩ (.int .i64 n)) := by
  have hB := h.hB
  exact ⟨rd_new h.rd (by omega) _, apart_new h.ap (by omega) _, hB, by simpa [World.setCell] using h.lt, by rw [cell_set_other (.inr (by simp))]; exact h.c0, by rw [cell_set_other (.inr (by simp))]; exact h.c1, cell_set_same h.c2, fun j => by simp [h.fz], h.res.keep (Below.heap_setCell _ _ _ _ (by simp)) (by simp [World.setCell]), h.hg, h.row.turned ((Turned.refl (w.heap.size + 1) x).setCell _) (fun _ => by have := h.hg; omega)⟩
theorem De.snt {w : World} {B : Nat} {E : En} {a : Option Addr} {cap g : Nat} {x : World} (h : De w B E a cap g x) (n : Int) : De w B ⟨E.out, n, E.got⟩ a cap g (x.setCell ⟨w.heap.size + 1, 1, none⟩ (.int .i64 n)) := by
  have hB := h.hB
  exact ⟨rd_new h.rd (by omega) _, apart_new h.ap (by omega) _, hB, by simpa [World.setCell] using h.lt, by rw [cell_set_other (.inr (by simp))]; exact h.c0, cell_set_same h.c1, by rw [cell_set_other (.inr (by simp))]; exact h.c2, fun j => by simp [h.fz], h.res.keep (Below.heap_setCell _ _ _ _ (by simp)) (by simp [World.setCell]), h.hg, h.row.turned ((Turned.refl (w.heap.size + 1) x).setCell _) (fun _ => by have := h.hg; omega)⟩
theorem De.fin {w : World} {B : Nat} {E : En} {a : Option Addr} {cap g : Nat} {x : World} (h : De w B E a cap g x) (h8 : E.out.length ≤ 8) (hs : -9223372036854775808 ≤ E.sent ∧ E.sent ≤ 9223372036854775807) (hg : 0 ≤ E.got ∧ E.got ≤ 4) (u v z : Value) :
    EndDr B w (.returned (.agg #[.slice a E.out.length cap, .int .i64 E.sent, .int .i64 E.got])) (((x.setCell ⟨w.heap.size, 0, none⟩ u).setCell ⟨w.heap.size, 1, none⟩ v).setCell ⟨w.heap.size, 2, none⟩ z) := by
  have hB := h.hB
  exact ⟨E, a, cap, g, rfl, h8, hs, hg, h.hg, h.row.turned ((((Turned.refl w.heap.size x).setCell _).setCell _).setCell _) (fun _ => by have := h.hg; omega), rd_new (rd_new (rd_new h.rd (by omega) _) (by omega) _) (by omega) _, apart_new (apart_new (apart_new h.ap (by omega) _) (by omega) _) (by omega) _⟩
/-- what Acked has told -/
structure AkQ (w : World) (B : Nat) (E : En) (r : Int) (a3 : Option Addr) (cap3 g3 : Nat) (l7 l8 l10 : Bool) (u28 u35 u36 : Value) (x : World) : Prop where
  m35 : u35 = .tuple #[.agg #[.slice a3 (ackE E r).out.length cap3, .int .i64 (ackE E r).sent, .int .i64 (ackE E r).got], .bool (ackOk E r)]
  lo : w.heap.size + 2 ≤ g3
  row : l10 = false → OwnRow 2 prcCells x g3 a3 cap3 (ackE E r).out
  m28 : l7 = true → u28 = u35
  m36 : l8 = true → u36 = .agg #[.slice a3 (ackE E r).out.length cap3, .int .i64 (ackE E r).sent, .int .i64 (ackE E r).got]
  fin : l10 = true → De w B (ackE E r) a3 cap3 g3 x
/-- what holds in the midst of the region that acknowledges -/
structure EaF (w : World) (B : Nat) (E : En) (a : Option Addr) (cap g : Nat) (l0 l1 l2 l3 l4 l5 l6 l7 l8 l9 l10 : Bool) (u28 u29 u30 u31 u32 u33 u34 u35 u36 u37 : Value) (x : World) : Prop where
  de : l10 = false → De w B E a cap g x
  q34 : l5 = true → ∃ r : Int, 0 ≤ r ∧ u34 = .int .i64 r
  d : l7 = true ∨ l8 = true ∨ l9 = true ∨ l10 = true → l6 = true
  d100 : l10 = true → l0 = true
  d103 : l10 = true → l3 = true
  d105 : l10 = true → l5 = true
  q35 : l6 = true → ∃ (r : Int) (a3 : Option Addr) (cap3 g3 : Nat), AkQ w B E r a3 cap3 g3 l7 l8 l10 u28 u35 u36 x
  p29 : l0 = true → u29 = .agg #[.slice a E.out.length cap, .int .i64 E.sent, .int .i64 E.got]
  p30 : l1 = true → u30 = .pointer (some ⟨B, 0, none⟩)
  p31 : l2 = true → u31 = .pointer (some ⟨w.heap.size + 1, 1, none⟩)
  p32 : l3 = true → u32 = .int .i64 E.sent
  p33 : l4 = true → u33 = .int .i64 (E.sent + 1)
theorem EaF.s5 {w : World} {B : Nat} {E : En} {a : Option Addr} {cap g : Nat} {l0 l2 l3 l6 l7 l8 l9 : Bool} {u28 u29 u30 u31 u32 u33 u34 u35 u36 u37 : Value} {x : World} {y : World} {r : Int} (h : EaF w B E a cap g l0 true l2 l3 true false l6 l7 l8 l9 false u28 u29 u30 u31 u32 u33 u34 u35 u36 u37 x) (hr : Rd B y) (ha : Apart B x y) (r0 : 0 ≤ r) : EaF w B E a cap g l0 true l2 l3 true true l6 l7 l8 l9 false u28 u29 u30 u31 u32 u33 (.int .i64 r) u35 u36 u37 y :=
  { h with
    de := fun _ => (h.de rfl).apart hr ha
    q34 := fun _ => ⟨r, r0, rfl⟩
    d100 := fun q => by cases q
    d103 := fun q => by cases q
    d105 := fun q => by cases q
    q35 := fun q => by
      obtain ⟨r, a3, cap3, g3, hq⟩ := h.q35 q
      have hB := (h.de rfl).hB
      exact ⟨r, a3, cap3, g3, { hq with row := fun _ => (hq.row rfl).keepB (fun z => ha.block _ ((hq.row rfl).lt z) (by have := hq.lo; omega)), fin := fun q => by cases q }⟩ }
theorem EaF.s6 {w : World} {B : Nat} {E : En} {a : Option Addr} {cap g : Nat} {l1 l2 l3 l4 l7 l8 l9 : Bool} {u28 u29 u30 u31 u32 u33 u34 u35 u36 u37 : Value} {x : World} {y : World} {r : Int} {a3 : Option Addr} {cap3 g3 : Nat} (h : EaF w B E a cap g true l1 l2 l3 l4 true false l7 l8 l9 false u28 u29 u30 u31 u32 u33 u34 u35 u36 u37 x) (hb : Below x.heap.size x y) (hg : x.heap.size ≤ g3) (ho : OwnRow 2 prcCells y g3 a3 cap3 (ackE E r).out) : EaF w B E a cap g true l1 l2 l3 l4 true true l7 l8 l9 false u28 u29 u30 u31 u32 u33 u34 (.tuple #[.agg #[.slice a3 (ackE E r).out.length cap3, .int .i64 (ackE E r).sent, .int .i64 (ackE E r).got], .bool (ackOk E r)]) u36 u37 y :=
  { h with
    de := fun _ => (h.de rfl).below hb
    d := fun _ => rfl
    d100 := fun q => by cases q
    d103 := fun q => by cases q
    d105 := fun q => by cases q
    q35 := fun _ => ⟨r, a3, cap3, g3, ⟨rfl, by have := (h.de rfl).lt; omega, fun _ => ho, fun q => absurd (h.d (.inl q)) (by simp), fun q => absurd (h.d (.inr (.inl q))) (by simp), fun q => by cases q⟩⟩ }
theorem EaF.s10 {w : World} {B : Nat} {E : En} {a : Option Addr} {cap g : Nat} {l9 : Bool} {u28 u29 u30 u31 u32 u33 u34 u35 u36 u37 : Value} {x : World} {r : Int} {a3 : Option Addr} {cap3 g3 : Nat} (h : EaF w B E a cap g true true true true true true true true true l9 false u28 u29 u30 u31 u32 u33 u34 u35 u36 u37 x) (hq : AkQ w B E r a3 cap3 g3 true true false u28 u35 u36 x) : EaF w B E a cap g true true true true true true true true true l9 true u28 u29 u30 u31 u32 u33 u34 u35 u36 u37 (((x.setCell ⟨w.heap.size + 1, 0, none⟩ (.slice a3 (ackE E r).out.length cap3)).setCell ⟨w.heap.size + 1, 1, none⟩ (.int .i64 (ackE E r).sent)).setCell ⟨w.heap.size + 1, 2, none⟩ (.int .i64 (ackE E r).got)) :=
  { h with
    de := fun q => by cases q
    d := fun _ => rfl
    d100 := fun _ => rfl
    d103 := fun _ => rfl
    d105 := fun _ => rfl
    q35 := fun _ => ⟨r, a3, cap3, g3, { hq with row := fun q => (by cases q), fin := fun _ => (h.de rfl).put hq.lo (hq.row rfl) }⟩ }
set_option maxRecDepth 100000 in
set_option maxHeartbeats 4000000 in
theorem end_drawn (B : Nat) (w : World) (h : Rd B w) : Calls Try.prog 14 #[.pointer (some ⟨B, 0, none⟩)] w fun e w' => EndDr B w e w' := by
  have HD0 : Hid _ := hide (de_start h)
  clear h
  go_enter Try.func14, Try.ntmps14
  go_wp2_with fail
  refine (below_any B 7 _ HD0.out.rd (by omega)).mono ?_
  rintro e w1 ⟨⟨r, r0, r2, r1, rfl⟩, hr1, ha1⟩
  have HD1 : Hid _ := hide (HD0.out.apart hr1 ha1)
  clear hr1 ha1 HD0
  go_wp2
  go_loopw [4] (fun i wr => ∃ (k : Int) (E : En) (a : Option Addr) (cap g : Nat), 0 ≤ k ∧ k ≤ 6 ∧ i = .int .i64 k ∧ Hid (De w B E a cap g wr) ∧ endB E = true ∧ E.sent + k ≤ 6) (fun i wr => (intOf i).toNat)
  case atStart => exact ⟨r, ⟨[], 0, 0⟩, none, 0, _, r0, by omega, rfl, HD1, rfl, by simp; omega⟩
  case round =>
    obtain ⟨k, E, a, cap, g, hk0, hk6, rfl, HD, hok, hsk⟩ := hrel
    clear HD1
    by_cases hk : 0 < k
    · have h8 : E.out.length ≤ 8 := (endB_parts hok).1
      have HDd : Hid (De w B E a cap g wr.drew) := hide (HD.out.below ((Below.refl _ _).drew))
      have HPK : Hid (∀ (n : Int) (x : World), RowAt 2 prcCells x a E.out → Calls Try.prog 7 #[.agg #[.slice a E.out.length cap, .int .i64 E.sent, .int .i64 E.got], .int .i64 n] x fun e w' => EndPrc (pkE E n) (pkP E n) (pkOk E n) x e w') := hide (fun n x hx => specPacked_any a E.out cap E.sent E.got n x (by omega) HD.out.row.nocap hx)
      have c0 := HD.out.c0
      have c1 := HD.out.c1
      have c2 := HD.out.c2
      go_wp2_with fail
      rename_i K0 hK0
      clear c0 c1 c2
      refine wp_region_inv (by kernel_rfl) (fun L act x => ∃ l0 l1 l2 l3 l4 l5 l6 l7 l8 l9 l10 l11 l12 l13 : Bool, ∃ u5 u6 u7 u15 u16 u17 u18 u19 u20 u21 u22 u23 : Value, L = #[l0, l1, l2, l3, l4, l5, l6, l7, l8, l9, l10, l11, l12, l13] ∧ act = { tmps := #[Value.pointer (some { block := B, off := 0 }), undef, Value.pointer (some { block := w.heap.size, off := 0 }), Value.pointer (some { block := w.heap.size + 1, off := 0 }), Value.int IntKind.i64 k, u5, u6, u7, Value.agg #[Value.slice none 0 0, Value.int IntKind.i64 0, Value.int IntKind.i64 0], Value.pointer (some { block := B, off := 0 }), Value.int IntKind.i64 r, Value.int IntKind.i64 k, Value.bool true, u13, u14, u15, u16, u17, u18, u19, u20, u21, u22, u23, u24, u25, u26, u27, u28, u29, u30, u31, u32, u33, u34, u35, u36, u37, undef, undef, undef, undef, undef, undef, undef, undef, undef], defers := [] } ∧ EdF w B E a cap g wr.heap.size (E.sent + 1) l0 l1 l2 l3 l4 l5 l6 l7 l8 l9 l10 l11 l12 l13 u5 u6 u7 u15 u16 u17 u18 u19 u20 u21 u22 u23 x) ?_ ?_ ?_
      rotate_left 2
      · exact ⟨false, false, false, false, false, false, false, false, false, false, false, false, false, false, (u5), (u6), (u7), (u15), (u16), (u17), (u18), (u19), (u20), (u21), (u22), (u23), rfl, rfl, ⟨HDd.out, Nat.le_refl _, HD.out.lt, fun q => HD.out.row.lt q, fun q => (by cases q), fun q => (by cases q), fun q => (by simp at q), fun q => (by cases q), fun q => (by cases q), fun q => (by cases q), fun q => (by cases q), fun q => (by cases q), fun q => (by cases q)⟩⟩
      · rintro L act x i ⟨l0, l1, l2, l3, l4, l5, l6, l7, l8, l9, l10, l11, l12, l13, u5, u6, u7, u15, u16, u17, u18, u19, u20, u21, u22, u23, rfl, rfl, h⟩ hi K hK
        have hi15 : i < 14 := by
          obtain ⟨_, o, ho, _⟩ := mem_ready.1 hi
          exact (Array.getElem?_eq_some_iff.1 ho).1
        have hl := (mem_ready.1 hi).1
        obtain rfl | rfl | rfl | rfl | rfl | rfl | rfl | rfl | rfl | rfl | rfl | rfl | rfl | rfl := (by omega : i = 0 ∨ i = 1 ∨ i = 2 ∨ i = 3 ∨ i = 4 ∨ i = 5 ∨ i = 6 ∨ i = 7 ∨ i = 8 ∨ i = 9 ∨ i = 10 ∨ i = 11 ∨ i = 12 ∨ i = 13)
        · have e : l0 = false := hl
          subst e
          have c0 := h.de.c0
          have c1 := h.de.c1
          have c2 := h.de.c2
          refine wpOp_run (v := .agg #[.slice a E.out.length cap, .int .i64 E.sent, .int .i64 E.got]) (w' := x) (by rfl) (by rfl) ?_ (hK _ _ ⟨true, l1, l2, l3, l4, l5, l6, l7, l8, l9, l10, l11, l12, l13, u5, u6, u7, u15, (.agg #[.slice a E.out.length cap, .int .i64 E.sent, .int .i64 E.got]), u17, u18, u19, u20, u21, u22, u23, rfl, rfl, { h with p16 := fun _ => rfl }⟩)
          go_simp
        · have e : l1 = false := hl
          subst e
          refine wpOp_run (v := .pointer (some ⟨B, 0, none⟩)) (w' := x) (by rfl) (by rfl) ?_ (hK _ _ ⟨l0, true, l2, l3, l4, l5, l6, l7, l8, l9, l10, l11, l12, l13, u5, u6, u7, u15, u16, (.pointer (some ⟨B, 0, none⟩)), u18, u19, u20, u21, u22, u23, rfl, rfl, { h with p17 := fun _ => rfl }⟩)
          go_simp
        · have e : l2 = false := hl
          subst e
          have d1 : l1 = true := ready_on hi 1 (by kernel_rfl)
          subst d1
          refine wpOp_call (by rfl) (by rfl) ?_ (below_any B 20 x h.de.rd (by omega)) ?_
          · rw [h.p17 rfl]; go_simp
          · rintro e w' ⟨⟨r, r0, r2, r1, rfl⟩, hr, ha⟩
            exact ⟨_, rfl, hK _ _ ⟨l0, true, true, l3, l4, l5, l6, l7, l8, l9, l10, l11, l12, l13, u5, u6, u7, u15, u16, u17, (.int .i64 r), u19, u20, u21, u22, u23, rfl, rfl, h.s2 hr ha (by omega) (by omega)⟩⟩
        · have e : l3 = false := hl
          subst e
          have d2 : l2 = true := ready_on hi 2 (by kernel_rfl)
          subst d2
          obtain ⟨r, r0, r1, e1⟩ := h.q18 rfl
          refine wpOp_run (v := .int .i64 (1 + r)) (w' := x) (by rfl) (by rfl) ?_ (hK _ _ ⟨l0, l1, true, true, l4, l5, l6, l7, l8, l9, l10, l11, l12, l13, u5, u6, u7, u15, u16, u17, u18, (.int .i64 (1 + r)), u20, u21, u22, u23, rfl, rfl, { h with q19 := fun _ => ⟨1 + r, by omega, by omega, rfl⟩ }⟩)
          rw [e1]
          go_simp
          simp [IntKind.wrap, IntKind.bits, IntKind.signed]
          omega
        · have e : l4 = false := hl
          subst e
          have d0 : l0 = true := ready_on hi 0 (by kernel_rfl)
          subst d0
          have d2 : l2 = true := ready_on hi 2 (by kernel_rfl)
          subst d2
          have d3 : l3 = true := ready_on hi 3 (by kernel_rfl)
          subst d3
          obtain ⟨r, r0, r1, e1⟩ := h.q19 rfl
          refine wpOp_call (by rfl) (by rfl) ?_ (HPK.out r x h.de.row.rows) ?_
          · rw [h.p16 rfl]; rw [e1]; go_simp
          · rintro e w' ⟨hb, v, rfl, g2, a2, cap2, hg2, rfl, ho2⟩
            exact ⟨_, rfl, hK _ _ ⟨true, l1, true, true, true, l5, l6, l7, l8, l9, l10, l11, l12, l13, u5, u6, u7, u15, u16, u17, u18, u19, (.tuple #[.agg #[.slice a2 (pkE E r).out.length cap2, .int .i64 (pkE E r).sent, .int .i64 (pkE E r).got], .agg #[.int .i64 (pkP E r).seq, .int .i64 (pkP E r).amt], .bool (pkOk E r)]), u21, u22, u23, rfl, rfl, h.s4 (fun q => ⟨pk_right q, by simp [pkE, q]⟩) hb hg2 ho2⟩⟩
        · have e : l5 = false := hl
          subst e
          have d4 : l4 = true := ready_on hi 4 (by kernel_rfl)
          subst d4
          obtain ⟨E2, p2, f2, a2, cap2, g2, hq⟩ := h.q20 rfl
          refine wpOp_run (v := u20) (w' := x) (by rfl) (by rfl) ?_ (hK _ _ ⟨l0, l1, l2, l3, true, true, l6, l7, l8, l9, l10, l11, l12, l13, u5, u6, u7, (u20), u16, u17, u18, u19, u20, u21, u22, u23, rfl, rfl, { h with d := fun _ => rfl, q20 := fun _ => ⟨E2, p2, f2, a2, cap2, g2, { hq with m15 := fun _ => rfl }⟩ }⟩)
          go_simp
        · have e : l6 = false := hl
          subst e
          have d5 : l5 = true := ready_on hi 5 (by kernel_rfl)
          subst d5
          have d4 := h.d (.inl rfl)
          obtain ⟨E2, p2, f2, a2, cap2, g2, hq⟩ := h.q20 d4
          refine wpOp_run (v := .agg #[.slice a2 E2.out.length cap2, .int .i64 E2.sent, .int .i64 E2.got]) (w' := x) (by rfl) (by rfl) ?_ (hK _ _ ⟨l0, l1, l2, l3, l4, true, true, l7, l8, l9, l10, l11, l12, l13, u5, u6, u7, u15, u16, u17, u18, u19, u20, (.agg #[.slice a2 E2.out.length cap2, .int .i64 E2.sent, .int .i64 E2.got]), u22, u23, rfl, rfl, { h with d := fun _ => d4, q20 := fun _ => ⟨E2, p2, f2, a2, cap2, g2, { hq with m21 := fun _ => rfl }⟩ }⟩)
          rw [hq.m15 rfl, hq.m20]
          go_simp
        · have e : l7 = false := hl
          subst e
          have d5 : l5 = true := ready_on hi 5 (by kernel_rfl)
          subst d5
          have d4 := h.d (.inl rfl)
          obtain ⟨E2, p2, f2, a2, cap2, g2, hq⟩ := h.q20 d4
          refine wpOp_run (v := .agg #[.int .i64 p2.seq, .int .i64 p2.amt]) (w' := x) (by rfl) (by rfl) ?_ (hK _ _ ⟨l0, l1, l2, l3, l4, true, l6, true, l8, l9, l10, l11, l12, l13, u5, u6, u7, u15, u16, u17, u18, u19, u20, u21, (.agg #[.int .i64 p2.seq, .int .i64 p2.amt]), u23, rfl, rfl, { h with d := fun _ => d4, q20 := fun _ => ⟨E2, p2, f2, a2, cap2, g2, { hq with m22 := fun _ => rfl }⟩ }⟩)
          rw [hq.m15 rfl, hq.m20]
          go_simp
        · have e : l8 = false := hl
          subst e
          have d5 : l5 = true := ready_on hi 5 (by kernel_rfl)
          subst d5
          have d4 := h.d (.inl rfl)
          obtain ⟨E2, p2, f2, a2, cap2, g2, hq⟩ := h.q20 d4
          refine wpOp_run (v := .bool f2) (w' := x) (by rfl) (by rfl) ?_ (hK _ _ ⟨l0, l1, l2, l3, l4, true, l6, l7, true, l9, l10, l11, l12, l13, u5, u6, u7, u15, u16, u17, u18, u19, u20, u21, u22, (.bool f2), rfl, rfl, { h with d := fun _ => d4, q20 := fun _ => ⟨E2, p2, f2, a2, cap2, g2, { hq with m23 := fun _ => rfl }⟩ }⟩)
          rw [hq.m15 rfl, hq.m20]
          go_simp
        · have e : l9 = false := hl
          subst e
          refine wpOp_run (v := .pointer (some ⟨x.heap.size, 0, none⟩)) (w' := x.alloc (.cells #[.slice none 0 0, .int .i64 0, .int .i64 0] 26)) (by rfl) (by rfl) ?_ (hK _ _ ⟨l0, l1, l2, l3, l4, l5, l6, l7, l8, true, l10, l11, l12, l13, (.pointer (some ⟨x.heap.size, 0, none⟩)), u6, u7, u15, u16, u17, u18, u19, u20, u21, u22, u23, rfl, rfl, h.s9⟩)
          go_simp
        · have e : l10 = false := hl
          subst e
          refine wpOp_run (v := .pointer (some ⟨x.heap.size, 0, none⟩)) (w' := x.alloc (.cells #[.int .i64 0, .int .i64 0] 30)) (by rfl) (by rfl) ?_ (hK _ _ ⟨l0, l1, l2, l3, l4, l5, l6, l7, l8, l9, true, l11, l12, l13, u5, (.pointer (some ⟨x.heap.size, 0, none⟩)), u7, u15, u16, u17, u18, u19, u20, u21, u22, u23, rfl, rfl, h.s10⟩)
          go_simp
        · have e : l11 = false := hl
          subst e
          have d0 : l0 = true := ready_on hi 0 (by kernel_rfl)
          subst d0
          have d1 : l1 = true := ready_on hi 1 (by kernel_rfl)
          subst d1
          have d2 : l2 = true := ready_on hi 2 (by kernel_rfl)
          subst d2
          have d3 : l3 = true := ready_on hi 3 (by kernel_rfl)
          subst d3
          have d4 : l4 = true := ready_on hi 4 (by kernel_rfl)
          subst d4
          have d5 : l5 = true := ready_on hi 5 (by kernel_rfl)
          subst d5
          have d6 : l6 = true := ready_on hi 6 (by kernel_rfl)
          subst d6
          have d9 : l9 = true := ready_on hi 9 (by kernel_rfl)
          subst d9
          have d10 : l10 = true := ready_on hi 10 (by kernel_rfl)
          subst d10
          obtain ⟨E2, p2, f2, a2, cap2, g2, hq⟩ := h.q20 rfl
          obtain ⟨k, e5, hk, hres⟩ := h.e5 rfl
          refine wpOp_skip (w' := (((x.setCell ⟨k, 0, none⟩ (.slice a2 E2.out.length cap2)).setCell ⟨k, 1, none⟩ (.int .i64 E2.sent)).setCell ⟨k, 2, none⟩ (.int .i64 E2.got))) (by rfl) (by rfl) ?_ (hK _ _ ⟨true, true, true, true, true, true, true, l7, l8, true, true, true, l12, l13, u5, u6, u7, u15, u16, u17, u18, u19, u20, u21, u22, u23, rfl, rfl, h.s11 e5 hk hq⟩)
          rw [hq.m21 rfl, e5]
          obtain ⟨⟨t0, r0⟩, ⟨t1, r1⟩, ⟨t2, r2⟩⟩ := And.intro (hres.c 0 (by omega)) (And.intro (hres.c 1 (by omega)) (hres.c 2 (by omega)))
          have f0 := hres.f 0
          have f1 := hres.f 1
          have f2' := hres.f 2
          go_simp
        · have e : l12 = false := hl
          subst e
          have d0 : l0 = true := ready_on hi 0 (by kernel_rfl)
          subst d0
          have d1 : l1 = true := ready_on hi 1 (by kernel_rfl)
          subst d1
          have d2 : l2 = true := ready_on hi 2 (by kernel_rfl)
          subst d2
          have d3 : l3 = true := ready_on hi 3 (by kernel_rfl)
          subst d3
          have d4 : l4 = true := ready_on hi 4 (by kernel_rfl)
          subst d4
          have d5 : l5 = true := ready_on hi 5 (by kernel_rfl)
          subst d5
          have d6 : l6 = true := ready_on hi 6 (by kernel_rfl)
          subst d6
          have d7 : l7 = true := ready_on hi 7 (by kernel_rfl)
          subst d7
          have d9 : l9 = true := ready_on hi 9 (by kernel_rfl)
          subst d9
          have d10 : l10 = true := ready_on hi 10 (by kernel_rfl)
          subst d10
          have d11 : l11 = true := ready_on hi 11 (by kernel_rfl)
          subst d11
          obtain ⟨E2, p2, f2, a2, cap2, g2, hq⟩ := h.q20 rfl
          obtain ⟨k, e6, hk, lt, fz, ⟨v0, c0⟩, ⟨v1, c1⟩, ne⟩ := h.e6 rfl
          refine wpOp_skip (w' := ((x.setCell ⟨k, 0, none⟩ (.int .i64 p2.seq)).setCell ⟨k, 1, none⟩ (.int .i64 p2.amt))) (by rfl) (by rfl) ?_ (hK _ _ ⟨true, true, true, true, true, true, true, true, l8, true, true, true, true, l13, u5, u6, u7, u15, u16, u17, u18, u19, u20, u21, u22, u23, rfl, rfl, h.s12 e6 hk ne hq⟩)
          rw [hq.m22 rfl, e6]
          have f0 := fz 0
          have f1 := fz 1
          go_simp
        · have e : l13 = false := hl
          subst e
          have d0 : l0 = true := ready_on hi 0 (by kernel_rfl)
          subst d0
          have d1 : l1 = true := ready_on hi 1 (by kernel_rfl)
          subst d1
          have d2 : l2 = true := ready_on hi 2 (by kernel_rfl)
          subst d2
          have d3 : l3 = true := ready_on hi 3 (by kernel_rfl)
          subst d3
          have d4 : l4 = true := ready_on hi 4 (by kernel_rfl)
          subst d4
          have d5 : l5 = true := ready_on hi 5 (by kernel_rfl)
          subst d5
          have d6 : l6 = true := ready_on hi 6 (by kernel_rfl)
          subst d6
          have d7 : l7 = true := ready_on hi 7 (by kernel_rfl)
          subst d7
          have d8 : l8 = true := ready_on hi 8 (by kernel_rfl)
          subst d8
          have d9 : l9 = true := ready_on hi 9 (by kernel_rfl)
          subst d9
          have d10 : l10 = true := ready_on hi 10 (by kernel_rfl)
          subst d10
          have d11 : l11 = true := ready_on hi 11 (by kernel_rfl)
          subst d11
          have d12 : l12 = true := ready_on hi 12 (by kernel_rfl)
          subst d12
          obtain ⟨E2, p2, f2, a2, cap2, g2, hq⟩ := h.q20 rfl
          refine wpOp_run (v := .bool f2) (w' := x) (by rfl) (by rfl) ?_ (hK _ _ ⟨true, true, true, true, true, true, true, true, true, true, true, true, true, true, u5, u6, (.bool f2), u15, u16, u17, u18, u19, u20, u21, u22, u23, rfl, rfl, { h with d := fun _ => rfl, q20 := fun _ => ⟨E2, p2, f2, a2, cap2, g2, { hq with m7 := fun _ => rfl }⟩ }⟩)
          rw [hq.m23 rfl]
          go_simp
      · rintro L act x ⟨l0, l1, l2, l3, l4, l5, l6, l7, l8, l9, l10, l11, l12, l13, u5, u6, u7, u15, u16, u17, u18, u19, u20, u21, u22, u23, rfl, rfl, h⟩ hr
        have hall := ready_all hr rfl (by decide)
        have t0 : l0 = true := hall 0 (by decide)
        have t1 : l1 = true := hall 1 (by decide)
        have t2 : l2 = true := hall 2 (by decide)
        have t3 : l3 = true := hall 3 (by decide)
        have t4 : l4 = true := hall 4 (by decide)
        have t5 : l5 = true := hall 5 (by decide)
        have t6 : l6 = true := hall 6 (by decide)
        have t7 : l7 = true := hall 7 (by decide)
        have t8 : l8 = true := hall 8 (by decide)
        have t9 : l9 = true := hall 9 (by decide)
        have t10 : l10 = true := hall 10 (by decide)
        have t11 : l11 = true := hall 11 (by decide)
        have t12 : l12 = true := hall 12 (by decide)
        have t13 : l13 = true := hall 13 (by decide)
        subst t0 t1 t2 t3 t4 t5 t6 t7 t8 t9 t10 t11 t12 t13
        clear hall hr
        obtain ⟨E2, p2, f2, a2, cap2, g2, hq⟩ := h.q20 rfl
        obtain ⟨k5, e5, hk5, hr5⟩ := h.e5 rfl
        obtain ⟨ltk, z0, z1, z2⟩ := hq.st rfl k5 e5
        rw [e5, hq.m7 rfl]
        have HD2 : Hid (De w B E a cap g x) := hide h.de
        have HQ2 : Hid ((f2 = true → endB E2 = true ∧ E2.sent ≤ E.sent + 1) ∧ w.heap.size + 2 ≤ g2 ∧ OwnRow 2 prcCells x g2 a2 cap2 E2.out) := hide ⟨hq.ok, by have := hq.lo; have := h.sW; omega, hq.row⟩
        clear h hq hr5 e5 HPK
        refine hK0 _ _ ?_
        cases f2
        · go_wp2_with fail
          refine (once_any B 3 _ HD2.out.rd (by omega) (by omega)).mono ?_
          rintro e w8 ⟨⟨b8, rfl⟩, hr8, ha8⟩
          have HD8 : Hid _ := hide (HD2.out.apart hr8 ha8)
          clear hr8 ha8 HD2
          cases b8
          · go_wp2
            exact ⟨⟨k - 1, E, a, cap, g, by omega, by omega, by go_num, HD8, hok, by omega⟩, by simp [intOf]; omega⟩
          · have y0 := HD8.out.c0
            have y1 := HD8.out.c1
            have y2 := HD8.out.c2
            have v0 := HD8.out.fz 0
            have v1 := HD8.out.fz 1
            have v2 := HD8.out.fz 2
            obtain ⟨h8, ⟨s0, s1⟩, ⟨t0, t1⟩, hrest8⟩ := endB_parts hok
            clear hrest8
            have hok8 := hok
            have HD8d : Hid (De w B E a cap g w8.drew) := hide (HD8.out.below ((Below.refl _ _).drew))
            go_wp2_with fail
            have HAK : Hid (∀ (n : Int) (x : World), RowAt 2 prcCells x a E.out → Calls Try.prog 29 #[.agg #[.slice a E.out.length cap, .int .i64 E.sent, .int .i64 E.got], .int .i64 n] x fun e w' => EndFlag (ackE E n) (ackOk E n) x e w') := hide (fun n x hx => specAcked_any a E.out cap E.sent E.got n x (by omega) hx)
            rename_i K9 hK9
            refine wp_region_inv (by kernel_rfl) (fun L act x => ∃ l0 l1 l2 l3 l4 l5 l6 l7 l8 l9 l10 : Bool, ∃ u28 u29 u30 u31 u32 u33 u34 u35 u36 u37 : Value, L = #[l0, l1, l2, l3, l4, l5, l6, l7, l8, l9, l10] ∧ act = { tmps := #[Value.pointer (some { block := B, off := 0 }), undef, Value.pointer (some { block := w.heap.size, off := 0 }), Value.pointer (some { block := w.heap.size + 1, off := 0 }), Value.int IntKind.i64 k, Value.pointer (some { block := k5, off := 0 }), u6, Value.bool false, Value.agg #[Value.slice none 0 0, Value.int IntKind.i64 0, Value.int IntKind.i64 0], Value.pointer (some { block := B, off := 0 }), Value.int IntKind.i64 r, Value.int IntKind.i64 k, Value.bool true, u13, u14, u15, u16, u17, u18, u19, u20, u21, u22, u23, Value.bool false, u25, Value.pointer (some { block := B, off := 0 }), Value.bool true, u28, u29, u30, u31, u32, u33, u34, u35, u36, u37, undef, undef, undef, undef, undef, undef, undef, undef, undef], defers := [] } ∧ EaF w B E a cap g l0 l1 l2 l3 l4 l5 l6 l7 l8 l9 l10 u28 u29 u30 u31 u32 u33 u34 u35 u36 u37 x) ?_ ?_ ?_
            rotate_left 2
            · exact ⟨false, false, false, false, false, false, false, false, false, false, false, (u28), (u29), (u30), (u31), (u32), (u33), (u34), (u35), (u36), (u37), rfl, rfl, ⟨fun _ => HD8d.out, fun q => (by cases q), fun q => (by simp at q), fun q => (by cases q), fun q => (by cases q), fun q => (by cases q), fun q => (by cases q), fun q => (by cases q), fun q => (by cases q), fun q => (by cases q), fun q => (by cases q), fun q => (by cases q)⟩⟩
            · rintro L act x i ⟨l0, l1, l2, l3, l4, l5, l6, l7, l8, l9, l10, u28, u29, u30, u31, u32, u33, u34, u35, u36, u37, rfl, rfl, h⟩ hi K hK
              have hi15 : i < 11 := by
                obtain ⟨_, o, ho, _⟩ := mem_ready.1 hi
                exact (Array.getElem?_eq_some_iff.1 ho).1
              have hl := (mem_ready.1 hi).1
              obtain rfl | rfl | rfl | rfl | rfl | rfl | rfl | rfl | rfl | rfl | rfl := (by omega : i = 0 ∨ i = 1 ∨ i = 2 ∨ i = 3 ∨ i = 4 ∨ i = 5 ∨ i = 6 ∨ i = 7 ∨ i = 8 ∨ i = 9 ∨ i = 10)
              · have e : l0 = false := hl
                subst e
                have n10 : l10 = false := by
                  cases l10
                  · rfl
                  · exact absurd (h.d100 rfl) (by simp)
                have hde := h.de n10
                have c0 := hde.c0
                have c1 := hde.c1
                have c2 := hde.c2
                refine wpOp_run (v := .agg #[.slice a E.out.length cap, .int .i64 E.sent, .int .i64 E.got]) (w' := x) (by rfl) (by rfl) ?_ (hK _ _ ⟨true, l1, l2, l3, l4, l5, l6, l7, l8, l9, l10, u28, (.agg #[.slice a E.out.length cap, .int .i64 E.sent, .int .i64 E.got]), u30, u31, u32, u33, u34, u35, u36, u37, rfl, rfl, { h with p29 := fun _ => rfl, d100 := fun _ => rfl }⟩)
                go_simp
              · have e : l1 = false := hl
                subst e
                refine wpOp_run (v := .pointer (some ⟨B, 0, none⟩)) (w' := x) (by rfl) (by rfl) ?_ (hK _ _ ⟨l0, true, l2, l3, l4, l5, l6, l7, l8, l9, l10, u28, u29, (.pointer (some ⟨B, 0, none⟩)), u31, u32, u33, u34, u35, u36, u37, rfl, rfl, { h with p30 := fun _ => rfl }⟩)
                go_simp
              · have e : l2 = false := hl
                subst e
                refine wpOp_run (v := .pointer (some ⟨w.heap.size + 1, 1, none⟩)) (w' := x) (by rfl) (by rfl) ?_ (hK _ _ ⟨l0, l1, true, l3, l4, l5, l6, l7, l8, l9, l10, u28, u29, u30, (.pointer (some ⟨w.heap.size + 1, 1, none⟩)), u32, u33, u34, u35, u36, u37, rfl, rfl, { h with p31 := fun _ => rfl }⟩)
                go_simp
              · have e : l3 = false := hl
                subst e
                have d2 : l2 = true := ready_on hi 2 (by kernel_rfl)
                subst d2
                have n10 : l10 = false := by
                  cases l10
                  · rfl
                  · exact absurd (h.d103 rfl) (by simp)
                have c1 := (h.de n10).c1
                refine wpOp_run (v := .int .i64 E.sent) (w' := x) (by rfl) (by rfl) ?_ (hK _ _ ⟨l0, l1, true, true, l4, l5, l6, l7, l8, l9, l10, u28, u29, u30, u31, (.int .i64 E.sent), u33, u34, u35, u36, u37, rfl, rfl, { h with p32 := fun _ => rfl, d103 := fun _ => rfl }⟩)
                rw [h.p31 rfl]
                go_simp
              · have e : l4 = false := hl
                subst e
                have d3 : l3 = true := ready_on hi 3 (by kernel_rfl)
                subst d3
                refine wpOp_run (v := .int .i64 (E.sent + 1)) (w' := x) (by rfl) (by rfl) ?_ (hK _ _ ⟨l0, l1, l2, true, true, l5, l6, l7, l8, l9, l10, u28, u29, u30, u31, u32, (.int .i64 (E.sent + 1)), u34, u35, u36, u37, rfl, rfl, { h with p33 := fun _ => rfl }⟩)
                rw [h.p32 rfl]
                go_simp
                simp [IntKind.wrap, IntKind.bits, IntKind.signed]
                omega
              · have e : l5 = false := hl
                subst e
                have d1 : l1 = true := ready_on hi 1 (by kernel_rfl)
                subst d1
                have d4 : l4 = true := ready_on hi 4 (by kernel_rfl)
                subst d4
                have n10 : l10 = false := by
                  cases l10
                  · rfl
                  · exact absurd (h.d105 rfl) (by simp)
                subst n10
                refine wpOp_call (by rfl) (by rfl) ?_ (below_any B (E.sent + 1) x (h.de rfl).rd (by omega)) ?_
                · rw [h.p30 rfl, h.p33 rfl]; go_simp
                · rintro e w' ⟨⟨r, r0, r2, r1, rfl⟩, hr, ha⟩
                  exact ⟨_, rfl, hK _ _ ⟨l0, true, l2, l3, true, true, l6, l7, l8, l9, false, u28, u29, u30, u31, u32, u33, (.int .i64 r), u35, u36, u37, rfl, rfl, h.s5 hr ha r0⟩⟩
              · have e : l6 = false := hl
                subst e
                have d0 : l0 = true := ready_on hi 0 (by kernel_rfl)
                subst d0
                have d5 : l5 = true := ready_on hi 5 (by kernel_rfl)
                subst d5
                have n10 : l10 = false := by
                  cases l10
                  · rfl
                  · exact absurd (h.d (.inr (.inr (.inr rfl)))) (by simp)
                subst n10
                obtain ⟨r, r0, e1⟩ := h.q34 rfl
                refine wpOp_call (by rfl) (by rfl) ?_ (HAK.out r x (h.de rfl).row.rows) ?_
                · rw [h.p29 rfl]; rw [e1]; go_simp
                · rintro e w' ⟨hb, v, rfl, g3, a3, cap3, hg3, rfl, ho3⟩
                  exact ⟨_, rfl, hK _ _ ⟨true, l1, l2, l3, l4, true, true, l7, l8, l9, false, u28, u29, u30, u31, u32, u33, u34, (.tuple #[.agg #[.slice a3 (ackE E r).out.length cap3, .int .i64 (ackE E r).sent, .int .i64 (ackE E r).got], .bool (ackOk E r)]), u36, u37, rfl, rfl, h.s6 hb hg3 ho3⟩⟩
              · have e : l7 = false := hl
                subst e
                have d6 : l6 = true := ready_on hi 6 (by kernel_rfl)
                subst d6
                obtain ⟨r, a3, cap3, g3, hq⟩ := h.q35 rfl
                refine wpOp_run (v := u35) (w' := x) (by rfl) (by rfl) ?_ (hK _ _ ⟨l0, l1, l2, l3, l4, l5, true, true, l8, l9, l10, (u35), u29, u30, u31, u32, u33, u34, u35, u36, u37, rfl, rfl, { h with d := fun _ => rfl, q35 := fun _ => ⟨r, a3, cap3, g3, { hq with m28 := fun _ => rfl }⟩ }⟩)
                go_simp
              · have e : l8 = false := hl
                subst e
                have d7 : l7 = true := ready_on hi 7 (by kernel_rfl)
                subst d7
                have d6 := h.d (.inl rfl)
                obtain ⟨r, a3, cap3, g3, hq⟩ := h.q35 d6
                refine wpOp_run (v := .agg #[.slice a3 (ackE E r).out.length cap3, .int .i64 (ackE E r).sent, .int .i64 (ackE E r).got]) (w' := x) (by rfl) (by rfl) ?_ (hK _ _ ⟨l0, l1, l2, l3, l4, l5, l6, true, true, l9, l10, u28, u29, u30, u31, u32, u33, u34, u35, (.agg #[.slice a3 (ackE E r).out.length cap3, .int .i64 (ackE E r).sent, .int .i64 (ackE E r).got]), u37, rfl, rfl, { h with d := fun _ => d6, q35 := fun _ => ⟨r, a3, cap3, g3, { hq with m36 := fun _ => rfl }⟩ }⟩)
                rw [hq.m28 rfl, hq.m35]
                go_simp
              · have e : l9 = false := hl
                subst e
                have d7 : l7 = true := ready_on hi 7 (by kernel_rfl)
                subst d7
                have d6 := h.d (.inl rfl)
                obtain ⟨r, a3, cap3, g3, hq⟩ := h.q35 d6
                refine wpOp_run (v := .bool (ackOk E r)) (w' := x) (by rfl) (by rfl) ?_ (hK _ _ ⟨l0, l1, l2, l3, l4, l5, l6, true, l8, true, l10, u28, u29, u30, u31, u32, u33, u34, u35, u36, (.bool (ackOk E r)), rfl, rfl, { h with d := fun _ => d6 }⟩)
                rw [hq.m28 rfl, hq.m35]
                go_simp
              · have e : l10 = false := hl
                subst e
                have d0 : l0 = true := ready_on hi 0 (by kernel_rfl)
                subst d0
                have d1 : l1 = true := ready_on hi 1 (by kernel_rfl)
                subst d1
                have d2 : l2 = true := ready_on hi 2 (by kernel_rfl)
                subst d2
                have d3 : l3 = true := ready_on hi 3 (by kernel_rfl)
                subst d3
                have d4 : l4 = true := ready_on hi 4 (by kernel_rfl)
                subst d4
                have d5 : l5 = true := ready_on hi 5 (by kernel_rfl)
                subst d5
                have d6 : l6 = true := ready_on hi 6 (by kernel_rfl)
                subst d6
                have d7 : l7 = true := ready_on hi 7 (by kernel_rfl)
                subst d7
                have d8 : l8 = true := ready_on hi 8 (by kernel_rfl)
                subst d8
                obtain ⟨r, a3, cap3, g3, hq⟩ := h.q35 rfl
                refine wpOp_skip (w' := (((x.setCell ⟨w.heap.size + 1, 0, none⟩ (.slice a3 (ackE E r).out.length cap3)).setCell ⟨w.heap.size + 1, 1, none⟩ (.int .i64 (ackE E r).sent)).setCell ⟨w.heap.size + 1, 2, none⟩ (.int .i64 (ackE E r).got))) (by rfl) (by rfl) ?_ (hK _ _ ⟨true, true, true, true, true, true, true, true, true, l9, true, u28, u29, u30, u31, u32, u33, u34, u35, u36, u37, rfl, rfl, h.s10 hq⟩)
                rw [hq.m36 rfl]
                have c0 := (h.de rfl).c0
                have c1 := (h.de rfl).c1
                have c2 := (h.de rfl).c2
                have f0 := (h.de rfl).fz 0
                have f1 := (h.de rfl).fz 1
                have f2 := (h.de rfl).fz 2
                go_simp
            · rintro L act x ⟨l0, l1, l2, l3, l4, l5, l6, l7, l8, l9, l10, u28, u29, u30, u31, u32, u33, u34, u35, u36, u37, rfl, rfl, h⟩ hr
              have hall := ready_all hr rfl (by decide)
              have t0 : l0 = true := hall 0 (by decide)
              have t1 : l1 = true := hall 1 (by decide)
              have t2 : l2 = true := hall 2 (by decide)
              have t3 : l3 = true := hall 3 (by decide)
              have t4 : l4 = true := hall 4 (by decide)
              have t5 : l5 = true := hall 5 (by decide)
              have t6 : l6 = true := hall 6 (by decide)
              have t7 : l7 = true := hall 7 (by decide)
              have t8 : l8 = true := hall 8 (by decide)
              have t9 : l9 = true := hall 9 (by decide)
              have t10 : l10 = true := hall 10 (by decide)
              subst t0 t1 t2 t3 t4 t5 t6 t7 t8 t9 t10
              clear hall hr
              obtain ⟨r9, a3, cap3, g3, hq9⟩ := h.q35 rfl
              have HD9 : Hid _ := hide (hq9.fin rfl)
              have hok9 : endB (ackE E r9) = true := ack_right hok8 r9
              have hsk9 : (ackE E r9).sent + (k - 1) ≤ 6 := by
                have := ack_sent E r9
                omega
              clear h hq9
              refine hK9 _ _ ?_
              go_wp2
              exact ⟨⟨k - 1, ackE E r9, a3, cap3, g3, by omega, by omega, by go_num, HD9, hok9, hsk9⟩, by simp [intOf]; omega⟩
        · have hok3 : endB E2 = true := (HQ2.out.1 rfl).1
          have hsk3 : E2.sent + (k - 1) ≤ 6 := by have := (HQ2.out.1 rfl).2; omega
          have y0 := HD2.out.c0
          have y1 := HD2.out.c1
          have y2 := HD2.out.c2
          have v0 := HD2.out.fz 0
          have v1 := HD2.out.fz 1
          have v2 := HD2.out.fz 2
          have hne : k5 ≠ w.heap.size + 1 := by have := HD.out.lt; omega
          go_wp2_with fail
          have HD3 : Hid _ := hide (HD2.out.put HQ2.out.2.1 HQ2.out.2.2)
          clear y0 y1 y2 v0 v1 v2 z0 z1 z2 HD2 hok HD hsk
          refine (once_any B 3 _ HD3.out.rd (by omega) (by omega)).mono ?_
          rintro e w8 ⟨⟨b8, rfl⟩, hr8, ha8⟩
          have HD8 : Hid _ := hide (HD3.out.apart hr8 ha8)
          clear hr8 ha8 HD3
          cases b8
          · go_wp2
            exact ⟨⟨k - 1, E2, a2, cap2, g2, by omega, by omega, by go_num, HD8, hok3, by omega⟩, by simp [intOf]; omega⟩
          · have y0 := HD8.out.c0
            have y1 := HD8.out.c1
            have y2 := HD8.out.c2
            have v0 := HD8.out.fz 0
            have v1 := HD8.out.fz 1
            have v2 := HD8.out.fz 2
            obtain ⟨h8, ⟨s0, s1⟩, ⟨t0, t1⟩, hrest8⟩ := endB_parts hok3
            clear hrest8
            have hok8 := hok3
            have HD8d : Hid (De w B E2 a2 cap2 g2 w8.drew) := hide (HD8.out.below ((Below.refl _ _).drew))
            go_wp2_with fail
            have HAK : Hid (∀ (n : Int) (x : World), RowAt 2 prcCells x a2 E2.out → Calls Try.prog 29 #[.agg #[.slice a2 E2.out.length cap2, .int .i64 E2.sent, .int .i64 E2.got], .int .i64 n] x fun e w' => EndFlag (ackE E2 n) (ackOk E2 n) x e w') := hide (fun n x hx => specAcked_any a2 E2.out cap2 E2.sent E2.got n x (by omega) hx)
            rename_i K9 hK9
            refine wp_region_inv (by kernel_rfl) (fun L act x => ∃ l0 l1 l2 l3 l4 l5 l6 l7 l8 l9 l10 : Bool, ∃ u28 u29 u30 u31 u32 u33 u34 u35 u36 u37 : Value, L = #[l0, l1, l2, l3, l4, l5, l6, l7, l8, l9, l10] ∧ act = { tmps := #[Value.pointer (some { block := B, off := 0 }), undef, Value.pointer (some { block := w.heap.size, off := 0 }), Value.pointer (some { block := w.heap.size + 1, off := 0 }), Value.int IntKind.i64 k, Value.pointer (some { block := k5, off := 0 }), u6, Value.bool true, Value.agg #[Value.slice none 0 0, Value.int IntKind.i64 0, Value.int IntKind.i64 0], Value.pointer (some { block := B, off := 0 }), Value.int IntKind.i64 r, Value.int IntKind.i64 k, Value.bool true, u13, u14, u15, u16, u17, u18, u19, u20, u21, u22, u23, Value.bool true, Value.agg #[Value.slice a2 E2.out.length cap2, Value.int IntKind.i64 E2.sent, Value.int IntKind.i64 E2.got], Value.pointer (some { block := B, off := 0 }), Value.bool true, u28, u29, u30, u31, u32, u33, u34, u35, u36, u37, undef, undef, undef, undef, undef, undef, undef, undef, undef], defers := [] } ∧ EaF w B E2 a2 cap2 g2 l0 l1 l2 l3 l4 l5 l6 l7 l8 l9 l10 u28 u29 u30 u31 u32 u33 u34 u35 u36 u37 x) ?_ ?_ ?_
            rotate_left 2
            · exact ⟨false, false, false, false, false, false, false, false, false, false, false, (u28), (u29), (u30), (u31), (u32), (u33), (u34), (u35), (u36), (u37), rfl, rfl, ⟨fun _ => HD8d.out, fun q => (by cases q), fun q => (by simp at q), fun q => (by cases q), fun q => (by cases q), fun q => (by cases q), fun q => (by cases q), fun q => (by cases q), fun q => (by cases q), fun q => (by cases q), fun q => (by cases q), fun q => (by cases q)⟩⟩
            · rintro L act x i ⟨l0, l1, l2, l3, l4, l5, l6, l7, l8, l9, l10, u28, u29, u30, u31, u32, u33, u34, u35, u36, u37, rfl, rfl, h⟩ hi K hK
              have hi15 : i < 11 := by
                obtain ⟨_, o, ho, _⟩ := mem_ready.1 hi
                exact (Array.getElem?_eq_some_iff.1 ho).1
              have hl := (mem_ready.1 hi).1
              obtain rfl | rfl | rfl | rfl | rfl | rfl | rfl | rfl | rfl | rfl | rfl := (by omega : i = 0 ∨ i = 1 ∨ i = 2 ∨ i = 3 ∨ i = 4 ∨ i = 5 ∨ i = 6 ∨ i = 7 ∨ i = 8 ∨ i = 9 ∨ i = 10)
              · have e : l0 = false := hl
                subst e
                have n10 : l10 = false := by
                  cases l10
                  · rfl
                  · exact absurd (h.d100 rfl) (by simp)
                have hde := h.de n10
                have c0 := hde.c0
                have c1 := hde.c1
                have c2 := hde.c2
                refine wpOp_run (v := .agg #[.slice a2 E2.out.length cap2, .int .i64 E2.sent, .int .i64 E2.got]) (w' := x) (by rfl) (by rfl) ?_ (hK _ _ ⟨true, l1, l2, l3, l4, l5, l6, l7, l8, l9, l10, u28, (.agg #[.slice a2 E2.out.length cap2, .int .i64 E2.sent, .int .i64 E2.got]), u30, u31, u32, u33, u34, u35, u36, u37, rfl, rfl, { h with p29 := fun _ => rfl, d100 := fun _ => rfl }⟩)
                go_simp
              · have e : l1 = false := hl
                subst e
                refine wpOp_run (v := .pointer (some ⟨B, 0, none⟩)) (w' := x) (by rfl) (by rfl) ?_ (hK _ _ ⟨l0, true, l2, l3, l4, l5, l6, l7, l8, l9, l10, u28, u29, (.pointer (some ⟨B, 0, none⟩)), u31, u32, u33, u34, u35, u36, u37, rfl, rfl, { h with p30 := fun _ => rfl }⟩)
                go_simp
              · have e : l2 = false := hl
                subst e
                refine wpOp_run (v := .pointer (some ⟨w.heap.size + 1, 1, none⟩)) (w' := x) (by rfl) (by rfl) ?_ (hK _ _ ⟨l0, l1, true, l3, l4, l5, l6, l7, l8, l9, l10, u28, u29, u30, (.pointer (some ⟨w.heap.size + 1, 1, none⟩)), u32, u33, u34, u35, u36, u37, rfl, rfl, { h with p31 := fun _ => rfl }⟩)
                go_simp
              · have e : l3 = false := hl
                subst e
                have d2 : l2 = true := ready_on hi 2 (by kernel_rfl)
                subst d2
                have n10 : l10 = false := by
                  cases l10
                  · rfl
                  · exact absurd (h.d103 rfl) (by simp)
                have c1 := (h.de n10).c1
                refine wpOp_run (v := .int .i64 E2.sent) (w' := x) (by rfl) (by rfl) ?_ (hK _ _ ⟨l0, l1, true, true, l4, l5, l6, l7, l8, l9, l10, u28, u29, u30, u31, (.int .i64 E2.sent), u33, u34, u35, u36, u37, rfl, rfl, { h with p32 := fun _ => rfl, d103 := fun _ => rfl }⟩)
                rw [h.p31 rfl]
                go_simp
              · have e : l4 = false := hl
                subst e
                have d3 : l3 = true := ready_on hi 3 (by kernel_rfl)
                subst d3
                refine wpOp_run (v := .int .i64 (E2.sent + 1)) (w' := x) (by rfl) (by rfl) ?_ (hK _ _ ⟨l0, l1, l2, true, true, l5, l6, l7, l8, l9, l10, u28, u29, u30, u31, u32, (.int .i64 (E2.sent + 1)), u34, u35, u36, u37, rfl, rfl, { h with p33 := fun _ => rfl }⟩)
                rw [h.p32 rfl]
                go_simp
                simp [IntKind.wrap, IntKind.bits, IntKind.signed]
                omega
              · have e : l5 = false := hl
                subst e
                have d1 : l1 = true := ready_on hi 1 (by kernel_rfl)
                subst d1
                have d4 : l4 = true := ready_on hi 4 (by kernel_rfl)
                subst d4
                have n10 : l10 = false := by
                  cases l10
                  · rfl
                  · exact absurd (h.d105 rfl) (by simp)
                subst n10
                refine wpOp_call (by rfl) (by rfl) ?_ (below_any B (E2.sent + 1) x (h.de rfl).rd (by omega)) ?_
                · rw [h.p30 rfl, h.p33 rfl]; go_simp
                · rintro e w' ⟨⟨r, r0, r2, r1, rfl⟩, hr, ha⟩
                  exact ⟨_, rfl, hK _ _ ⟨l0, true, l2, l3, true, true, l6, l7, l8, l9, false, u28, u29, u30, u31, u32, u33, (.int .i64 r), u35, u36, u37, rfl, rfl, h.s5 hr ha r0⟩⟩
              · have e : l6 = false := hl
                subst e
                have d0 : l0 = true := ready_on hi 0 (by kernel_rfl)
                subst d0
                have d5 : l5 = true := ready_on hi 5 (by kernel_rfl)
                subst d5
                have n10 : l10 = false := by
                  cases l10
                  · rfl
                  · exact absurd (h.d (.inr (.inr (.inr rfl)))) (by simp)
                subst n10
                obtain ⟨r, r0, e1⟩ := h.q34 rfl
                refine wpOp_call (by rfl) (by rfl) ?_ (HAK.out r x (h.de rfl).row.rows) ?_
                · rw [h.p29 rfl]; rw [e1]; go_simp
                · rintro e w' ⟨hb, v, rfl, g3, a3, cap3, hg3, rfl, ho3⟩
                  exact ⟨_, rfl, hK _ _ ⟨true, l1, l2, l3, l4, true, true, l7, l8, l9, false, u28, u29, u30, u31, u32, u33, u34, (.tuple #[.agg #[.slice a3 (ackE E2 r).out.length cap3, .int .i64 (ackE E2 r).sent, .int .i64 (ackE E2 r).got], .bool (ackOk E2 r)]), u36, u37, rfl, rfl, h.s6 hb hg3 ho3⟩⟩
              · have e : l7 = false := hl
                subst e
                have d6 : l6 = true := ready_on hi 6 (by kernel_rfl)
                subst d6
                obtain ⟨r, a3, cap3, g3, hq⟩ := h.q35 rfl
                refine wpOp_run (v := u35) (w' := x) (by rfl) (by rfl) ?_ (hK _ _ ⟨l0, l1, l2, l3, l4, l5, true, true, l8, l9, l10, (u35), u29, u30, u31, u32, u33, u34, u35, u36, u37, rfl, rfl, { h with d := fun _ => rfl, q35 := fun _ => ⟨r, a3, cap3, g3, { hq with m28 := fun _ => rfl }⟩ }⟩)
                go_simp
              · have e : l8 = false := hl
                subst e
                have d7 : l7 = true := ready_on hi 7 (by kernel_rfl)
                subst d7
                have d6 := h.d (.inl rfl)
                obtain ⟨r, a3, cap3, g3, hq⟩ := h.q35 d6
                refine wpOp_run (v := .agg #[.slice a3 (ackE E2 r).out.length cap3, .int .i64 (ackE E2 r).sent, .int .i64 (ackE E2 r).got]) (w' := x) (by rfl) (by rfl) ?_ (hK _ _ ⟨l0, l1, l2, l3, l4, l5, l6, true, true, l9, l10, u28, u29, u30, u31, u32, u33, u34, u35, (.agg #[.slice a3 (ackE E2 r).out.length cap3, .int .i64 (ackE E2 r).sent, .int .i64 (ackE E2 r).got]), u37, rfl, rfl, { h with d := fun _ => d6, q35 := fun _ => ⟨r, a3, cap3, g3, { hq with m36 := fun _ => rfl }⟩ }⟩)
                rw [hq.m28 rfl, hq.m35]
                go_simp
              · have e : l9 = false := hl
                subst e
                have d7 : l7 = true := ready_on hi 7 (by kernel_rfl)
                subst d7
                have d6 := h.d (.inl rfl)
                obtain ⟨r, a3, cap3, g3, hq⟩ := h.q35 d6
                refine wpOp_run (v := .bool (ackOk E2 r)) (w' := x) (by rfl) (by rfl) ?_ (hK _ _ ⟨l0, l1, l2, l3, l4, l5, l6, true, l8, true, l10, u28, u29, u30, u31, u32, u33, u34, u35, u36, (.bool (ackOk E2 r)), rfl, rfl, { h with d := fun _ => d6 }⟩)
                rw [hq.m28 rfl, hq.m35]
                go_simp
              · have e : l10 = false := hl
                subst e
                have d0 : l0 = true := ready_on hi 0 (by kernel_rfl)
                subst d0
                have d1 : l1 = true := ready_on hi 1 (by kernel_rfl)
                subst d1
                have d2 : l2 = true := ready_on hi 2 (by kernel_rfl)
                subst d2
                have d3 : l3 = true := ready_on hi 3 (by kernel_rfl)
                subst d3
                have d4 : l4 = true := ready_on hi 4 (by kernel_rfl)
                subst d4
                have d5 : l5 = true := ready_on hi 5 (by kernel_rfl)
                subst d5
                have d6 : l6 = true := ready_on hi 6 (by kernel_rfl)
                subst d6
                have d7 : l7 = true := ready_on hi 7 (by kernel_rfl)
                subst d7
                have d8 : l8 = true := ready_on hi 8 (by kernel_rfl)
                subst d8
                obtain ⟨r, a3, cap3, g3, hq⟩ := h.q35 rfl
                refine wpOp_skip (w' := (((x.setCell ⟨w.heap.size + 1, 0, none⟩ (.slice a3 (ackE E2 r).out.length cap3)).setCell ⟨w.heap.size + 1, 1, none⟩ (.int .i64 (ackE E2 r).sent)).setCell ⟨w.heap.size + 1, 2, none⟩ (.int .i64 (ackE E2 r).got))) (by rfl) (by rfl) ?_ (hK _ _ ⟨true, true, true, true, true, true, true, true, true, l9, true, u28, u29, u30, u31, u32, u33, u34, u35, u36, u37, rfl, rfl, h.s10 hq⟩)
                rw [hq.m36 rfl]
                have c0 := (h.de rfl).c0
                have c1 := (h.de rfl).c1
                have c2 := (h.de rfl).c2
                have f0 := (h.de rfl).fz 0
                have f1 := (h.de rfl).fz 1
                have f2 := (h.de rfl).fz 2
                go_simp
            · rintro L act x ⟨l0, l1, l2, l3, l4, l5, l6, l7, l8, l9, l10, u28, u29, u30, u31, u32, u33, u34, u35, u36, u37, rfl, rfl, h⟩ hr
              have hall := ready_all hr rfl (by decide)
              have t0 : l0 = true := hall 0 (by decide)
              have t1 : l1 = true := hall 1 (by decide)
              have t2 : l2 = true := hall 2 (by decide)
              have t3 : l3 = true := hall 3 (by decide)
              have t4 : l4 = true := hall 4 (by decide)
              have t5 : l5 = true := hall 5 (by decide)
              have t6 : l6 = true := hall 6 (by decide)
              have t7 : l7 = true := hall 7 (by decide)
              have t8 : l8 = true := hall 8 (by decide)
              have t9 : l9 = true := hall 9 (by decide)
              have t10 : l10 = true := hall 10 (by decide)
              subst t0 t1 t2 t3 t4 t5 t6 t7 t8 t9 t10
              clear hall hr
              obtain ⟨r9, a3, cap3, g3, hq9⟩ := h.q35 rfl
              have HD9 : Hid _ := hide (hq9.fin rfl)
              have hok9 : endB (ackE E2 r9) = true := ack_right hok8 r9
              have hsk9 : (ackE E2 r9).sent + (k - 1) ≤ 6 := by
                have := ack_sent E2 r9
                omega
              clear h hq9
              refine hK9 _ _ ?_
              go_wp2
              exact ⟨⟨k - 1, ackE E2 r9, a3, cap3, g3, by omega, by omega, by go_num, HD9, hok9, hsk9⟩, by simp [intOf]; omega⟩
    · have hk' : ¬ (0 : Int) < k := hk
      obtain ⟨h8, ⟨s0, s1⟩, ⟨t0, t1⟩, hrest8⟩ := endB_parts hok
      clear hrest8 hok
      go_wp2_with fail
      refine (below_any B 5 _ HD.out.rd (by omega)).mono ?_
      rintro e w4 ⟨⟨n4, m0, m2, m1, rfl⟩, hr4, ha4⟩
      have HD4 : Hid _ := hide (HD.out.apart hr4 ha4)
      clear hr4 ha4 HD
      have y2 := HD4.out.c2
      have v2 := HD4.out.fz 2
      have HD5 : Hid _ := hide (HD4.out.got n4)
      clear HD4
      go_wp2_with fail
      clear y2 v2
      refine (once_any B 30 _ HD5.out.rd (by omega) (by omega)).mono ?_
      rintro e w6 ⟨⟨b6, rfl⟩, hr6, ha6⟩
      have HD6 : Hid _ := hide (HD5.out.apart hr6 ha6)
      clear hr6 ha6 HD5
      cases b6
      · skip
        have y0 := HD6.out.c0
        have y1 := HD6.out.c1
        have y2 := HD6.out.c2
        obtain ⟨⟨t0, r0'⟩, ⟨t1, r1'⟩, ⟨t2, r2'⟩⟩ := And.intro (HD6.out.res.c 0 (by omega)) (And.intro (HD6.out.res.c 1 (by omega)) (HD6.out.res.c 2 (by omega)))
        have f0 := HD6.out.res.f 0
        have f1 := HD6.out.res.f 1
        have f2 := HD6.out.res.f 2
        have HE : Hid _ := hide (HD6.out.fin (E := ⟨E.out, E.sent, n4⟩) h8 (by simp only; omega) (by simp only; omega) (.slice a E.out.length cap) (.int .i64 E.sent) (.int .i64 n4))
        go_wp2
        exact bodyPost_ret (v := .agg #[.slice a E.out.length cap, .int .i64 E.sent, .int .i64 n4]) (by simp [results, Try.results14, go_sem, r0', r1', r2']) rfl HE.out
      · go_wp2_with fail
        refine (off_any B 0 5 _ HD6.out.rd (by omega) (by omega) (by omega)).mono ?_
        rintro e w7 ⟨⟨n7, i0, i1, rfl⟩, hr7, ha7⟩
        have HD7 : Hid _ := hide (HD6.out.apart hr7 ha7)
        clear hr7 ha7 HD6
        have v1 := HD7.out.fz 1
        have HD8 : Hid _ := hide (HD7.out.snt n7)
        have y0 := HD7.out.c0
        have y1 := HD7.out.c1
        have y2 := HD7.out.c2
        obtain ⟨⟨t0, r0'⟩, ⟨t1, r1'⟩, ⟨t2, r2'⟩⟩ := And.intro (HD7.out.res.c 0 (by omega)) (And.intro (HD7.out.res.c 1 (by omega)) (HD7.out.res.c 2 (by omega)))
        have f0 := HD7.out.res.f 0
        have f1 := HD7.out.res.f 1
        have f2 := HD7.out.res.f 2
        have HE : Hid _ := hide (HD8.out.fin (E := ⟨E.out, n7, n4⟩) h8 (by simp only; omega) (by simp only; omega) (.slice a E.out.length cap) (.int .i64 n7) (.int .i64 n4))
        go_wp2
        exact bodyPost_ret (v := .agg #[.slice a E.out.length cap, .int .i64 n7, .int .i64 n4]) (by simp [results, Try.results14, go_sem, r0', r1', r2']) rfl HE.out
end Go.Proofs.Ytjmkppajfebidaa
