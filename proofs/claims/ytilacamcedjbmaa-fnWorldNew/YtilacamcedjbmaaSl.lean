/- The reader's slots: a row of the call's own. -/
import Derived.Test.YtilacamcedjbmaaRd5
import Derived.Laws.OwnMore
import Derived.BigRegion
import Derived.Deep.RegionWith
import Derived.Deep.RegionLaw
namespace Go.Proofs.Ytilacamcedjbmaa
open Go.ChangeShapes Go.WideShapes Go.ChangeAt Go.RowKit
set_option linter.unusedVariables false
theorem step_append_own {P : Program} {ops : Array Oper} {o : Oper} {a : Act} {w : World} {K : Act → World → Prop} {Q : Exit → Act → World → Prop} {E : Prop}
    (hg : o.guard = none) (s x : Operand) (t : TypeId) (hop : o.op = Op.call { callee := Callee.builtin Builtin.append, args := #[s, x], argTypes := #[t, t] })
    (base : Nat) (e : TypeId) (i : TypeInfo) (z : Value) (size bytes : Nat) (h1 : P.underlying t = some (.slice e)) (h2 : P.info? e = some i) (h3 : i.zero = some z) (h4 : i.size = size) (h5 : i.bytes = bytes) (h6 : z.cells.size = size) (h7 : 0 < size)
    (v : Value) (n : Nat) (xs : List Value) (hs : a.eval s = v) (hown : w.ownsRow base e size v n xs)
    (ad : Addr) (m c : Nat) (news : List Value) (hx : a.eval x = .slice (some ad) m c) (hn : news.length = m * size) (hc : ∀ j u, news[j]? = some u → w.cell? (ad.add j) = some u) (h1c : ∀ u ∈ news, u.oneCell' = true)
    (b1 : n + m ≤ maxLen) (b2 : (n + m) * bytes ≤ 140737488355328) (hbase : base ≤ w.heap.size)
    (hK : ∀ v' w', w'.ownsRow base e size v' (n + m) (xs ++ news) → w.grownBy w' v.ownBlock → K (a.put o.dst v') w') :
    if Region.wanted o (yielded ops a.tmps) = true then Oper.wp P o a w K Q else E := by
  have hw : Region.wanted o (yielded ops a.tmps) = true := by simp [Region.wanted, hg]
  rw [if_pos hw]
  obtain ⟨v', w', hr, r1, r2, _, _⟩ := run_append_own_at (P := P) w base t o.type e i z size bytes h1 h2 h3 h4 h5 h6 h7 v n xs hown ad m c news hn hc h1c b1 b2 hbase
  unfold Oper.wp execOp
  simp only [hop, resolve, invoke, builtin, Sem.run_bind, Sem.run_pure, Result.andThen_ok, List.map_toArray, List.map_cons, List.map_nil, hs, hx, hr]
  exact hK v' w' r1 r2
theorem row_shape {w : World} {base : Nat} {e : TypeId} {size : Nat} {v : Value} {n : Nat} {xs : List Value} (h : w.ownsRow base e size v n xs) : ∃ a c, v = .slice a n c := by
  obtain ⟨_, ⟨h0, h1⟩ | ⟨g, cap, cur, h1, _⟩⟩ := h
  · exact ⟨none, 0, by rw [h0, h1]⟩
  · exact ⟨_, _, h1⟩
theorem own_base {x : World} {base : Nat} {e : TypeId} {sz : Nat} {v : Value} {n : Nat} {xs : List Value} (h : x.ownsRow base e sz v n xs) : ∀ g, v.ownBlock = some g → base ≤ g := by
  intro g hg
  obtain ⟨hl, ⟨h0, h1⟩ | ⟨g', cap, cur, h1, hb, _⟩⟩ := h
  · rw [h0] at hg; cases hg
  · rw [h1] at hg
    simp only [Value.ownBlock, Option.some.injEq] at hg
    omega
theorem own_keep {x y : World} {base : Nat} {e : TypeId} {sz : Nat} {v : Value} {n : Nat} {xs : List Value} (h : x.ownsRow base e sz v n xs) (b : Below x.heap.size x y) : y.ownsRow base e sz v n xs := by
  obtain ⟨hl, ⟨h0, h1⟩ | ⟨g, cap, cur, h1, hb, hg, r⟩⟩ := h
  · exact ⟨hl, .inl ⟨h0, h1⟩⟩
  · exact ⟨hl, .inr ⟨g, cap, cur, h1, hb, (b.block g (Array.getElem?_eq_some_iff.1 hg).1).trans hg, r⟩⟩
theorem own_apart {B : Nat} {w w1 : World} {base : Nat} {e : TypeId} {size : Nat} {v : Value} {n : Nat} {xs : List Value} (h : w.ownsRow base e size v n xs) (k : Apart B w w1) (hB : B < base) : w1.ownsRow base e size v n xs := by
  refine ⟨h.1, ?_⟩
  rcases h.2 with hn | ⟨g, cap, cur, hv, hb, hg, rest⟩
  · exact .inl hn
  · have hlt : g < w.heap.size := by
      rcases Nat.lt_or_ge g w.heap.size with h | h
      · exact h
      · rw [Array.getElem?_eq_none h] at hg; cases hg
    exact .inr ⟨g, cap, cur, hv, hb, (k.block g hlt (by omega)).trans hg, rest⟩
theorem apart_grown {B : Nat} {a w w' : World} {row : Option Nat} (h : Apart B a w) (hg : w.grownBy w' row) (hr : ∀ k, row = some k → a.heap.size ≤ k) : Apart B a w' :=
  ⟨hg.os.trans h.os, hg.tape.trans h.tape, hg.output.trans h.output, Nat.le_trans h.size hg.size, fun k hk hB => (hg.block k (by have := h.size; omega) (fun e => by have := hr k e.symm; omega)).trans (h.block k hk hB)⟩
theorem rd_grown {B : Nat} {w w' : World} {row : Option Nat} (h : Rd B w) (hg : w.grownBy w' row) (hr : ∀ k, row = some k → B < k) : Rd B w' :=
  h.below ⟨hg.os, hg.tape, hg.output, hg.size, fun k hk => hg.block k (by have := h.lt; omega) (fun e => by have := hr k e.symm; omega)⟩
theorem apart_new {B : Nat} {a w : World} (h : Apart B a w) {g o : Nat} (hg : a.heap.size ≤ g) (v : Value) : Apart B a (w.setCell ⟨g, o, none⟩ v) :=
  ⟨h.os, h.tape, h.output, by rw [size_setCell]; exact h.size, fun k hk hB => (Below.heap_setCell _ _ _ _ (show k ≠ g by omega)).trans (h.block k hk hB)⟩
theorem rd_new {B : Nat} {w : World} (h : Rd B w) {g o : Nat} (hg : B < g) (v : Value) : Rd B (w.setCell ⟨g, o, none⟩ v) :=
  h.below ((Below.refl _ _).setCell (by exact hg) v)
theorem info39 : (Try.prog.info? 37).map (fun i => (i.zero, i.size, i.bytes)) = some (some (.agg #[.int .i64 0, .int .i64 0, .int .i64 0]), 3, 24) := by kernel_rfl
theorem hu24 : Try.prog.underlying 24 = some (.slice 37) := by kernel_rfl
theorem three_one (a b c : Int) : ∀ u ∈ [Value.int .i64 a, Value.int .i64 b, Value.int .i64 c], u.oneCell' = true := fun u hu => by
  simp only [List.mem_cons, List.not_mem_nil, or_false] at hu
  rcases hu with rfl | rfl | rfl <;> rfl
theorem three_at (w : World) (x y z : Value) (t : TypeId) : ∀ j u, [x, y, z][j]? = some u → (w.alloc (.cells #[x, y, z] t)).cell? ((⟨w.heap.size, 0, none⟩ : Addr).add j) = some u := by
  intro j u hj
  rw [addr_add]
  rw [Nat.zero_add]
  match j, hj with
  | 0, hj => simp only [List.getElem?_cons_zero, Option.some.injEq] at hj; subst hj; exact World.cell?_alloc_at _ _ _ _ rfl
  | 1, hj => simp only [List.getElem?_cons_succ, List.getElem?_cons_zero, Option.some.injEq] at hj; subst hj; exact World.cell?_alloc_at _ _ _ _ rfl
  | 2, hj => simp only [List.getElem?_cons_succ, List.getElem?_cons_zero, Option.some.injEq] at hj; subst hj; exact World.cell?_alloc_at _ _ _ _ rfl
  | j + 3, hj => simp at hj
def setUp (l : List Slt) (i : Nat) (u : Int) : List Slt := l.modify i fun s => ⟨s.id, u, s.has⟩
theorem setUp_len (l : List Slt) (i : Nat) (u : Int) : (setUp l i u).length = l.length := by simp [setUp]
theorem setUp_get (l : List Slt) (i : Nat) (u : Int) (k : Nat) (hk : k < (setUp l i u).length) (hk' : k < l.length) : (setUp l i u)[k] = if i = k then ⟨l[k].id, u, l[k].has⟩ else l[k] := by
  simp [setUp, List.getElem_modify]
theorem OwnRow.setUp {w : World} {g : Nat} {a : Option Addr} {cap : Nat} {l : List Slt} {i : Nat} {u : Int} (h : OwnRow 3 sltCells w g a cap l) (hi : i < l.length) : OwnRow 3 sltCells (w.setCell ⟨g, i * 3 + 1, none⟩ (.int .i64 u)) g a cap (setUp l i u) := by
  refine OwnRow.set sltLen h hi (by decide) (setUp_len _ _ _) (fun k hk hk' r' v hv => ?_)
  rw [setUp_get l i u k hk hk'] at hv
  by_cases e : i = k
  · subst e
    rw [if_pos rfl] at hv
    match r', hv with
    | 0, hv => exact .inr ⟨by omega, hv⟩
    | 1, hv => simp [sltCells] at hv; exact .inl ⟨rfl, rfl, hv.symm⟩
    | 2, hv => exact .inr ⟨by omega, hv⟩
    | r + 3, hv => simp [sltCells] at hv
  · rw [if_neg e] at hv
    exact .inr ⟨by omega, hv⟩
theorem slot_cell {x : World} {base g vc : Nat} {l : List Slt} (ho : x.ownsRow base 37 3 (.slice (some ⟨g, 0, none⟩) l.length vc) l.length (l.flatMap sltCells)) (m : Nat) (hm : m < l.length) : x.cell? ⟨g, m * 3, none⟩ = some (.int .i64 l[m].id) ∧ x.cell? ⟨g, m * 3 + 1, none⟩ = some (.int .i64 l[m].up) ∧ x.cell? ⟨g, m * 3 + 2, none⟩ = some (.int .i64 l[m].has) := by
  obtain ⟨g', a, cap, _, e, hown⟩ := own_of_row sltLen ho
  simp only [Value.slice.injEq, true_and] at e
  obtain ⟨rfl, _⟩ := e
  obtain ⟨b, off, e2, _, c0, c1, c2⟩ := slt_row hown.rows m hm
  simp only [Option.some.injEq, Addr.mk.injEq, and_true] at e2
  obtain ⟨rfl, rfl⟩ := e2
  simp only [Nat.zero_add] at c0 c1 c2
  exact ⟨c0, c1, c2⟩
theorem own_some {x : World} {base vc : Nat} {va : Option Addr} {l : List Slt} (ho : x.ownsRow base 37 3 (.slice va l.length vc) l.length (l.flatMap sltCells)) (h : 0 < l.length) : ∃ g, va = some ⟨g, 0, none⟩ ∧ base ≤ g := by
  obtain ⟨g, a, cap, hg, e, hown⟩ := own_of_row sltLen ho
  simp only [Value.slice.injEq, true_and] at e
  obtain ⟨rfl, _⟩ := e
  exact ⟨g, (hown.own h).1, hg⟩
def more (l : List Slt) (i z : Int) : List Slt := l ++ [⟨(l.length : Int) + 1, i, z⟩]
theorem more_len (l : List Slt) (i z : Int) : (more l i z).length = l.length + 1 := by simp [more]
theorem own_more {x : World} {base : Nat} {v : Value} {l : List Slt} {i z : Int} (ho : x.ownsRow base 37 3 v (l.length + 1) (l.flatMap sltCells ++ [.int .i64 ((l.length : Int) + 1), .int .i64 i, .int .i64 z])) : x.ownsRow base 37 3 v (more l i z).length ((more l i z).flatMap sltCells) := by
  rw [more_len]
  have e : (more l i z).flatMap sltCells = l.flatMap sltCells ++ [.int .i64 ((l.length : Int) + 1), .int .i64 i, .int .i64 z] := by simp [more, sltCells]
  rw [e]; exact ho
/-- a drawn list of slots, a row of its own -/
def SlotsEnd (B : Nat) (w : World) (e : Ending) (w' : World) : Prop := (∃ (l : List Slt) (g cap : Nat), 1 ≤ l.length ∧ l.length ≤ 7 ∧ (∀ x ∈ l, SltI x) ∧ w.heap.size ≤ g ∧ e = .returned (.slice (some ⟨g, 0, none⟩) l.length cap) ∧ OwnRow 3 sltCells w' g (some ⟨g, 0, none⟩) cap l) ∧ Rd B w' ∧ Apart B w w'
theorem slots_end {B : Nat} {w w' : World} {v : Value} {l : List Slt} (h1 : 1 ≤ l.length) (h7 : l.length ≤ 7) (hp : ∀ x ∈ l, SltI x) (ho : w'.ownsRow w.heap.size 37 3 v l.length (l.flatMap sltCells)) (hr : Rd B w') (ha : Apart B w w') : SlotsEnd B w (.returned v) w' := by
  obtain ⟨g, a, cap, hg, rfl, hown⟩ := own_of_row sltLen ho
  obtain ⟨rfl, _⟩ := hown.own (by omega)
  exact ⟨⟨l, g, cap, h1, h7, hp, hg, rfl, hown⟩, hr, ha⟩
set_option maxHeartbeats 4000000 in
set_option maxRecDepth 100000 in
theorem slots_any (B : Nat) (w : World) (h : Rd B w) : Calls Try.prog 12 #[.pointer (some ⟨B, 0, none⟩)] w fun e w' => SlotsEnd B w e w' := by
  have H : Hid _ := hide h
  have hlt := h.lt
  clear h
  obtain ⟨i0, hinfo, hz0, hz1, hz2⟩ := info_parts info39
  have hu := hu24
  go_enter Try.func12, Try.ntmps12
  go_wp2_with fail
  refine (below_any B 100 _ H.out (by omega)).mono ?_
  rintro e w1 ⟨⟨r, r0, r2, r1, rfl⟩, HR1, HA1⟩
  have hr1 : I64 r := by unfold I64; omega
  have HI1 : Hid _ := hide hr1
  have HO1 : Hid ((w1.alloc (.cells #[.int .i64 1, .int .i64 0, .int .i64 r] 37)).ownsRow w.heap.size 37 3 (.slice (some ⟨w1.heap.size, 0, none⟩) 1 1) 1 (([⟨1, 0, r⟩] : List Slt).flatMap sltCells)) := hide (World.ownsRow_lit w1 #[.int .i64 1, .int .i64 0, .int .i64 r] 1 HA1.size (by unfold maxLen; omega) rfl)
  have HR1' : Hid (Rd B (w1.alloc (.cells #[.int .i64 1, .int .i64 0, .int .i64 r] 37))) := hide (HR1.kept ((Kept.refl _).alloc _ _))
  have HA1' : Hid (Apart B w (w1.alloc (.cells #[.int .i64 1, .int .i64 0, .int .i64 r] 37))) := hide (HA1.trans ((Kept.refl _).alloc _ _).to_apart)
  clear hr1 HR1 HA1 r2 r1 r0 H
  go_wp2_with fail
  refine (below_any B 6 _ HR1'.out (by omega)).mono ?_
  rintro e w2 ⟨⟨q, q0, q2, q1, rfl⟩, HR2, HA2⟩
  have q3 : q < 6 := by omega
  have HR2' : Hid _ := hide HR2
  have HA2' : Hid _ := hide (HA1'.out.trans HA2)
  have HO2 : Hid _ := hide (own_apart HO1.out HA2 hlt)
  clear HR2 HA2 q2 q1 HR1' HA1' HO1
  go_wp2
  go_loopw [3, 4] (fun v i wr => ∃ (k : Nat) (l : List Slt), i = .int .i64 (k : Int) ∧ k + l.length ≤ 6 ∧ 1 ≤ l.length ∧ Hid (∀ x ∈ l, SltI x) ∧ Hid (wr.ownsRow w.heap.size 37 3 v l.length (l.flatMap sltCells)) ∧ Hid (Rd B wr) ∧ Hid (Apart B w wr)) (fun v i wr => (intOf i).toNat)
  case atStart => exact ⟨q.toNat, [⟨1, 0, r⟩], by rw [Int.toNat_of_nonneg q0], by simp; omega, by simp, hide (fun x hx => by simp at hx; subst hx; exact ⟨by show I64 1; unfold I64; omega, by show I64 0; unfold I64; omega, HI1.out⟩), HO2, HR2', HA2'⟩
  case round =>
    clear HO2 HR2' HA2'
    obtain ⟨k, l, rfl, hkl, hl1, HP, HO, HR, HA⟩ := hrel
    obtain ⟨va, vc, rfl⟩ := row_shape HO.out
    by_cases hk : 0 < k
    · have hk' : (0 : Int) < (k : Int) := by omega
      have hl1' : (1 : Int) ≤ (l.length : Int) := by omega
      have hl7' : (l.length : Int) ≤ 6 := by omega
      have hws := HA.out.size
      obtain ⟨g0, rfl, hg0⟩ := own_some HO.out (by omega)
      have e1 : IntKind.i64.wrap ((l.length : Int) + 1) = (l.length : Int) + 1 := by simp only [IntKind.wrap, IntKind.signed, IntKind.bits]; simp; omega
      have HT1 : Hid (0 = 0) := hide rfl
      have HRd : Hid _ := hide (HR.out.drewN 1)
      have HOd : Hid (wr.drew.ownsRow w.heap.size 37 3 (.slice (some ⟨g0, 0, none⟩) l.length vc) l.length (l.flatMap sltCells)) := hide (own_keep HO.out ((Below.refl _ _).drew))
      have HAd : Hid (Apart B w wr.drew) := hide (HA.out.trans (Kept.refl _).drew.to_apart)
      have HRd' : Hid (Rd B wr.drew) := hide HRd.out
      have hl9 : (l.length : Int) ≤ 1000000000 := by omega
      clear HO HR HA HRd
      go_wp2_with fail
      go_region_law (first
        | (refine step_append_own rfl (.tmp 18) (.tmp 31) 24 rfl w.heap.size 37 i0 _ 3 24 hu hinfo hz0 hz1 hz2 rfl (by decide) (.slice (some ⟨g0, 0, none⟩) l.length vc) l.length (l.flatMap sltCells) (by simp [Act.eval]; done) (own_keep HO4.out (below_alloc (Below.refl _ _) _)) ⟨w4.heap.size, 0, none⟩ 1 1 [.int .i64 ((l.length : Int) + 1), .int .i64 l[m].id, .int .i64 z] (by simp [Act.eval]; done) rfl (three_at _ _ _ _ _) (three_one _ _ _) (by unfold maxLen; omega) (by omega) (by simp; omega) ?_; intro v' w' ho' hg'; have HO' : Hid _ := hide (own_more ho'); have HR' : Hid (Rd B w') := hide (rd_grown (HR4.out.kept ((Kept.refl _).alloc _ _)) hg' (fun k hk => by have := own_base HO4.out k hk; omega)); have HA' : Hid (Apart B w w') := hide (apart_grown (HA4.out.trans ((Kept.refl _).alloc _ _).to_apart) hg' (fun k hk => own_base HO4.out k hk)); clear ho' hg')
        | (go_simp; go_wp2_with (first
          | (go_at_call 22; have HT2 := HT1; clear HT1; refine (below_any B (l.length : Int) _ HRd'.out hl9).mono ?_; clear HT2; rintro e w3 ⟨⟨y, y0, y2, y1, rfl⟩, hr3, ha3⟩; obtain ⟨m, rfl⟩ := Int.eq_ofNat_of_zero_le y0; have m3 : m < l.length := (by omega); have m3' : (m : Int) < (l.length : Int) := (by omega); have HO3 : Hid _ := hide (own_apart HOd.out ha3 hlt); have d3 := (slot_cell HO3.out m m3).1; have HR3 : Hid _ := hide hr3; have HA3 : Hid (Apart B w w3) := hide (HAd.out.trans ha3); have hs3 := HA3.out.size; clear hr3 ha3 y2 y1)
          | (go_at_call 22; refine (below_any B 40 _ HR3.out (by omega)).mono ?_; rintro e w4 ⟨⟨z, z0, z2, z1, rfl⟩, hr4, ha4⟩; have HO4 : Hid _ := hide (own_apart HO3.out ha4 hlt); have d4 := (slot_cell HO4.out m m3).1; have HR4 : Hid _ := hide hr4; have HA4 : Hid _ := hide (HA3.out.trans ha4); have hs4 := HA4.out.size; have HZ : Hid (I64 z) := hide (by unfold I64; omega); clear hr4 ha4 z2))))
      all_goals
        have HP' : Hid (∀ x ∈ more l l[m].id z, SltI x) := hide (fun x hx => by
          unfold more at hx
          rcases List.mem_append.1 hx with h | h
          · exact HP.out x h
          · simp only [List.mem_cons, List.not_mem_nil, or_false] at h
            subst h
            exact ⟨by show I64 ((l.length : Int) + 1); unfold I64; omega, (HP.out _ (List.getElem_mem m3)).1, HZ.out⟩)
        go_wp2
        exact ⟨⟨k - 1, more l l[m].id z, by go_num, by rw [more_len]; omega, by rw [more_len]; omega, HP', HO', HR', HA'⟩, by simp [intOf]; omega⟩
    · have hk' : ¬ (0 : Int) < (k : Int) := by omega
      have hl1' : (1 : Int) ≤ (l.length : Int) := by omega
      have hl7' : (l.length : Int) ≤ 6 := by omega
      obtain ⟨g0, rfl, hg0⟩ := own_some HO.out (by omega)
      go_wp2_with fail
      refine (below_any B 40 _ HR.out (by omega)).mono ?_
      rintro e w3 ⟨⟨c, c0, c2, c1, rfl⟩, hr3, ha3⟩
      have HO3 : Hid _ := hide (own_apart HO.out ha3 hlt)
      have HR3 : Hid _ := hide hr3
      have HA3 : Hid _ := hide (HA.out.trans ha3)
      clear hr3 ha3 c2 HO HR HA
      by_cases q39 : (c == 39) = true
      · go_wp2_with fail
        refine (below_any B (l.length : Int) _ HR3.out (by omega)).mono ?_
        rintro e w4 ⟨⟨y, y0, y2, y1, rfl⟩, hr4, ha4⟩
        obtain ⟨m, rfl⟩ := Int.eq_ofNat_of_zero_le y0
        have m3 : m < l.length := by omega
        have m3' : (m : Int) < (l.length : Int) := by omega
        have HO4 : Hid _ := hide (own_apart HO3.out ha4 hlt)
        have HR4 : Hid _ := hide hr4
        have HA4 : Hid _ := hide (HA3.out.trans ha4)
        clear hr4 ha4 y2 y1 HO3 HR3 HA3
        go_wp2_with fail
        refine (off_any B 0 3 _ HR4.out (by omega) (by omega) (by omega)).mono ?_
        rintro e w5 ⟨⟨u, u0, u1, rfl⟩, hr5, ha5⟩
        have HO5 := own_apart HO4.out ha5 hlt
        obtain ⟨g', a', cap', hg', ev, hown⟩ := own_of_row sltLen HO5
        simp only [Value.slice.injEq, true_and] at ev
        obtain ⟨rfl, rfl⟩ := ev
        obtain ⟨ea, hfz⟩ := hown.own (by omega)
        simp only [Option.some.injEq, Addr.mk.injEq, and_true] at ea
        subst ea
        have d1 := (slot_cell HO5 m m3).2.1
        have z1 := hfz (m * 3 + 1)
        have HF : Hid (SlotsEnd B w (.returned (.slice (some ⟨g0, 0, none⟩) l.length vc)) (w5.setCell ⟨g0, m * 3 + 1, none⟩ (.int .i64 u))) := hide (by
          have ho := hown.setUp (u := u) m3
          refine ⟨⟨setUp l m u, g0, vc, by rw [setUp_len]; omega, by rw [setUp_len]; omega, fun x hx => ?_, hg', by rw [setUp_len], ho⟩, rd_new hr5 (by omega) _, apart_new (HA4.out.trans ha5) hg' _⟩
          obtain ⟨k, hk, rfl⟩ := List.getElem_of_mem hx
          have hk2 : k < l.length := by rw [setUp_len] at hk; exact hk
          rw [setUp_get l m u k hk hk2]
          have hx2 := HP.out l[k] (List.getElem_mem hk2)
          split
          · exact ⟨hx2.1, ⟨u0, u1⟩, hx2.2.2⟩
          · exact hx2)
        clear HO5 hown hfz hr5 ha5 HO4 HR4 HA4
        go_wp2
        go_ret
        exact HF.out
      · have q39' : (c == 39) = false := by simpa using q39
        clear q39
        by_cases q38 : (c == 38) = true
        · go_wp2_with fail
          refine (below_any B (l.length : Int) _ HR3.out (by omega)).mono ?_
          rintro e w4 ⟨⟨y, y0, y2, y1, rfl⟩, hr4, ha4⟩
          obtain ⟨m, rfl⟩ := Int.eq_ofNat_of_zero_le y0
          have m3 : m < l.length := by omega
          have m3' : (m : Int) < (l.length : Int) := by omega
          have HO4 : Hid _ := hide (own_apart HO3.out ha4 hlt)
          have HR4 : Hid _ := hide hr4
          have HA4 : Hid _ := hide (HA3.out.trans ha4)
          clear hr4 ha4 y2 y1 HO3 HR3 HA3
          go_wp2_with fail
          refine (off_any B 0 1000000000000 _ HR4.out (by omega) (by omega) (by omega)).mono ?_
          rintro e w5 ⟨⟨u, u0, u1, rfl⟩, hr5, ha5⟩
          have HO5 := own_apart HO4.out ha5 hlt
          obtain ⟨g', a', cap', hg', ev, hown⟩ := own_of_row sltLen HO5
          simp only [Value.slice.injEq, true_and] at ev
          obtain ⟨rfl, rfl⟩ := ev
          obtain ⟨ea, hfz⟩ := hown.own (by omega)
          simp only [Option.some.injEq, Addr.mk.injEq, and_true] at ea
          subst ea
          have d1 := (slot_cell HO5 m m3).2.2
          have z1 := hfz (m * 3 + 2)
          have HF : Hid (SlotsEnd B w (.returned (.slice (some ⟨g0, 0, none⟩) l.length vc)) (w5.setCell ⟨g0, m * 3 + 2, none⟩ (.int .i64 u))) := hide (by
            have ho := hown.addHas (d := u - l[m].has) m3 (u := u) (by omega)
            refine ⟨⟨addHas l m (u - l[m].has), g0, vc, by rw [addHas_len]; omega, by rw [addHas_len]; omega, fun x hx => ?_, hg', by rw [addHas_len], ho⟩, rd_new hr5 (by omega) _, apart_new (HA4.out.trans ha5) hg' _⟩
            obtain ⟨k, hk, rfl⟩ := List.getElem_of_mem hx
            have hk2 : k < l.length := by rw [addHas_len] at hk; exact hk
            rw [addHas_get l m _ k hk hk2]
            have hx2 := HP.out l[k] (List.getElem_mem hk2)
            split
            · rename_i ek
              subst ek
              exact ⟨hx2.1, hx2.2.1, by show I64 (l[m].has + (u - l[m].has)); unfold I64; omega⟩
            · exact hx2)
          clear HO5 hown hfz hr5 ha5 HO4 HR4 HA4
          go_wp2
          go_ret
          exact HF.out
        · have q38' : (c == 38) = false := by simpa using q38
          clear q38
          have HF : Hid _ := hide (slots_end hl1 (by omega) HP.out HO3.out HR3.out HA3.out)
          clear HO3 HR3 HA3
          go_wp2
          go_ret
          exact HF.out
end Go.Proofs.Ytilacamcedjbmaa
