/- The contract of the program's body.with: a piece more. -/
import Derived.Test.YtiilkkdbifhojaaDkM2
import Derived.Deep.RegionHeld3
namespace Go.Proofs.Ytiilkkdbifhojaa
open Go.ChangeShapes Go.WideShapes Go.ChangeAt Go.RowKit Go.Maps
set_option linter.unusedVariables false
set_option maxRecDepth 100000
theorem infoS : (Try.prog.info? 9).map (fun i => (i.zero, i.size, i.bytes)) = some (some (.string ByteArray.empty), 1, 16) := by kernel_rfl
theorem huS : Try.prog.underlying 75 = some (.slice 9) := by kernel_rfl
theorem news1 {x : World} {g : Nat} {v0 : Value} (c0 : x.cell? ⟨g, 0, none⟩ = some v0) (j : Nat) (u : Value) (hj : [v0][j]? = some u) : x.cell? ((⟨g, 0, none⟩ : Addr).add j) = some u := by
  rw [addr_add]
  match j, hj with
  | 0, hj => simp at hj; rw [← hj]; exact c0
def WithEnd (base : Nat) (b : Bd) (data : ByteArray) (w : World) (e : Ending) (w' : World) : Prop := ∃ b' : Bd, e = .returned b'.V ∧ b'.ps = b.ps ++ [data] ∧ w'.ownsRow base 9 1 b'.v b'.ps.length (strs b'.ps) ∧ w.grownBy w' b.v.ownBlock ∧ (b'.v.ownBlock = b.v.ownBlock ∨ ∃ g, b'.v.ownBlock = some g ∧ w.heap.size ≤ g)
abbrev Sw (B : Nat) (p0 p1 : Value) (x : World) : Prop := x.cell? ⟨B, 0, none⟩ = some p0 ∧ x.cell? ⟨B, 1, none⟩ = some p1
theorem grown_of_below {w w' w'' : World} {row : Option Nat} (h : Below w.heap.size w w') (k : w'.grownBy w'' row) (hr : ∀ j, row = some j → j < w.heap.size) : w.grownBy w'' row :=
  ⟨k.os.trans h.os, k.tape.trans h.tape, k.output.trans h.output, Nat.le_trans h.size k.size, fun i hi hne => (k.block i (Nat.lt_of_lt_of_le hi h.size) hne).trans (h.block i hi)⟩
theorem boxN {w x : World} {cur : Array Value} {T : TypeId} (h : Below (w.heap.size + 1) (w.alloc (.cells cur T)) x) (j : Nat) (v : Value) (hj : cur[j]? = some v) : x.cell? ⟨w.heap.size, j, none⟩ = some v :=
  (h.cell (by show w.heap.size < w.heap.size + 1; omega)).trans ((World.cell?_alloc_at _ _ _ _ rfl).trans hj)
theorem boxFree {w x : World} {cur : Array Value} {T : TypeId} (h : Below (w.heap.size + 1) (w.alloc (.cells cur T)) x) (j : Nat) : x.frozen? ⟨w.heap.size, j, none⟩ = false :=
  (h.frozen (by show w.heap.size < w.heap.size + 1; omega)).trans (frozen_of_block (cur := cur) (e := T) (by show (w.heap.push _)[w.heap.size]? = _; simp) j)
structure Blk (g : Nat) (cur : List Value) (x : World) : Prop where
  lt : g < x.heap.size
  c : ∀ j v, cur[j]? = some v → x.cell? ⟨g, j, none⟩ = some v
  f : ∀ j, x.frozen? ⟨g, j, none⟩ = false
theorem Blk.new {w : World} {cur : List Value} {T : TypeId} : Blk w.heap.size cur (w.alloc (.cells cur.toArray T)) :=
  ⟨by simp, fun j v hj => boxN (T := T) (Below.refl _ _) j v (by simpa using hj), fun j => boxFree (cur := cur.toArray) (T := T) (Below.refl _ _) j⟩
theorem Blk.below {g : Nat} {cur : List Value} {x y : World} (h : Blk g cur x) (b : Below x.heap.size x y) : Blk g cur y :=
  ⟨Nat.lt_of_lt_of_le h.lt b.size, fun j v hj => (b.cell h.lt).trans (h.c j v hj), fun j => (b.frozen h.lt).trans (h.f j)⟩
theorem Blk.alloc {g : Nat} {cur : List Value} {x : World} (h : Blk g cur x) (o : Obj) : Blk g cur (x.alloc o) := h.below (below_alloc (Below.refl _ _) _)
theorem Blk.set {g : Nat} {cur : List Value} {x : World} (h : Blk g cur x) (o : Nat) (v : Value) (ho : o < cur.length) : Blk g (cur.set o v) (x.setCell ⟨g, o, none⟩ v) :=
  ⟨by rw [size_setCell]; exact h.lt, fun j u hj => by
    by_cases e : o = j
    · subst e
      rw [List.getElem?_set_self (by simpa using ho)] at hj
      cases hj
      exact cell_set_same (h.c o cur[o] (List.getElem?_eq_getElem ho))
    · rw [List.getElem?_set_ne e] at hj
      rw [cell_set_other (.inr e)]
      exact h.c j u hj, fun j => by rw [frozen_set]; exact h.f j⟩
theorem Blk.other {g g' : Nat} {cur : List Value} {x : World} (h : Blk g cur x) (o : Nat) (v : Value) (hg : g' ≠ g) : Blk g cur (x.setCell ⟨g', o, none⟩ v) :=
  ⟨by rw [size_setCell]; exact h.lt, fun j u hj => by rw [cell_set_other (.inl hg)]; exact h.c j u hj, fun j => by rw [frozen_set]; exact h.f j⟩
theorem Sw.set2 {B : Nat} {p0 p1 u v : Value} {x : World} (h : Sw B p0 p1 x) : Sw B p0 p1 ((x.setCell ⟨B + 1, 0, none⟩ u).setCell ⟨B + 1, 1, none⟩ v) := by
  refine ⟨?_, ?_⟩
  · rw [cell_set_other (.inl (by omega)), cell_set_other (.inl (by omega))]; exact h.1
  · rw [cell_set_other (.inl (by omega)), cell_set_other (.inl (by omega))]; exact h.2
theorem grown_set_hi {w x : World} {row : Option Nat} (h : w.grownBy x row) {g o : Nat} (hg : w.heap.size ≤ g) (u : Value) : w.grownBy (x.setCell ⟨g, o, none⟩ u) row :=
  ⟨h.os, h.tape, h.output, by rw [size_setCell]; exact h.size, fun i hi hne => (Below.heap_setCell _ _ _ _ (fun e => by have : i = g := e; omega)).trans (h.block i hi hne)⟩
theorem wrap_nat {n : Nat} (h : n ≤ 1000000000000) : IntKind.i64.wrap (n : Int) = (n : Int) := by simp only [IntKind.wrap, IntKind.signed, IntKind.bits]; simp; omega
theorem Blk.grown {g : Nat} {cur : List Value} {x y : World} {row : Option Nat} (h : Blk g cur x) (k : x.grownBy y row) (hr : some g ≠ row) : Blk g cur y :=
  ⟨Nat.lt_of_lt_of_le h.lt k.size, fun j v hj => (World.cell?_of_block (k.block g h.lt hr)).trans (h.c j v hj), fun j => (World.frozen?_of_block (k.block g h.lt hr)).trans (h.f j)⟩
set_option maxHeartbeats 4000000 in
theorem with_any (base : Nat) (b : Bd) (data : ByteArray) (w : World) (hb : base ≤ w.heap.size) (hp : b.ps.length ≤ 1000000) (hz : (catL b.ps).size ≤ 1000000000) (hd : data.size ≤ 4194304) (h : w.ownsRow base 9 1 b.v b.ps.length (strs b.ps)) :
    Calls Try.prog 41 #[.agg #[.slice (adr b.a) b.ps.length b.c, .int .i64 ((catL b.ps).size : Int)], .string data] w fun e w' => WithEnd base b data w e w' := by
  obtain ⟨i0, hi0, hz0, hz1, hz2⟩ := info_parts infoS
  have hu := huS
  obtain ⟨W, hW⟩ : ∃ W, W = (w.alloc (.cells #[.slice (adr b.a) b.ps.length b.c, .int .i64 ((catL b.ps).size : Int)] 77)).alloc (.cells #[.slice none 0 0, .int .i64 0] 77) := ⟨_, rfl⟩
  have HW : Hid ((w.alloc (.cells #[.slice (adr b.a) b.ps.length b.c, .int .i64 ((catL b.ps).size : Int)] 77)).alloc (.cells #[.slice none 0 0, .int .i64 0] 77) = W) := hide hW.symm
  have sW : W.heap.size = w.heap.size + 2 := by rw [hW]; simp
  have HB : Hid (Below w.heap.size w W) := hide (by rw [hW]; exact below_alloc (below_alloc (Below.refl _ _) _) _)
  have KA : Hid (Blk w.heap.size [.slice (adr b.a) b.ps.length b.c, .int .i64 ((catL b.ps).size : Int)] W) := hide (by rw [hW]; exact Blk.new.alloc _)
  have KR : Hid (Blk (w.heap.size + 1) [.slice none 0 0, .int .i64 0] W) := hide (by rw [hW]; have := Blk.new (w := w.alloc (.cells #[.slice (adr b.a) b.ps.length b.c, .int .i64 ((catL b.ps).size : Int)] 77)) (cur := [.slice none 0 0, .int .i64 0]) (T := 77); simpa using this)
  have hlow : ∀ j, b.v.ownBlock = some j → j < w.heap.size := fun j hj => (h.lt j hj).2
  have HLOW : Hid _ := hide hlow
  have HO : Hid (W.ownsRow base 9 1 b.v b.ps.length (strs b.ps)) := hide (own_keep h HB.out)
  have x0 := KA.out.c 0 _ rfl
  have x1 := KA.out.c 1 _ rfl
  have SW : Hid (W.heap.size = w.heap.size + 2) := hide sW
  have HH : Hid _ := hide h
  clear hW h hlow sW
  generalize hcs : (catL b.ps).size = cs at *
  have HCS : Hid _ := hide hcs
  clear hcs
  go_enter Try.func41, Try.ntmps41
  go_wp2_with fail
  rw [HW.out]
  have XD : Hid (Sw w.heap.size (.slice (adr b.a) b.ps.length b.c) (.int .i64 (cs : Int)) W.drew) := hide ⟨x0, x1⟩
  have XA : Hid (Sw w.heap.size (.slice (adr b.a) b.ps.length b.c) (.int .i64 (cs : Int)) (W.alloc (.cells #[.string data] 9)).drew) := hide (by
    have k := KA.out.below (below_alloc (Below.refl _ _) (.cells #[.string data] 9)).drew
    exact ⟨k.c 0 _ rfl, k.c 1 _ rfl⟩)
  have KR2 : Hid (Blk (w.heap.size + 1) [.slice none 0 0, .int .i64 0] (W.alloc (.cells #[.string data] 9)).drew) := hide (KR.out.below (below_alloc (Below.refl _ _) _).drew)
  have KA2 : Hid (Blk w.heap.size [.slice (adr b.a) b.ps.length b.c, .int .i64 (cs : Int)] (W.alloc (.cells #[.string data] 9)).drew) := hide (KA.out.below (below_alloc (Below.refl _ _) _).drew)
  go_region_held3 (fun x => x.cell? ⟨w.heap.size, 0, none⟩ = some (.slice (adr b.a) b.ps.length b.c) ∧ x.cell? ⟨w.heap.size, 1, none⟩ = some (.int .i64 (cs : Int)))
    (first | with_reducible exact XD.out | with_reducible exact XA.out | with_reducible exact Sw.set2 (by assumption) | (with_reducible assumption))
    (first | (refine step_append_lies _ rfl (.tmp 6) (.tmp 8) 75 rfl base 9 i0 _ 1 16 hu hi0 hz0 hz1 hz2 rfl (by decide) b.v b.ps.length (strs b.ps) rfl (own_keep HO.out (below_alloc (Below.refl _ _) _).drew) ⟨W.heap.size, 0, none⟩ 1 1 [.string data] rfl rfl (news1 (World.cell?_alloc_at _ _ _ _ rfl)) (fun u hu => by simp only [List.mem_singleton] at hu; rw [hu]; rfl) (by decide) (by unfold maxLen; omega) (by omega) (by have := SW.out; simp; omega) (W.heap.size + 1) (by simp) ?_; intro g cap w' ho hg hlie hlt; have HG : Hid _ := hide hg; have HOO : Hid _ := hide ho; have HLI : Hid _ := hide hlie; have KA3 : Hid _ := hide (KA2.out.grown hg (fun q => by have := HLOW.out _ q.symm; omega)); have KR3 : Hid _ := hide (KR2.out.grown hg (fun q => by have := HLOW.out _ q.symm; omega)); have XS : Sw w.heap.size (.slice (adr b.a) b.ps.length b.c) (.int .i64 (cs : Int)) w' := ⟨KA3.out.c 0 _ rfl, KA3.out.c 1 _ rfl⟩; have r0 := KR3.out.c 0 _ rfl; have r1 := KR3.out.c 1 _ rfl; have f0 := KR3.out.f 0; have f1 := KR3.out.f 1; have hrl := KR3.out.lt; clear hg ho hlie))
  have hw : IntKind.i64.wrap ((cs : Int) + (data.size : Int)) = ((cs + data.size : Nat) : Int) := by
    rw [show (cs : Int) + (data.size : Int) = ((cs + data.size : Nat) : Int) by omega]
    exact wrap_nat (by omega)
  rw [hw]
  obtain ⟨Y, hY⟩ : ∃ Y, Y = ((w'.setCell ⟨w.heap.size + 1, 0, none⟩ (.slice (some ⟨g, 0, none⟩) (b.ps.length + 1) cap)).setCell ⟨w.heap.size + 1, 1, none⟩ (.int .i64 ((cs + data.size : Nat) : Int))) := ⟨_, rfl⟩
  rw [← hY]
  have k0 : Y.cell? ⟨w.heap.size + 1, 0, none⟩ = some (.slice (some ⟨g, 0, none⟩) (b.ps.length + 1) cap) := by rw [hY, cell_set_other (.inr (by omega))]; exact cell_set_same r0
  have k1 : Y.cell? ⟨w.heap.size + 1, 1, none⟩ = some (.int .i64 ((cs + data.size : Nat) : Int)) := by rw [hY]; exact cell_set_same (by rw [cell_set_other (.inr (by omega))]; exact r1)
  have hne : ∀ v, v = Value.slice (some ⟨g, 0, none⟩) (b.ps.length + 1) cap → v.ownBlock = none ∨ v.ownBlock ≠ some (w.heap.size + 1) := fun v e => .inr (fun q => by
    rw [e] at q
    simp only [Value.ownBlock, Option.some.injEq] at q
    rcases HLI.out with e1 | e1
    · have := HLOW.out _ e1; omega
    · have := SW.out; omega)
  have HE : Hid (WithEnd base b data w (.returned (.agg #[.slice (some ⟨g, 0, none⟩) (b.ps.length + 1) cap, .int .i64 ((cs + data.size : Nat) : Int)])) Y) := hide (by
    refine ⟨⟨some g, cap, b.ps ++ [data]⟩, ?_, rfl, ?_, ?_, ?_⟩
    · have e1 : (catL (b.ps ++ [data])).size = cs + data.size := by
        rw [catL_append, ByteArray.size_append, HCS.out]
        simp [catL]
      simp only [Bd.V, adr, Option.map_some, List.length_append, List.length_singleton, e1]
    · have e2 : (⟨some g, cap, b.ps ++ [data]⟩ : Bd).v = .slice (some ⟨g, 0, none⟩) (b.ps.length + 1) cap := by simp [Bd.v, adr]
      have e3 : strs (b.ps ++ [data]) = strs b.ps ++ [.string data] := by simp [strs]
      simp only [e2, e3, List.length_append, List.length_singleton]
      rw [hY]
      exact (HOO.out.kept (grown_set _ _ _ _) (hne _ rfl)).kept (grown_set _ _ _ _) (hne _ rfl)
    · rw [hY]
      exact grown_set_hi (grown_set_hi (grown_of_below (below_trans HB.out (below_alloc (Below.refl _ _) _).drew) HG.out HLOW.out) (by omega) _) (by omega) _
    · rcases HLI.out with e1 | e1
      · exact .inl (by rw [e1]; rfl)
      · exact .inr ⟨g, rfl, by have := SW.out; omega⟩)
  clear HG HOO HLI KA3 KR3 XS r0 r1 f0 f1 hY hne
  go_wp2
  exact bodyPost_ret (v := .agg #[.slice (some ⟨g, 0, none⟩) (b.ps.length + 1) cap, .int .i64 ((cs + data.size : Nat) : Int)]) (by simp [results, Try.results41, go_sem, k0, k1]) rfl HE.out
end Go.Proofs.Ytiilkkdbifhojaa
