/- The contracts of the program's do and finds of each op. -/
import Derived.Test.YtiilkkdbifhojaaDkI6
namespace Go.Proofs.Ytiilkkdbifhojaa
open Go.ChangeShapes Go.WideShapes Go.ChangeAt Go.RowKit Go.Maps
set_option linter.unusedVariables false
set_option maxRecDepth 100000
def DoneEnd (base m N : Nat) (l : List Fl) (w : World) (e : Ending) (w' : World) : Prop := e = .returned (.tuple #[]) ∧ Below base w w' ∧ ∃ β, Shelf base m l β N w'
theorem Shelf.base_le {base m N : Nat} {l : List Fl} {β : ByteArray → Bd} {w : World} (h : Shelf base m l β N w) : base ≤ w.heap.size := Nat.le_of_lt (Nat.lt_of_le_of_lt h.lo h.lt)
theorem kept_any {w w' : World} {row : Option Nat} {base k sz : Nat} {e : TypeId} {v : Value} {xs : List Value} (h : w.ownsRow base e sz v k xs) (hg : w.grownBy w' row) (ha : v.ownBlock = none ∨ v.ownBlock ≠ row) : w'.ownsRow base e sz v k xs := h.kept hg ha
/-- a piece more for the body of a name -/
theorem Shelf.more {base m N : Nat} {l : List Fl} {β : ByteArray → Bd} {x x2 : World} (h : Shelf base m l β N x) {nm da : ByteArray} {b' : Bd} (hn : nm.size ≤ 4194304) (hN : N ≤ 100000) (hw : b'.ps = (bodyOf l β nm).ps ++ [da]) (hro : x2.ownsRow base 9 1 b'.v b'.ps.length (strs b'.ps)) (hg : x.grownBy x2 (bodyOf l β nm).v.ownBlock) (hli : b'.v.ownBlock = (bodyOf l β nm).v.ownBlock ∨ ∃ g, b'.v.ownBlock = some g ∧ x.heap.size ≤ g) :
    ∃ y, (Instr.mapUpdate 48 (.map (some m)) (.string nm) b'.V).run Try.prog x2 = .ok () y ∧ Shelf base m (putL l nm (appD l nm da)) (upd β nm b') (N + 1) y ∧ x2.grownBy y (some m) := by
  have hb := h.body nm
  refine h.put2 b' hn (by omega) (fun n D ho => ho.kept hg (fun q => own_not_map hb.row ho q.symm)) (fun f hf hne => kept_any (h.rows f hf) hg (hb.apt f hf hne).2) hro (by rw [hw]; exact hb.app da) (fun f hf hne => ?_) (by rw [hw]; simp; exact hb.pcs)
  rcases hli with q | ⟨g, q, hge⟩
  · have h1 := hb.apt f hf hne
    unfold Apt at h1 ⊢
    rw [q]
    exact h1
  · exact apt_hi (h.rows f hf) (fun g' hg' => by rw [q] at hg'; cases hg'; exact hge)
set_option maxHeartbeats 4000000 in
theorem appDo_any (base m N : Nat) (l : List Fl) (β : ByteArray → Bd) (nm da : ByteArray) (w : World) (hn : nm.size ≤ 4194304) (hd : da.size ≤ 4194304) (hN : N ≤ 100000) (hz : datL l ≤ 1000000000) (h : Shelf base m l β N w) :
    Calls Try.prog 107 #[.agg #[.string nm, .string da], .map (some m)] w fun e w' => DoneEnd base m (N + 1) (putL l nm (appD l nm da)) w e w' := by
  have HH : Hid _ := hide h
  have HSD : Hid (Shelf base m l β N (w.alloc (.cells #[.string nm, .string da] 96)).drew) := hide (h.below (below_alloc (Below.refl _ _) _).drew)
  have hlk : (Instr.lookup 48 (.map (some m)) (.string nm) false).run Try.prog (w.alloc (.cells #[.string nm, .string da] 96)).drew = .ok (bodyOf l β nm).V (w.alloc (.cells #[.string nm, .string da] 96)).drew := by
    have := HSD.out.look hn false 0
    simp only [Bool.false_eq_true, if_false] at this
    have e : (bodyOf l β nm).V = if hasN l nm then (β nm).V else b0.V := by unfold bodyOf; split <;> rfl
    rw [e]
    exact this
  have XD : Hid (Sw w.heap.size (.string nm) (.string da) (w.alloc (.cells #[.string nm, .string da] 96)).drew) := hide ⟨World.cell?_alloc_at _ _ _ _ rfl, World.cell?_alloc_at _ _ _ _ rfl⟩
  have hbf := HSD.out.body nm
  have HWT : Hid (Calls Try.prog 41 #[(bodyOf l β nm).V, .string da] (w.alloc (.cells #[.string nm, .string da] 96)).drew fun e w' => WithEnd base (bodyOf l β nm) da (w.alloc (.cells #[.string nm, .string da] 96)).drew e w') := hide (with_any base (bodyOf l β nm) da _ HSD.out.base_le (Nat.le_trans hbf.pcs (by omega)) (Nat.le_trans hbf.sz hz) hd hbf.row)
  have HLT : Hid (m < w.heap.size) := hide h.lt
  have HLO : Hid (∀ g, (bodyOf l β nm).v.ownBlock = some g → g < w.heap.size ∧ base ≤ g) := hide (fun g hg => by have := (h.body nm).row.lt g hg; exact ⟨this.2, this.1⟩)
  have HML : Hid (base ≤ m) := hide h.lo
  clear h hbf
  have HBD : Hid (Below base w (w.alloc (.cells #[.string nm, .string da] 96)).drew) := hide ((below_alloc (Below.refl _ _) _).drew.mono HH.out.base_le)
  have HBL : Hid _ := hide HH.out.base_le
  generalize (bodyOf l β nm).V = bV at *
  go_enter Try.func107, Try.ntmps107
  go_wp2_with fail
  go_region_held3 (fun x => x.cell? ⟨w.heap.size, 0, none⟩ = some (.string nm) ∧ x.cell? ⟨w.heap.size, 1, none⟩ = some (.string da))
    (first | with_reducible exact XD.out | (with_reducible assumption))
    (first | (go_at_call 41; refine HWT.out.mono ?_; rintro e w2 ⟨b', rfl, hps, hro, hg, hli⟩; have XS : Sw w.heap.size (.string nm) (.string da) w2 := XD.out.grown hg (fun q => by have := (HLO.out _ q).1; omega); obtain ⟨y, hrun, hsh, hgy⟩ := HSD.out.more hn (by omega) hps hro hg hli; have XY : Sw w.heap.size (.string nm) (.string da) y := XS.grown hgy (by have := HLT.out; simp; omega); have HSH : Hid _ := hide hsh; have HBY : Hid (Below base w y) := hide ((HBD.out.grown hg (Nat.le_trans HBL.out HBD.out.size) (fun j hj => (HLO.out j hj).2)).grown hgy (Nat.le_trans (Nat.le_trans HBL.out HBD.out.size) hg.size) (fun j hj => by cases hj; exact HML.out)); clear hsh hgy hg hli hro hps))
  have HE : Hid (DoneEnd base m (N + 1) (putL l nm (appD l nm da)) w (.returned (.tuple #[])) y) := hide ⟨rfl, HBY.out, _, HSH.out⟩
  clear hrun XS XY
  exact bodyPost_end (v := .tuple #[]) (by simp [results, Try.results107, go_sem]) rfl HE.out
set_option maxHeartbeats 2000000 in
theorem remDo_any (base m N : Nat) (l : List Fl) (β : ByteArray → Bd) (nm : ByteArray) (w : World) (hn : nm.size ≤ 4194304) (h : Shelf base m l β N w) :
    Calls Try.prog 118 #[.agg #[.string nm], .map (some m)] w fun e w' => DoneEnd base m N (cutL l nm) w e w' := by
  have HBL : Hid _ := hide h.base_le
  have HML : Hid _ := hide h.lo
  obtain ⟨y, hrun, hsh, hgy, _⟩ := (h.below (below_alloc (Below.refl _ _) (.cells #[.string nm] 100))).drop hn 0
  have HE : Hid (DoneEnd base m N (cutL l nm) w (.returned (.tuple #[])) y) := hide ⟨rfl, ((below_alloc (Below.refl _ _) (.cells #[.string nm] 100)).mono HBL.out).grown hgy (by have := HBL.out; simp; omega) (fun j hj => by cases hj; exact HML.out), β, hsh⟩
  clear hsh hgy h
  go_enter Try.func118, Try.ntmps118
  go_wp2
  exact bodyPost_end (v := .tuple #[]) (by simp [results, Try.results118, go_sem]) rfl HE.out
set_option maxHeartbeats 2000000 in
theorem renDo_any (base m N : Nat) (l : List Fl) (β : ByteArray → Bd) (nm tn : ByteArray) (w : World) (hn : nm.size ≤ 4194304) (ht : tn.size ≤ 4194304) (hN : N ≤ 100000) (hh : hasN l nm = true) (h : Shelf base m l β N w) :
    Calls Try.prog 112 #[.agg #[.string nm, .string tn], .map (some m)] w fun e w' => DoneEnd base m (N + 1) (putL (cutL l nm) tn (dataL l nm)) w e w' := by
  have HBL : Hid _ := hide h.base_le
  have HML : Hid _ := hide h.lo
  have HLT : Hid _ := hide h.lt
  obtain ⟨b, hb⟩ : ∃ b, b = bodyOf l β nm := ⟨_, rfl⟩
  have hbf := h.body nm
  rw [← hb] at hbf
  obtain ⟨w0, hw0⟩ : ∃ w0, w0 = w.alloc (.cells #[.string nm, .string tn] 98) := ⟨_, rfl⟩
  obtain ⟨w1, hw1⟩ : ∃ w1, w1 = w0.alloc (.cells #[.slice (adr b.a) b.ps.length b.c, .int .i64 ((catL b.ps).size : Int)] 77) := ⟨_, rfl⟩
  have b01 : Below w.heap.size w w0 := by rw [hw0]; exact below_alloc (Below.refl _ _) _
  have b12 : Below w0.heap.size w0 w1 := by rw [hw1]; exact below_alloc (Below.refl _ _) _
  have s0 : w0.heap.size = w.heap.size + 1 := by rw [hw0]; simp
  have s1 : w1.heap.size = w.heap.size + 2 := by rw [hw1]; simp; omega
  have hlk : (Instr.lookup 48 (.map (some m)) (.string nm) false).run Try.prog w0 = .ok (.agg #[.slice (adr b.a) b.ps.length b.c, .int .i64 ((catL b.ps).size : Int)]) w0 := by
    have := (h.below b01).look hn false 0
    simp only [Bool.false_eq_true, if_false] at this
    have e : Value.agg #[.slice (adr b.a) b.ps.length b.c, .int .i64 ((catL b.ps).size : Int)] = if hasN l nm then (β nm).V else b0.V := by rw [hb]; unfold bodyOf; split <;> rfl
    rw [e]
    exact this
  have c0 : w1.cell? ⟨w.heap.size, 0, none⟩ = some (.string nm) := by rw [b12.cell (by show w.heap.size < _; omega), hw0]; exact World.cell?_alloc_at _ _ _ _ rfl
  have c1 : w1.cell? ⟨w.heap.size, 1, none⟩ = some (.string tn) := by rw [b12.cell (by show w.heap.size < _; omega), hw0]; exact World.cell?_alloc_at _ _ _ _ rfl
  have d0 : w1.cell? ⟨w0.heap.size, 0, none⟩ = some (.slice (adr b.a) b.ps.length b.c) := by rw [hw1]; exact World.cell?_alloc_at _ _ _ _ rfl
  have d1 : w1.cell? ⟨w0.heap.size, 1, none⟩ = some (.int .i64 ((catL b.ps).size : Int)) := by rw [hw1]; exact World.cell?_alloc_at _ _ _ _ rfl
  have hS1 := h.below (below_trans b01 b12)
  obtain ⟨y, hrun, hsh, hgy, hkp⟩ := hS1.drop hn 0
  have hmlt := h.lt
  have e0 : y.cell? ⟨w.heap.size, 0, none⟩ = some (.string nm) := hgy.cell c0 (by simp; omega)
  have e1 : y.cell? ⟨w.heap.size, 1, none⟩ = some (.string tn) := hgy.cell c1 (by simp; omega)
  have f0 : y.cell? ⟨w0.heap.size, 0, none⟩ = some (.slice (adr b.a) b.ps.length b.c) := hgy.cell d0 (by simp; omega)
  have f1 : y.cell? ⟨w0.heap.size, 1, none⟩ = some (.int .i64 ((catL b.ps).size : Int)) := hgy.cell d1 (by simp; omega)
  obtain ⟨z, hrun2, hsh2, hgz⟩ := hsh.store (nm := tn) (da := dataL l nm) b ht (by omega) (hkp (own_keep hbf.row (below_trans b01 b12))) (hbf.dat hh) (fun f hf hne => hbf.apt f (mem_cutL.1 hf).1 (mem_cutL.1 hf).2) (Nat.le_trans hbf.pcs (by omega))
  simp only [Bd.V] at hrun2
  have HE : Hid (DoneEnd base m (N + 1) (putL (cutL l nm) tn (dataL l nm)) w (.returned (.tuple #[])) z) := hide ⟨rfl, (((below_trans b01 b12).mono HBL.out).grown hgy (by have := HBL.out; omega) (fun j hj => by cases hj; exact HML.out)).grown hgz (by have := HBL.out; have := hgy.size; omega) (fun j hj => by cases hj; exact HML.out), _, hsh2⟩
  have l3 : w.heap.size < y.heap.size := by have := hgy.size; omega
  have l4 : w0.heap.size < y.heap.size := by have := hgy.size; omega
  clear hsh hsh2 hgy hgz hkp hS1 hbf b01 b12 h hb s0 s1 hmlt c0 c1 d0 d1
  subst hw1
  subst hw0
  simp only [World.size_alloc] at f0 f1 l4
  go_enter Try.func112, Try.ntmps112
  go_wp2
  exact bodyPost_end (v := .tuple #[]) (by simp [results, Try.results112, go_sem]) rfl HE.out
theorem appFinds_any (nm da : ByteArray) (m : Nat) (w : World) :
    Calls Try.prog 108 #[.agg #[.string nm, .string da], .map (some m)] w fun e w' => e = .returned (.bool true) ∧ Below w.heap.size w w' := by
  go_enter Try.func108, Try.ntmps108
  go_wp2
  go_ret
  exact ⟨rfl, below_alloc (Below.refl _ _) _⟩
theorem renFinds_any (base m N : Nat) (l : List Fl) (β : ByteArray → Bd) (nm tn : ByteArray) (w : World) (hn : nm.size ≤ 4194304) (h : Shelf base m l β N w) :
    Calls Try.prog 113 #[.agg #[.string nm, .string tn], .map (some m)] w fun e w' => e = .returned (.bool (hasN l nm)) ∧ Below w.heap.size w w' := by
  have HH : Hid _ := hide h
  clear h
  go_enter Try.func113, Try.ntmps113
  go_wp2_with fail
  refine (has_any base m N l β nm _ hn (HH.out.below (below_alloc (Below.refl _ _) _))).mono ?_
  rintro e w1 ⟨rfl, hb1⟩
  have HB1 : Hid _ := hide (below_trans (below_alloc (Below.refl _ _) _) hb1)
  clear hb1
  go_wp2
  go_ret
  exact ⟨rfl, HB1.out⟩
theorem remFinds_any (base m N : Nat) (l : List Fl) (β : ByteArray → Bd) (nm : ByteArray) (w : World) (hn : nm.size ≤ 4194304) (h : Shelf base m l β N w) :
    Calls Try.prog 119 #[.agg #[.string nm], .map (some m)] w fun e w' => e = .returned (.bool (hasN l nm)) ∧ Below w.heap.size w w' := by
  have HH : Hid _ := hide h
  clear h
  go_enter Try.func119, Try.ntmps119
  go_wp2_with fail
  refine (has_any base m N l β nm _ hn (HH.out.below (below_alloc (Below.refl _ _) _))).mono ?_
  rintro e w1 ⟨rfl, hb1⟩
  have HB1 : Hid _ := hide (below_trans (below_alloc (Below.refl _ _) _) hb1)
  clear hb1
  go_wp2
  go_ret
  exact ⟨rfl, HB1.out⟩
end Go.Proofs.Ytiilkkdbifhojaa
