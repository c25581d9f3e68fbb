/- The program's torn of each op, and its doing with what stays as it is besides. -/
import Derived.Test.YtiilkkdbifhojaaDkC7
import Derived.Test.YtiilkkdbifhojaaDkI8
import Derived.Deep.RegionHeld3
namespace Go.Proofs.Ytiilkkdbifhojaa
open Go.ChangeShapes Go.WideShapes Go.ChangeAt Go.RowKit Go.Maps
set_option linter.unusedVariables false
set_option maxRecDepth 100000
theorem extract_whole (s : ByteArray) : s.extract 0 s.size = s := by
  apply ByteArray.ext
  simp
/-- what is left of the data -/
def cutD (torn : Nat) (da : ByteArray) : ByteArray := if torn < da.size then da.extract 0 torn else da
set_option maxHeartbeats 2000000 in
theorem appTorn_any (nm da : ByteArray) (n : Nat) (w : World) (hd : da.size ≤ 1048600) :
    Calls Try.prog 110 #[.agg #[.string nm, .string da], .int .i64 (n : Int)] w fun e w' => e = .returned (.iface 96 (.agg #[.string nm, .string (cutD n da)])) ∧ Below w.heap.size w w' := by
  have HR : Hid (da.extract 0 (min (n : Int) (da.size : Int)).toNat = cutD n da) := hide (by
    rw [cutD]
    by_cases q : n < da.size
    · rw [if_pos q, show (min (n : Int) (da.size : Int)).toNat = n by omega]
    · rw [if_neg q, show (min (n : Int) (da.size : Int)).toNat = da.size by omega, extract_whole])
  go_enter Try.func110, Try.ntmps110
  go_wp2_with fail
  go_region
  go_wp2
  go_ret
  exact ⟨by rw [← HR.out]; rfl, (below_alloc (Below.refl _ _) _).drew⟩
theorem renTorn_any (nm tn : ByteArray) (n : Int) (w : World) :
    Calls Try.prog 115 #[.agg #[.string nm, .string tn], .int .i64 n] w fun e w' => e = .returned (.iface 98 (.agg #[.string nm, .string tn])) ∧ Below w.heap.size w w' := by
  go_enter Try.func115, Try.ntmps115
  go_wp2
  go_ret
  exact ⟨rfl, below_alloc (Below.refl _ _) _⟩
theorem remTorn_any (nm : ByteArray) (n : Int) (w : World) :
    Calls Try.prog 121 #[.agg #[.string nm], .int .i64 n] w fun e w' => e = .returned (.iface 100 (.agg #[.string nm])) ∧ Below w.heap.size w w' := by
  go_enter Try.func121, Try.ntmps121
  go_wp2
  go_ret
  exact ⟨rfl, below_alloc (Below.refl _ _) _⟩
/-- a block that is no part of a shelf -/
def AwayS (m : Nat) (l : List Fl) (β : ByteArray → Bd) (g : Nat) : Prop := g ≠ m ∧ ∀ f ∈ l, (β f.nm).v.ownBlock ≠ some g
def DoneK (base m N : Nat) (l0 : List Fl) (β0 : ByteArray → Bd) (l : List Fl) (w : World) (e : Ending) (w' : World) : Prop := e = .returned (.tuple #[]) ∧ Below base w w' ∧ ∃ β, Shelf base m l β N w' ∧ w.heap.size ≤ w'.heap.size ∧ ∀ g, g < w.heap.size → AwayS m l0 β0 g → w'.heap[g]? = w.heap[g]? ∧ AwayS m l β g
theorem away_body {m g : Nat} {l : List Fl} {β : ByteArray → Bd} {nm : ByteArray} (h : AwayS m l β g) : (bodyOf l β nm).v.ownBlock ≠ some g := by
  unfold bodyOf
  split
  · rename_i q
    obtain ⟨f, hf, rfl⟩ := hasN_iff.1 q
    exact h.2 f hf
  · intro q
    cases q
theorem away_app {m N base : Nat} {l : List Fl} {β : ByteArray → Bd} {nm da : ByteArray} {b' : Bd} {w w0 w2 y : World} (h : Shelf base m l β N w) (hb : Below w.heap.size w w0) (hg : w0.grownBy w2 (bodyOf l β nm).v.ownBlock) (hgy : w2.grownBy y (some m)) (hli : b'.v.ownBlock = (bodyOf l β nm).v.ownBlock ∨ ∃ g, b'.v.ownBlock = some g ∧ w0.heap.size ≤ g) : w.heap.size ≤ y.heap.size ∧ ∀ g, g < w.heap.size → AwayS m l β g → y.heap[g]? = w.heap[g]? ∧ AwayS m (putL l nm da) (upd β nm b') g := by
  have s1 := hb.size
  have s2 := hg.size
  have s3 := hgy.size
  refine ⟨by omega, fun g hlt ha => ⟨?_, ha.1, fun f hf => ?_⟩⟩
  · rw [hgy.block g (by omega) (fun q => ha.1 (by simpa using q)), hg.block g (by omega) (fun q => away_body ha q.symm), hb.block g hlt]
  · rcases (mem_putL h.srt).1 hf with rfl | ⟨hf, hne⟩
    · rw [upd_same]
      rcases hli with q | ⟨g', q, hge⟩
      · rw [q]; exact away_body ha
      · rw [q]
        intro e
        simp only [Option.some.injEq] at e
        omega
    · rw [upd_other hne]; exact ha.2 f hf
set_option maxHeartbeats 4000000 in
theorem appDo2_any (base m N : Nat) (l : List Fl) (β : ByteArray → Bd) (nm da : ByteArray) (w : World) (hn : nm.size ≤ 4194304) (hd : da.size ≤ 4194304) (hN : N ≤ 100000) (hz : datL l ≤ 1000000000) (h : Shelf base m l β N w) :
    Calls Try.prog 107 #[.agg #[.string nm, .string da], .map (some m)] w fun e w' => DoneK base m (N + 1) l β (putL l nm (appD l nm da)) w e w' := by
  have HH : Hid _ := hide h
  have HSD : Hid (Shelf base m l β N (w.alloc (.cells #[.string nm, .string da] 96)).drew) := hide (h.below (below_alloc (Below.refl _ _) _).drew)
  have hlk : (Instr.lookup 48 (.map (some m)) (.string nm) false).run Try.prog (w.alloc (.cells #[.string nm, .string da] 96)).drew = .ok (bodyOf l β nm).V (w.alloc (.cells #[.string nm, .string da] 96)).drew := by
    have := HSD.out.look hn false 0
    simp only [Bool.false_eq_true, if_false] at this
    have e : (bodyOf l β nm).V = if hasN l nm then (β nm).V else b0.V := by unfold bodyOf; split <;> rfl
    rw [e]
    exact this
  have XD : Hid (Sw w.heap.size (.string nm) (.string da) (w.alloc (.cells #[.string nm, .string da] 96)).drew) := hide ⟨World.cell?_alloc_at _ _ _ _ rfl, World.cell?_alloc_at _ _ _ _ rfl⟩
  have hbf := HSD.out.body nm
  have HWT : Hid (Calls Try.prog 41 #[(bodyOf l β nm).V, .string da] (w.alloc (.cells #[.string nm, .string da] 96)).drew fun e w' => WithEnd base (bodyOf l β nm) da (w.alloc (.cells #[.string nm, .string da] 96)).drew e w') := hide (with_any base (bodyOf l β nm) da _ HSD.out.base_le (Nat.le_trans hbf.pcs (by omega)) (Nat.le_trans hbf.sz hz) hd hbf.row)
  have HLT : Hid (m < w.heap.size) := hide h.lt
  have HLO : Hid (∀ g, (bodyOf l β nm).v.ownBlock = some g → g < w.heap.size ∧ base ≤ g) := hide (fun g hg => by have := (h.body nm).row.lt g hg; exact ⟨this.2, this.1⟩)
  have HML : Hid (base ≤ m) := hide h.lo
  clear h hbf
  have HBQ : Hid (Below w.heap.size w (w.alloc (.cells #[.string nm, .string da] 96)).drew) := hide (below_alloc (Below.refl _ _) _).drew
  have HBD : Hid (Below base w (w.alloc (.cells #[.string nm, .string da] 96)).drew) := hide ((below_alloc (Below.refl _ _) _).drew.mono HH.out.base_le)
  have HBL : Hid _ := hide HH.out.base_le
  have HAP : Hid (∀ {b' : Bd} {w2 y : World}, (w.alloc (.cells #[.string nm, .string da] 96)).drew.grownBy w2 (bodyOf l β nm).v.ownBlock → w2.grownBy y (some m) → (b'.v.ownBlock = (bodyOf l β nm).v.ownBlock ∨ ∃ g, b'.v.ownBlock = some g ∧ (w.alloc (.cells #[.string nm, .string da] 96)).drew.heap.size ≤ g) → w.heap.size ≤ y.heap.size ∧ ∀ g, g < w.heap.size → AwayS m l β g → y.heap[g]? = w.heap[g]? ∧ AwayS m (putL l nm (appD l nm da)) (upd β nm b') g) := hide (fun a b c => away_app HH.out HBQ.out a b c)
  generalize (bodyOf l β nm).V = bV at *
  go_enter Try.func107, Try.ntmps107
  go_wp2_with fail
  go_region_held3 (fun x => x.cell? ⟨w.heap.size, 0, none⟩ = some (.string nm) ∧ x.cell? ⟨w.heap.size, 1, none⟩ = some (.string da))
    (first | with_reducible exact XD.out | (with_reducible assumption))
    (first | (go_at_call 41; refine HWT.out.mono ?_; rintro e w2 ⟨b', rfl, hps, hro, hg, hli⟩; have XS : Sw w.heap.size (.string nm) (.string da) w2 := XD.out.grown hg (fun q => by have := (HLO.out _ q).1; omega); obtain ⟨y, hrun, hsh, hgy⟩ := HSD.out.more hn (by omega) hps hro hg hli; have XY : Sw w.heap.size (.string nm) (.string da) y := XS.grown hgy (by have := HLT.out; simp; omega); have HSH : Hid _ := hide hsh; have HAW : Hid _ := hide (HAP.out (b' := b') hg hgy hli); have HBY : Hid (Below base w y) := hide ((HBD.out.grown hg (Nat.le_trans HBL.out HBD.out.size) (fun j hj => (HLO.out j hj).2)).grown hgy (Nat.le_trans (Nat.le_trans HBL.out HBD.out.size) hg.size) (fun j hj => by cases hj; exact HML.out)); clear hsh hgy hg hli hro hps))
  have HE : Hid (DoneK base m (N + 1) l β (putL l nm (appD l nm da)) w (.returned (.tuple #[])) y) := hide ⟨rfl, HBY.out, _, HSH.out, HAW.out⟩
  clear hrun XS XY
  exact bodyPost_end (v := .tuple #[]) (by simp [results, Try.results107, go_sem]) rfl HE.out
set_option maxHeartbeats 2000000 in
theorem remDo2_any (base m N : Nat) (l : List Fl) (β : ByteArray → Bd) (nm : ByteArray) (w : World) (hn : nm.size ≤ 4194304) (h : Shelf base m l β N w) :
    Calls Try.prog 118 #[.agg #[.string nm], .map (some m)] w fun e w' => DoneK base m N l β (cutL l nm) w e w' := by
  have HBL : Hid _ := hide h.base_le
  have HML : Hid _ := hide h.lo
  obtain ⟨y, hrun, hsh, hgy, _⟩ := (h.below (below_alloc (Below.refl _ _) (.cells #[.string nm] 100))).drop hn 0
  have HE : Hid (DoneK base m N l β (cutL l nm) w (.returned (.tuple #[])) y) := hide ⟨rfl, ((below_alloc (Below.refl _ _) (.cells #[.string nm] 100)).mono HBL.out).grown hgy (by have := HBL.out; simp; omega) (fun j hj => by cases hj; exact HML.out), β, hsh, by have := hgy.size; simp at this; omega, fun g hg ha => ⟨by
    rw [hgy.block g (by simp; omega) (fun q => ha.1 (by simpa using q))]
    exact (below_alloc (Below.refl w.heap.size w) (.cells #[.string nm] 100)).block g hg, ha.1, fun f hf => ha.2 f (mem_cutL.1 hf).1⟩⟩
  clear hsh hgy h
  go_enter Try.func118, Try.ntmps118
  go_wp2
  exact bodyPost_end (v := .tuple #[]) (by simp [results, Try.results118, go_sem]) rfl HE.out
set_option maxHeartbeats 2000000 in
theorem renDo2_any (base m N : Nat) (l : List Fl) (β : ByteArray → Bd) (nm tn : ByteArray) (w : World) (hn : nm.size ≤ 4194304) (ht : tn.size ≤ 4194304) (hN : N ≤ 100000) (hh : hasN l nm = true) (h : Shelf base m l β N w) :
    Calls Try.prog 112 #[.agg #[.string nm, .string tn], .map (some m)] w fun e w' => DoneK base m (N + 1) l β (putL (cutL l nm) tn (dataL l nm)) w e w' := by
  have HBL : Hid _ := hide h.base_le
  have HML : Hid _ := hide h.lo
  have HLT : Hid _ := hide h.lt
  obtain ⟨b, hb⟩ : ∃ b, b = bodyOf l β nm := ⟨_, rfl⟩
  have hbf := h.body nm
  rw [← hb] at hbf
  obtain ⟨w0, hw0⟩ : ∃ w0, w0 = w.alloc (.cells #[.string nm, .string tn] 98) := ⟨_, rfl⟩
  obtain ⟨w1, hw1⟩ : ∃ w1, w1 = w0.alloc (.cells #[.slice (adr b.a) b.ps.length b.c, .int .i64 ((catL b.ps).size : Int)] 77) := ⟨_, rfl⟩
  have b01 : Below w.heap.size w w0 := by rw [hw0]; exact below_alloc (Below.refl _ _) _
  have b12 : Below w0.heap.size w0 w1 := by rw [hw1]; exact below_alloc (Below.refl _ _) _
  have s0 : w0.heap.size = w.heap.size + 1 := by rw [hw0]; simp
  have s1 : w1.heap.size = w.heap.size + 2 := by rw [hw1]; simp; omega
  have hlk : (Instr.lookup 48 (.map (some m)) (.string nm) false).run Try.prog w0 = .ok (.agg #[.slice (adr b.a) b.ps.length b.c, .int .i64 ((catL b.ps).size : Int)]) w0 := by
    have := (h.below b01).look hn false 0
    simp only [Bool.false_eq_true, if_false] at this
    have e : Value.agg #[.slice (adr b.a) b.ps.length b.c, .int .i64 ((catL b.ps).size : Int)] = if hasN l nm then (β nm).V else b0.V := by rw [hb]; unfold bodyOf; split <;> rfl
    rw [e]
    exact this
  have c0 : w1.cell? ⟨w.heap.size, 0, none⟩ = some (.string nm) := by rw [b12.cell (by show w.heap.size < _; omega), hw0]; exact World.cell?_alloc_at _ _ _ _ rfl
  have c1 : w1.cell? ⟨w.heap.size, 1, none⟩ = some (.string tn) := by rw [b12.cell (by show w.heap.size < _; omega), hw0]; exact World.cell?_alloc_at _ _ _ _ rfl
  have d0 : w1.cell? ⟨w0.heap.size, 0, none⟩ = some (.slice (adr b.a) b.ps.length b.c) := by rw [hw1]; exact World.cell?_alloc_at _ _ _ _ rfl
  have d1 : w1.cell? ⟨w0.heap.size, 1, none⟩ = some (.int .i64 ((catL b.ps).size : Int)) := by rw [hw1]; exact World.cell?_alloc_at _ _ _ _ rfl
  have hS1 := h.below (below_trans b01 b12)
  obtain ⟨y, hrun, hsh, hgy, hkp⟩ := hS1.drop hn 0
  have hmlt := h.lt
  have e0 : y.cell? ⟨w.heap.size, 0, none⟩ = some (.string nm) := hgy.cell c0 (by simp; omega)
  have e1 : y.cell? ⟨w.heap.size, 1, none⟩ = some (.string tn) := hgy.cell c1 (by simp; omega)
  have f0 : y.cell? ⟨w0.heap.size, 0, none⟩ = some (.slice (adr b.a) b.ps.length b.c) := hgy.cell d0 (by simp; omega)
  have f1 : y.cell? ⟨w0.heap.size, 1, none⟩ = some (.int .i64 ((catL b.ps).size : Int)) := hgy.cell d1 (by simp; omega)
  obtain ⟨z, hrun2, hsh2, hgz⟩ := hsh.store (nm := tn) (da := dataL l nm) b ht (by omega) (hkp (own_keep hbf.row (below_trans b01 b12))) (hbf.dat hh) (fun f hf hne => hbf.apt f (mem_cutL.1 hf).1 (mem_cutL.1 hf).2) (Nat.le_trans hbf.pcs (by omega))
  simp only [Bd.V] at hrun2
  have HAW : Hid (w.heap.size ≤ z.heap.size ∧ ∀ g, g < w.heap.size → AwayS m l β g → z.heap[g]? = w.heap[g]? ∧ AwayS m (putL (cutL l nm) tn (dataL l nm)) (upd β tn b) g) := hide (by
    have s3 := hgy.size
    have s4 := hgz.size
    refine ⟨by omega, fun g hg ha => ⟨?_, ha.1, fun f hf => ?_⟩⟩
    · rw [hgz.block g (by omega) (fun q => ha.1 (by simpa using q)), hgy.block g (by omega) (fun q => ha.1 (by simpa using q)), (below_trans b01 b12).block g hg]
    · rcases (mem_putL hsh.srt).1 hf with rfl | ⟨hf, hne⟩
      · rw [upd_same, hb]; exact away_body ha
      · rw [upd_other hne]; exact ha.2 f (mem_cutL.1 hf).1)
  have HE : Hid (DoneK base m (N + 1) l β (putL (cutL l nm) tn (dataL l nm)) w (.returned (.tuple #[])) z) := hide ⟨rfl, (((below_trans b01 b12).mono HBL.out).grown hgy (by have := HBL.out; omega) (fun j hj => by cases hj; exact HML.out)).grown hgz (by have := HBL.out; have := hgy.size; omega) (fun j hj => by cases hj; exact HML.out), _, hsh2, HAW.out⟩
  have l3 : w.heap.size < y.heap.size := by have := hgy.size; omega
  have l4 : w0.heap.size < y.heap.size := by have := hgy.size; omega
  clear hsh hsh2 hgy hgz hkp hS1 hbf b01 b12 h hb s0 s1 hmlt c0 c1 d0 d1
  subst hw1
  subst hw0
  simp only [World.size_alloc] at f0 f1 l4
  go_enter Try.func112, Try.ntmps112
  go_wp2
  exact bodyPost_end (v := .tuple #[]) (by simp [results, Try.results112, go_sem]) rfl HE.out
end Go.Proofs.Ytiilkkdbifhojaa
