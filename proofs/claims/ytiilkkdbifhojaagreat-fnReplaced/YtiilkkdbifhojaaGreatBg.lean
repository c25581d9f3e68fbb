/- The program's torn of each op, and its doing with what stays as it is besides. -/
import Derived.Test.YtiilkkdbifhojaaGreatBf
import Derived.Test.YtiilkkdbifhojaaGreatBd
import Derived.Deep.RegionHeld3
import Derived.Test.YtiilkkdbifhojaaGreatBe
namespace Go.Proofs.YtiilkkdbifhojaaGreat
open Go.ChangeShapes Go.WideShapes Go.ChangeAt Go.RowKit Go.Maps
set_option linter.unusedVariables false
set_option maxRecDepth 100000
theorem extract_whole (s : ByteArray) : s.extract 0 s.size = s := by
  apply ByteArray.ext
  simp
/-- what is left of the data -/
def cutD (torn : Nat) (da : ByteArray) : ByteArray := if torn < da.size then da.extract 0 torn else da
set_option maxHeartbeats 2000000 in
theorem appTorn_any (nm da : ByteArray) (n : Nat) (w : World) (hd : da.size ≤ 1048600) :
    Calls Tryz.prog 107 #[.agg #[.string nm, .string da], .int .i64 (n : Int)] w fun e w' => e = .returned (.iface 97 (.agg #[.string nm, .string (cutD n da)])) ∧ Below w.heap.size w w' := by
  have HR : Hid (da.extract 0 (min (n : Int) (da.size : Int)).toNat = cutD n da) := hide (by
    rw [cutD]
    by_cases q : n < da.size
    · rw [if_pos q, show (min (n : Int) (da.size : Int)).toNat = n by omega]
    · rw [if_neg q, show (min (n : Int) (da.size : Int)).toNat = da.size by omega, extract_whole])
  go_enter Tryz.func107, Tryz.ntmps107
  go_wp2_with fail
  go_region
  go_wp2
  go_ret
  exact ⟨by rw [← HR.out]; rfl, (below_alloc (Below.refl _ _) _).drew⟩
theorem renTorn_any (nm tn : ByteArray) (n : Int) (w : World) :
    Calls Tryz.prog 112 #[.agg #[.string nm, .string tn], .int .i64 n] w fun e w' => e = .returned (.iface 99 (.agg #[.string nm, .string tn])) ∧ Below w.heap.size w w' := by
  go_enter Tryz.func112, Tryz.ntmps112
  go_wp2
  go_ret
  exact ⟨rfl, below_alloc (Below.refl _ _) _⟩
theorem remTorn_any (nm : ByteArray) (n : Int) (w : World) :
    Calls Tryz.prog 118 #[.agg #[.string nm], .int .i64 n] w fun e w' => e = .returned (.iface 101 (.agg #[.string nm])) ∧ Below w.heap.size w w' := by
  go_enter Tryz.func118, Tryz.ntmps118
  go_wp2
  go_ret
  exact ⟨rfl, below_alloc (Below.refl _ _) _⟩
/-- a block that is no part of a shelf -/
def AwayS (m : Nat) (l : List Fl) (β : ByteArray → Bd) (g : Nat) : Prop := g ≠ m ∧ ∀ f ∈ l, (β f.nm).v.ownBlock ≠ some g
def DoneK (base m N : Nat) (l0 : List Fl) (β0 : ByteArray → Bd) (l : List Fl) (w : World) (e : Ending) (w' : World) : Prop := e = .returned (.tuple #[]) ∧ Below base w w' ∧ ∃ β, Shelf base m l β N w' ∧ w.heap.size ≤ w'.heap.size ∧ ∀ g, g < w.heap.size → AwayS m l0 β0 g → w'.heap[g]? = w.heap[g]? ∧ AwayS m l β g
theorem away_body {m g : Nat} {l : List Fl} {β : ByteArray → Bd} {nm : ByteArray} (h : AwayS m l β g) : (bodyOf l β nm).v.ownBlock ≠ some g := by
  unfold bodyOf
  split
  · rename_i q
    obtain ⟨f, hf, rfl⟩ := hasN_iff.1 q
    exact h.2 f hf
  · intro q
    cases q
theorem away_app {m N base : Nat} {l : List Fl} {β : ByteArray → Bd} {nm da : ByteArray} {b' : Bd} {w w0 w2 y : World} (h : Shelf base m l β N w) (hb : Below w.heap.size w w0) (hg : w0.grownBy w2 (bodyOf l β nm).v.ownBlock) (hgy : w2.grownBy y (some m)) (hli : b'.v.ownBlock = (bodyOf l β nm).v.ownBlock ∨ ∃ g, b'.v.ownBlock = some g ∧ w0.heap.size ≤ g) : w.heap.size ≤ y.heap.size ∧ ∀ g, g < w.heap.size → AwayS m l β g → y.heap[g]? = w.heap[g]? ∧ AwayS m (putL l nm da) (upd β nm b') g := by
  have s1 := hb.size
  have s2 := hg.size
  have s3 := hgy.size
  refine ⟨by omega, fun g hlt ha => ⟨?_, ha.1, fun f hf => ?_⟩⟩
  · rw [hgy.block g (by omega) (fun q => ha.1 (by simpa using q)), hg.block g (by omega) (fun q => away_body ha q.symm), hb.block g hlt]
  · rcases (mem_putL h.srt).1 hf with rfl | ⟨hf, hne⟩
    · rw [upd_same]
      rcases hli with q | ⟨g', q, hge⟩
      · rw [q]; exact away_body ha
      · rw [q]
        intro e
        simp only [Option.some.injEq] at e
        omega
    · rw [upd_other hne]; exact ha.2 f hf
set_option maxHeartbeats 4000000 in
theorem appDo2_any (base m N : Nat) (l : List Fl) (β : ByteArray → Bd) (nm da : ByteArray) (w : World) (hn : nm.size ≤ 4194304) (hd : da.size ≤ 4194304) (hN : N ≤ 100000) (hz : datL l ≤ 1000000000) (h : Shelf base m l β N w) :
    Calls Tryz.prog 104 #[.agg #[.string nm, .string da], .map (some m)] w fun e w' => DoneK base m (N + 1) l β (putL l nm (appD l nm da)) w e w' := by
  have HH : Hid _ := hide h
  have HSD : Hid (Shelf base m l β N (w.alloc (.cells #[.string nm, .string da] 97)).drew) := hide (h.below (below_alloc (Below.refl _ _) _).drew)
  have hlk : (Instr.lookup 56 (.map (some m)) (.string nm) false).run Tryz.prog (w.alloc (.cells #[.string nm, .string da] 97)).drew = .ok (bodyOf l β nm).V (w.alloc (.cells #[.string nm, .string da] 97)).drew := by
    have := HSD.out.look hn false 0
    simp only [Bool.false_eq_true, if_false] at this
    have e : (bodyOf l β nm).V = if hasN l nm then (β nm).V else b0.V := by unfold bodyOf; split <;> rfl
    rw [e]
    exact this
  have XD : Hid (Sw w.heap.size (.string nm) (.string da) (w.alloc (.cells #[.string nm, .string da] 97)).drew) := hide ⟨World.cell?_alloc_at _ _ _ _ rfl, World.cell?_alloc_at _ _ _ _ rfl⟩
  have hbf := HSD.out.body nm
  have HWT : Hid (Calls Tryz.prog 46 #[(bodyOf l β nm).V, .string da] (w.alloc (.cells #[.string nm, .string da] 97)).drew fun e w' => WithEnd base (bodyOf l β nm) da (w.alloc (.cells #[.string nm, .string da] 97)).drew e w') := hide (with_any base (bodyOf l β nm) da _ HSD.out.base_le (Nat.le_trans hbf.pcs (by omega)) (Nat.le_trans hbf.sz hz) hd hbf.row)
  have HLT : Hid (m < w.heap.size) := hide h.lt
  have HLO : Hid (∀ g, (bodyOf l β nm).v.ownBlock = some g → g < w.heap.size ∧ base ≤ g) := hide (fun g hg => by have := (h.body nm).row.lt g hg; exact ⟨this.2, this.1⟩)
  have HML : Hid (base ≤ m) := hide h.lo
  clear h hbf
  have HBQ : Hid (Below w.heap.size w (w.alloc (.cells #[.string nm, .string da] 97)).drew) := hide (below_alloc (Below.refl _ _) _).drew
  have HBD : Hid (Below base w (w.alloc (.cells #[.string nm, .string da] 97)).drew) := hide ((below_alloc (Below.refl _ _) _).drew.mono HH.out.base_le)
  have HBL : Hid _ := hide HH.out.base_le
  have HAP : Hid (∀ {b' : Bd} {w2 y : World}, (w.alloc (.cells #[.string nm, .string da] 97)).drew.grownBy w2 (bodyOf l β nm).v.ownBlock → w2.grownBy y (some m) → (b'.v.ownBlock = (bodyOf l β nm).v.ownBlock ∨ ∃ g, b'.v.ownBlock = some g ∧ (w.alloc (.cells #[.string nm, .string da] 97)).drew.heap.size ≤ g) → w.heap.size ≤ y.heap.size ∧ ∀ g, g < w.heap.size → AwayS m l β g → y.heap[g]? = w.heap[g]? ∧ AwayS m (putL l nm (appD l nm da)) (upd β nm b') g) := hide (fun a b c => away_app HH.out HBQ.out a b c)
  generalize (bodyOf l β nm).V = bV at *
  go_enter Tryz.func104, Tryz.ntmps104
  go_wp2_with fail
  go_region_held3 (fun x => x.cell? ⟨w.heap.size, 0, none⟩ = some (.string nm) ∧ x.cell? ⟨w.heap.size, 1, none⟩ = some (.string da))
    (first | with_reducible exact XD.out | (with_reducible assumption))
    (first | (go_at_call 46; refine HWT.out.mono ?_; rintro e w2 ⟨b', rfl, hps, hro, hg, hli⟩; have XS : Sw w.heap.size (.string nm) (.string da) w2 := XD.out.grown hg (fun q => by have := (HLO.out _ q).1; omega); obtain ⟨y, hrun, hsh, hgy⟩ := HSD.out.more hn (by omega) hps hro hg hli; have XY : Sw w.heap.size (.string nm) (.string da) y := XS.grown hgy (by have := HLT.out; simp; omega); have HSH : Hid _ := hide hsh; have HAW : Hid _ := hide (HAP.out (b' := b') hg hgy hli); have HBY : Hid (Below base w y) := hide ((HBD.out.grown hg (Nat.le_trans HBL.out HBD.out.size) (fun j hj => (HLO.out j hj).2)).grown hgy (Nat.le_trans (Nat.le_trans HBL.out HBD.out.size) hg.size) (fun j hj => by cases hj; exact HML.out)); clear hsh hgy hg hli hro hps))
  have HE : Hid (DoneK base m (N + 1) l β (putL l nm (appD l nm da)) w (.returned (.tuple #[])) y) := hide ⟨rfl, HBY.out, _, HSH.out, HAW.out⟩
  clear hrun XS XY
  exact bodyPost_end (v := .tuple #[]) (by simp [results, Tryz.results104, go_sem]) rfl HE.out
set_option maxHeartbeats 2000000 in
theorem remDo2_any (base m N : Nat) (l : List Fl) (β : ByteArray → Bd) (nm : ByteArray) (w : World) (hn : nm.size ≤ 4194304) (h : Shelf base m l β N w) :
    Calls Tryz.prog 115 #[.agg #[.string nm], .map (some m)] w fun e w' => DoneK base m N l β (cutL l nm) w e w' := by
  have HBL : Hid _ := hide h.base_le
  have HML : Hid _ := hide h.lo
  obtain ⟨y, hrun, hsh, hgy, _⟩ := (h.below (below_alloc (Below.refl _ _) (.cells #[.string nm] 101))).drop hn 0
  have HE : Hid (DoneK base m N l β (cutL l nm) w (.returned (.tuple #[])) y) := hide ⟨rfl, ((below_alloc (Below.refl _ _) (.cells #[.string nm] 101)).mono HBL.out).grown hgy (by have := HBL.out; simp; omega) (fun j hj => by cases hj; exact HML.out), β, hsh, by have := hgy.size; simp at this; omega, fun g hg ha => ⟨by
    rw [hgy.block g (by simp; omega) (fun q => ha.1 (by simpa using q))]
    exact (below_alloc (Below.refl w.heap.size w) (.cells #[.string nm] 101)).block g hg, ha.1, fun f hf => ha.2 f (mem_cutL.1 hf).1⟩⟩
  clear hsh hgy h
  go_enter Tryz.func115, Tryz.ntmps115
  go_wp2
  exact bodyPost_end (v := .tuple #[]) (by simp [results, Tryz.results115, go_sem]) rfl HE.out
set_option maxHeartbeats 2000000 in
theorem renDo2_any (base m N : Nat) (l : List Fl) (β : ByteArray → Bd) (nm tn : ByteArray) (w : World) (hn : nm.size ≤ 4194304) (ht : tn.size ≤ 4194304) (hN : N ≤ 100000) (hh : hasN l nm = true) (h : Shelf base m l β N w) :
    Calls Tryz.prog 109 #[.agg #[.string nm, .string tn], .map (some m)] w fun e w' => DoneK base m (N + 1) l β (putL (cutL l nm) tn (dataL l nm)) w e w' := by
  have HBL : Hid _ := hide h.base_le
  have HML : Hid _ := hide h.lo
  have HLT : Hid _ := hide h.lt
  obtain ⟨b, hb⟩ : ∃ b, b = bodyOf l β nm := ⟨_, rfl⟩
  have hbf := h.body nm
  rw [← hb] at hbf
  obtain ⟨w0, hw0⟩ : ∃ w0, w0 = w.alloc (.cells #[.string nm, .string tn] 99) := ⟨_, rfl⟩
  obtain ⟨w1, hw1⟩ : ∃ w1, w1 = w0.alloc (.cells #[.slice (adr b.a) b.ps.length b.c, .int .i64 ((catL b.ps).size : Int)] 83) := ⟨_, rfl⟩
  have b01 : Below w.heap.size w w0 := by rw [hw0]; exact below_alloc (Below.refl _ _) _
  have b12 : Below w0.heap.size w0 w1 := by rw [hw1]; exact below_alloc (Below.refl _ _) _
  have s0 : w0.heap.size = w.heap.size + 1 := by rw [hw0]; simp
  have s1 : w1.heap.size = w.heap.size + 2 := by rw [hw1]; simp; omega
  have hlk : (Instr.lookup 56 (.map (some m)) (.string nm) false).run Tryz.prog w0 = .ok (.agg #[.slice (adr b.a) b.ps.length b.c, .int .i64 ((catL b.ps).size : Int)]) w0 := by
    have := (h.below b01).look hn false 0
    simp only [Bool.false_eq_true, if_false] at this
    have e : Value.agg #[.slice (adr b.a) b.ps.length b.c, .int .i64 ((catL b.ps).size : Int)] = if hasN l nm then (β nm).V else b0.V := by rw [hb]; unfold bodyOf; split <;> rfl
    rw [e]
    exact this
  have c0 : w1.cell? ⟨w.heap.size, 0, none⟩ = some (.string nm) := by rw [b12.cell (by show w.heap.size < _; omega), hw0]; exact World.cell?_alloc_at _ _ _ _ rfl
  have c1 : w1.cell? ⟨w.heap.size, 1, none⟩ = some (.string tn) := by rw [b12.cell (by show w.heap.size < _; omega), hw0]; exact World.cell?_alloc_at _ _ _ _ rfl
  have d0 : w1.cell? ⟨w0.heap.size, 0, none⟩ = some (.slice (adr b.a) b.ps.length b.c) := by rw [hw1]; exact World.cell?_alloc_at _ _ _ _ rfl
  have d1 : w1.cell? ⟨w0.heap.size, 1, none⟩ = some (.int .i64 ((catL b.ps).size : Int)) := by rw [hw1]; exact World.cell?_alloc_at _ _ _ _ rfl
  have hS1 := h.below (below_trans b01 b12)
  obtain ⟨y, hrun, hsh, hgy, hkp⟩ := hS1.drop hn 0
  have hmlt := h.lt
  have e0 : y.cell? ⟨w.heap.size, 0, none⟩ = some (.string nm) := hgy.cell c0 (by simp; omega)
  have e1 : y.cell? ⟨w.heap.size, 1, none⟩ = some (.string tn) := hgy.cell c1 (by simp; omega)
  have f0 : y.cell? ⟨w0.heap.size, 0, none⟩ = some (.slice (adr b.a) b.ps.length b.c) := hgy.cell d0 (by simp; omega)
  have f1 : y.cell? ⟨w0.heap.size, 1, none⟩ = some (.int .i64 ((catL b.ps).size : Int)) := hgy.cell d1 (by simp; omega)
  obtain ⟨z, hrun2, hsh2, hgz⟩ := hsh.store (nm := tn) (da := dataL l nm) b ht (by omega) (hkp (own_keep hbf.row (below_trans b01 b12))) (hbf.dat hh) (fun f hf hne => hbf.apt f (mem_cutL.1 hf).1 (mem_cutL.1 hf).2) (Nat.le_trans hbf.pcs (by omega))
  simp only [Bd.V] at hrun2
  have HAW : Hid (w.heap.size ≤ z.heap.size ∧ ∀ g, g < w.heap.size → AwayS m l β g → z.heap[g]? = w.heap[g]? ∧ AwayS m (putL (cutL l nm) tn (dataL l nm)) (upd β tn b) g) := hide (by
    have s3 := hgy.size
    have s4 := hgz.size
    refine ⟨by omega, fun g hg ha => ⟨?_, ha.1, fun f hf => ?_⟩⟩
    · rw [hgz.block g (by omega) (fun q => ha.1 (by simpa using q)), hgy.block g (by omega) (fun q => ha.1 (by simpa using q)), (below_trans b01 b12).block g hg]
    · rcases (mem_putL hsh.srt).1 hf with rfl | ⟨hf, hne⟩
      · rw [upd_same, hb]; exact away_body ha
      · rw [upd_other hne]; exact ha.2 f (mem_cutL.1 hf).1)
  have HE : Hid (DoneK base m (N + 1) l β (putL (cutL l nm) tn (dataL l nm)) w (.returned (.tuple #[])) z) := hide ⟨rfl, (((below_trans b01 b12).mono HBL.out).grown hgy (by have := HBL.out; omega) (fun j hj => by cases hj; exact HML.out)).grown hgz (by have := HBL.out; have := hgy.size; omega) (fun j hj => by cases hj; exact HML.out), _, hsh2, HAW.out⟩
  have l3 : w.heap.size < y.heap.size := by have := hgy.size; omega
  have l4 : w0.heap.size < y.heap.size := by have := hgy.size; omega
  clear hsh hsh2 hgy hgz hkp hS1 hbf b01 b12 h hb s0 s1 hmlt c0 c1 d0 d1
  subst hw1
  subst hw0
  simp only [World.size_alloc] at f0 f1 l4
  go_enter Tryz.func109, Tryz.ntmps109
  go_wp2
  exact bodyPost_end (v := .tuple #[]) (by simp [results, Tryz.results109, go_sem]) rfl HE.out
end Go.Proofs.YtiilkkdbifhojaaGreat
/- The program's keptOps. -/
namespace Go.Proofs.YtiilkkdbifhojaaGreat
open Go.ChangeShapes Go.WideShapes Go.ChangeAt Go.RowKit Go.Maps
set_option linter.unusedVariables false
set_option maxRecDepth 100000
def opCells (o : Dp) : List Value := [opV o]
theorem opLen (x : Dp) : (opCells x).length = 1 := rfl
theorem op_one (o : Dp) : (opV o).oneCell' = true := by
  unfold opV
  split
  · rfl
  · split
    · rfl
    · split <;> rfl
theorem op_iface {o : Dp} (h : formB o = true) : ∃ t x, opV o = .iface t x := by
  rcases kind_of h with k | k | k <;> simp [opV, k]
theorem infoDO : (Tryz.prog.info? 61).map (fun i => (i.zero, i.size, i.bytes)) = some (some .nilIface, 1, 16) := by kernel_rfl
theorem huDO : Tryz.prog.underlying 58 = some (.slice 61) := by kernel_rfl
/-- the operations at the places, none torn -/
def crsU (ops : List Dp) (keep : List Int) : List Dp := keep.map fun n => (ops[n.toNat]?).getD ⟨0, ⟨#[]⟩, ⟨#[]⟩, ⟨#[]⟩⟩
theorem crsU_len (ops : List Dp) (keep : List Int) : (crsU ops keep).length = keep.length := by simp [crsU]
theorem crsU_at {ops : List Dp} {keep : List Int} {k n : Nat} (hk : k < keep.length) (hn : keep[k] = (n : Int)) (hno : n < ops.length) : (crsU ops keep)[k]? = some ops[n] := by
  simp [crsU, List.getElem?_eq_getElem hk, hn, List.getElem?_eq_getElem hno]
theorem crsU_next {ops : List Dp} {keep : List Int} {k n : Nat} (hk : k < keep.length) (hn : keep[k] = (n : Int)) (hno : n < ops.length) : (crsU ops keep).take (k + 1) = (crsU ops keep).take k ++ [ops[n]] := by
  rw [List.take_add_one, crsU_at hk hn hno]
  rfl
theorem crsO_set {ops : List Dp} {keep : List Int} {torn : Int} {m q : Nat} (hm : keep.length = m + 1) (hk : m < keep.length) (hq : keep[m] = (q : Int)) (hqo : q < ops.length) (hp : placesB keep ops.length = true) : crsO ops keep torn = (crsU ops keep).set m (tornO torn ops[q]) := by
  apply List.ext_getElem?
  intro j
  rcases Nat.lt_or_ge j keep.length with hj | hj
  · obtain ⟨n, hn, hno⟩ := pl_in hp hj
    rw [crs_at hj hn hno]
    by_cases e : j = m
    · subst e
      have en : n = q := by
        have : (n : Int) = (q : Int) := hn.symm.trans hq
        omega
      subst en
      rw [if_pos hm.symm, List.getElem?_set_self (by rw [crsU_len]; exact hj)]
    · rw [if_neg (by omega), List.getElem?_set_ne (by omega), crsU_at hj hn hno]
  · rw [List.getElem?_eq_none (by rw [crs_len]; exact hj), List.getElem?_eq_none (by rw [List.length_set, crsU_len]; exact hj)]
theorem own_op {w : World} {g : Nat} {a : Option Addr} {cap : Nat} {l : List Dp} (h : OwnRow 1 opCells w g a cap l) (i : Nat) (hi : i < l.length) : a = some ⟨g, 0, none⟩ ∧ g < w.heap.size ∧ w.cell? ⟨g, i, none⟩ = some (opV l[i]) ∧ w.frozen? ⟨g, i, none⟩ = false := by
  obtain ⟨b, off, e, hb, hc⟩ := h.rows i hi
  obtain ⟨e2, hf⟩ := h.own (by omega)
  have e' := e
  rw [e2] at e'
  simp only [Option.some.injEq, Addr.mk.injEq, and_true] at e'
  obtain ⟨rfl, rfl⟩ := e'
  exact ⟨e2, hb, by have := hc 0 (opV l[i]) rfl; simpa using this, hf i⟩
def NewOps (l : List Dp) (w : World) (e : Ending) (w' : World) : Prop := Below w.heap.size w w' ∧ ∃ g a cap, w.heap.size ≤ g ∧ e = .returned (.slice a l.length cap) ∧ OwnRow 1 opCells w' g a cap l
theorem kept_end {ops : List Dp} {keep : List Int} {torn : Int} {m q g vc : Nat} {va : Option Addr} {w wr w2 : World} {u : Value} (hm : keep.length = m + 1) (hk : m < keep.length) (hq : keep[m] = (q : Int)) (hqo : q < ops.length) (hp : placesB keep ops.length = true) (how : OwnRow 1 opCells wr g va vc (crsU ops keep)) (hb : Below w.heap.size w wr) (hg : w.heap.size ≤ g) (hb2 : Below wr.heap.size wr w2) (hu : u = opV (tornO torn ops[q])) :
    NewOps (crsO ops keep torn) w (.returned (.slice va keep.length vc)) (w2.setCell ⟨g, m, none⟩ u) := by
  refine ⟨(below_trans hb hb2).setCell (p := ⟨g, m, none⟩) hg _, g, va, vc, hg, by rw [crs_len], ?_⟩
  have h1 := (how.below hb2).set (l' := crsO ops keep torn) (i := m) (r := 0) (u := u) opLen (by rw [crsU_len]; exact hk) (by decide) (by rw [crs_len, crsU_len]) (fun k hk1 hk2 r' v hv => by
    have er : r' = 0 := by
      have := (List.getElem?_eq_some_iff.1 hv).1
      rw [opLen] at this
      omega
    subst er
    have e1 : (crsO ops keep torn)[k] = if m = k then tornO torn ops[q] else (crsU ops keep)[k] := by
      have := congrArg (fun l => l[k]?) (crsO_set (torn := torn) hm hk hq hqo hp)
      simp only [List.getElem?_set, List.getElem?_eq_getElem hk1, List.getElem?_eq_getElem hk2] at this
      split at this
      · rename_i e
        rw [if_pos e]
        split at this
        · simpa using this
        · cases this
      · rename_i e
        rw [if_neg e]
        simpa using this
    by_cases e : m = k
    · left
      rw [e1, if_pos e] at hv
      simp only [opCells, List.getElem?_cons_zero, Option.some.injEq] at hv
      exact ⟨e.symm, rfl, by rw [hu, hv]⟩
    · right
      rw [e1, if_neg e] at hv
      exact ⟨fun z => e z.1.symm, hv⟩)
  simpa using h1
theorem torn_app {n : Nat} {nm tn da : ByteArray} : Value.iface 97 (.agg #[.string nm, .string (cutD n da)]) = opV (tornO (n : Int) ⟨1, nm, tn, da⟩) := by
  unfold tornO cutD
  by_cases h : n < da.size
  · rw [if_pos h, if_pos ⟨rfl, by show (n : Int) < (da.size : Int); omega⟩]
    simp [opV]
  · rw [if_neg h, if_neg (fun z => h (by have := z.2; simp only at this; omega))]
    rfl
theorem torn_other {n : Int} {o : Dp} (h : o.kind ≠ 1) : opV o = opV (tornO n o) := by
  unfold tornO
  rw [if_neg (fun z => h z.1)]
set_option maxHeartbeats 8000000 in
theorem keptOps_any (oa ka : Option Addr) (oc kc : Nat) (ops : List Dp) (keep : List Int) (n : Nat) (w : World) (hk : keep.length ≤ 200) (hol : ops.length ≤ 200) (hpl : placesB keep ops.length = true) (hsm : ∀ o ∈ ops, SmO o) (hfm : ∀ o ∈ ops, formB o = true) (ho : RowAt 4 dpCells w oa ops) (hp : RowAt 1 i64Cells w ka keep) :
    Calls Tryz.prog 28 #[.slice oa ops.length oc, .slice ka keep.length kc, .int .i64 (n : Int)] w fun e w' => NewOps (crsO ops keep (n : Int)) w e w' := by
  have HO : Hid _ := hide ho
  have HP : Hid _ := hide hp
  have HPL : Hid _ := hide hpl
  have HSM : Hid _ := hide hsm
  have HFM : Hid _ := hide hfm
  clear ho hp hpl hsm hfm
  obtain ⟨j0, hj0, hy0, hy1, hy2⟩ := info_parts infoDO
  have hv := huDO
  go_enter Tryz.func28, Tryz.ntmps28
  go_wp2
  go_loopw [7, 15] (fun v i wr => ∃ k : Nat, k ≤ keep.length ∧ i = .int .i64 (k : Int) ∧ Hid (Below w.heap.size w wr) ∧ Hid (wr.ownsRow w.heap.size 61 1 v k (((crsU ops keep).take k).flatMap opCells))) (fun v i wr => keep.length - (intOf i).toNat)
  case atStart => exact ⟨0, Nat.zero_le _, rfl, hide (Below.refl _ _), hide ⟨by simp, .inl ⟨rfl, rfl⟩⟩⟩
  case round =>
    obtain ⟨k, hk1, rfl, HX, HR⟩ := hrel
    obtain ⟨va, vc, rfl⟩ := row_shape HR.out
    by_cases hlt : k < keep.length
    · have hlt' : (k : Int) < (keep.length : Int) := by omega
      obtain ⟨b, off, rfl, hb, c0⟩ := pl_row (HP.out.below HX.out) k hlt
      obtain ⟨m, hm, hmo⟩ := pl_in HPL.out hlt
      have hmo' : (m : Int) < (ops.length : Int) := by omega
      obtain ⟨b2, off2, rfl, hb2, q0, q1, q2, q3⟩ := dp_row (HO.out.below HX.out) m hmo
      rw [hm] at c0
      have HNX : Hid _ := hide (crsU_next hlt hm hmo)
      have HSO : Hid (SmO ops[m]) := hide (HSM.out _ (List.getElem_mem hmo))
      clear hm hb hb2
      go_wp2_with fail
      refine (opOf_any ops[m] wr HSO.out).mono ?_
      rintro e w4 ⟨rfl, hb4⟩
      have HX4 : Hid _ := hide (below_trans HX.out hb4)
      have HR4 : Hid _ := hide (own_keep HR.out hb4)
      clear hb4 HX HR c0 q0 q1 q2 q3
      obtain ⟨ot, ox, hov⟩ := op_iface (HFM.out _ (List.getElem_mem hmo))
      rw [hov]
      have HVV : Hid _ := hide hov
      clear hov
      generalize formB ops[m] = fb at *
      go_wp2_with (first | (at_builtin; refine Shut2.mk ?_) | fail)
      refine Shut2.mk' ?_
      refine wpList_append_own_at _ rfl _ _ 58 rfl w.heap.size 61 j0 _ 1 16 hv hj0 hy0 hy1 hy2 rfl (by decide) (.slice va k vc) k (((crsU ops keep).take k).flatMap opCells) rfl ?own ⟨w4.heap.size, 0, none⟩ 1 1 [.iface ot ox] rfl rfl ?news (by simp [Value.oneCell']) (by unfold maxLen; omega) (by omega) ?base ?_
      case own => exact own_keep HR4.out (below_alloc (Below.refl _ _) _)
      case news => exact news1 (World.cell?_alloc_at _ _ _ _ rfl)
      case base => have := HX4.out.size; simp; omega
      intro v6 w6 ho6 hg6 _ _
      have HR6 : Hid (w6.ownsRow w.heap.size 61 1 v6 (k + 1) (((crsU ops keep).take (k + 1)).flatMap opCells)) := hide (by
        rw [HNX.out, List.flatMap_append]
        simpa [opCells, HVV.out] using ho6)
      have HX6 : Hid (Below w.heap.size w w6) := hide ((below_alloc HX4.out _).grown hg6 (by have := HX4.out.size; simp; omega) (fun j hj => own_base HR4.out j hj))
      clear HR4 ho6 hg6 HX4
      go_wp2
      exact ⟨⟨k + 1, by omega, by go_num, HX6, HR6⟩, by simp [intOf]; omega⟩
    · have hlt' : ¬ (k : Int) < (keep.length : Int) := by omega
      have ek : k = keep.length := by omega
      subst ek
      obtain ⟨g, a, cap, hg, he, how⟩ := own_of_row opLen (l := crsU ops keep) (w := wr) (base := w.heap.size) (e := 61) (v := .slice va keep.length vc) (by
        have := HR.out
        rw [List.take_of_length_le (by rw [crsU_len]; exact Nat.le_refl _)] at this
        rw [crsU_len]; exact this)
      simp only [Value.slice.injEq] at he
      obtain ⟨rfl, -, rfl⟩ := he
      by_cases hz : keep.length = 0
      · have HE : Hid (NewOps (crsO ops keep (n : Int)) w (.returned (.slice va keep.length vc)) wr) := hide ⟨HX.out, g, va, vc, hg, by rw [crs_len], by
          have e0 : crsO ops keep (n : Int) = [] := List.eq_nil_of_length_eq_zero (by rw [crs_len]; exact hz)
          rw [e0]; exact OwnRow.nil⟩
        have hw1 : IntKind.i64.wrap ((keep.length : Int) - 1) = (keep.length : Int) - 1 := wrap_less (by omega)
        have hw2 : ¬ (0 : Int) ≤ (keep.length : Int) - 1 := by omega
        have HZ : Hid _ := hide hz
        clear how HR hz hlt'
        go_wp2
        go_ret
        exact HE.out
      · obtain ⟨m, hm⟩ : ∃ m, keep.length = m + 1 := ⟨keep.length - 1, by omega⟩
        have hmk : m < keep.length := by omega
        obtain ⟨q, hq, hqo⟩ := pl_in HPL.out hmk
        obtain ⟨e1, hgl, c0, f0⟩ := own_op how m (by rw [crsU_len]; exact hmk)
        subst e1
        have e2 : (crsU ops keep)[m]'(by rw [crsU_len]; exact hmk) = ops[q] := by
          have := crsU_at hmk hq hqo
          rw [List.getElem?_eq_getElem (by rw [crsU_len]; exact hmk)] at this
          simpa using this
        rw [e2] at c0
        have HF : Hid (formB ops[q] = true) := hide (HFM.out _ (List.getElem_mem hqo))
        have HS : Hid (SmO ops[q]) := hide (HSM.out _ (List.getElem_mem hqo))
        have HE : Hid (∀ (w2 : World) (u : Value), Below wr.heap.size wr w2 → u = opV (tornO (n : Int) ops[q]) → NewOps (crsO ops keep (n : Int)) w (.returned (.slice (some ⟨g, 0, none⟩) keep.length vc)) (w2.setCell ⟨g, m, none⟩ u)) := hide (fun w2 u hb2 hu => kept_end hm hmk hq hqo HPL.out how HX.out hg hb2 hu)
        have HC : Hid _ := hide (And.intro c0 f0)
        have hm1 : IntKind.i64.wrap ((keep.length : Int) - 1) = (m : Int) := wrap_pred hm (by omega)
        have hm2 : (m : Int) < (keep.length : Int) := by omega
        have hm3 : (0 : Int) ≤ (m : Int) := by omega
        clear e2 how HR hz hlt' hm hq
        generalize ops[q] = o at *
        obtain ⟨kind, nm, tn, da⟩ := o
        have hs := HS.out
        obtain ⟨s1, s2, s3⟩ := hs
        simp only at s1 s2 s3
        rcases kind_of HF.out with kk | kk | kk
        · simp only at kk
          subst kk
          have eo : opV ⟨1, nm, tn, da⟩ = .iface 97 (.agg #[.string nm, .string da]) := rfl
          rw [eo] at c0
          go_wp2_with fail
          refine upon_invoke 107 #[.agg #[.string nm, .string da], .int .i64 (n : Int)] wr (by kernel_rfl) ?_
          rw [Oper.upon_enter]
          refine (appTorn_any nm da n wr s3).mono ?_
          rintro e w2 ⟨rfl, hb2⟩
          have HE2 : Hid _ := hide (HE.out w2 _ hb2 torn_app)
          have d0 := below_keeps hb2 _ _ HC.out.1
          have g0 : w2.frozen? ⟨g, m, none⟩ = false := (hb2.frozen hgl).trans HC.out.2
          clear hb2 c0 f0 HE
          go_wp2
          exact bodyPost_ret (v := .slice (some ⟨g, 0, none⟩) keep.length vc) (by simp [results, Tryz.results28, go_sem]) rfl HE2.out
        · simp only at kk
          subst kk
          have eo : opV ⟨2, nm, tn, da⟩ = .iface 99 (.agg #[.string nm, .string tn]) := rfl
          rw [eo] at c0
          go_wp2_with fail
          refine upon_invoke 112 #[.agg #[.string nm, .string tn], .int .i64 (n : Int)] wr (by kernel_rfl) ?_
          rw [Oper.upon_enter]
          refine (renTorn_any nm tn n wr).mono ?_
          rintro e w2 ⟨rfl, hb2⟩
          have HE2 : Hid _ := hide (HE.out w2 _ hb2 (eo.symm.trans (torn_other (fun z => by cases z))))
          have d0 := below_keeps hb2 _ _ HC.out.1
          have g0 : w2.frozen? ⟨g, m, none⟩ = false := (hb2.frozen hgl).trans HC.out.2
          clear hb2 c0 f0 HE
          go_wp2
          exact bodyPost_ret (v := .slice (some ⟨g, 0, none⟩) keep.length vc) (by simp [results, Tryz.results28, go_sem]) rfl HE2.out
        · simp only at kk
          subst kk
          have eo : opV ⟨3, nm, tn, da⟩ = .iface 101 (.agg #[.string nm]) := rfl
          rw [eo] at c0
          go_wp2_with fail
          refine upon_invoke 118 #[.agg #[.string nm], .int .i64 (n : Int)] wr (by kernel_rfl) ?_
          rw [Oper.upon_enter]
          refine (remTorn_any nm n wr).mono ?_
          rintro e w2 ⟨rfl, hb2⟩
          have HE2 : Hid _ := hide (HE.out w2 _ hb2 (eo.symm.trans (torn_other (fun z => by cases z))))
          have d0 := below_keeps hb2 _ _ HC.out.1
          have g0 : w2.frozen? ⟨g, m, none⟩ = false := (hb2.frozen hgl).trans HC.out.2
          clear hb2 c0 f0 HE
          go_wp2
          exact bodyPost_ret (v := .slice (some ⟨g, 0, none⟩) keep.length vc) (by simp [results, Tryz.results28, go_sem]) rfl HE2.out
end Go.Proofs.YtiilkkdbifhojaaGreat
/- The program's Crash. -/
namespace Go.Proofs.YtiilkkdbifhojaaGreat
open Go.ChangeShapes Go.WideShapes Go.ChangeAt Go.RowKit Go.Maps
set_option linter.unusedVariables false
set_option maxRecDepth 100000
/-- a new disk of the call's own, and whether it is one -/
def DiskKE (b : Bool) (L S : List Fl) (O : List Dp) (w : World) (e : Ending) (w' : World) : Prop := Below w.heap.size w w' ∧ ∃ (a1 a2 a3 : Option Addr) (c1 c2 c3 g1 g2 g3 : Nat), e = .returned (.tuple #[.agg #[.slice a1 L.length c1, .slice a2 S.length c2, .slice a3 O.length c3], .bool b]) ∧ OwnR w.heap.size w'.heap.size a1 a2 a3 c1 c2 c3 g1 g2 g3 L S O w'
theorem kzeroE {w y : World} {b : Bool} (hy : Below w.heap.size w y) :
    DiskKE b [] [] [] w (.returned (.tuple #[.agg #[.slice none 0 0, .slice none 0 0, .slice none 0 0], .bool b])) (((y.setCell ⟨w.heap.size + 1, 0, none⟩ (.slice none 0 0)).setCell ⟨w.heap.size + 1, 1, none⟩ (.slice none 0 0)).setCell ⟨w.heap.size + 1, 2, none⟩ (.slice none 0 0)) :=
  ⟨((hy.setCell (p := ⟨w.heap.size + 1, 0, none⟩) (by show w.heap.size ≤ w.heap.size + 1; omega) _).setCell (p := ⟨w.heap.size + 1, 1, none⟩) (by show w.heap.size ≤ w.heap.size + 1; omega) _).setCell (p := ⟨w.heap.size + 1, 2, none⟩) (by show w.heap.size ≤ w.heap.size + 1; omega) _, none, none, none, 0, 0, 0, 0, 0, 0, rfl, OwnR.none3⟩
theorem OwnR.move {lo lo' hi : Nat} {a1 a2 a3 : Option Addr} {c1 c2 c3 g1 g2 g3 : Nat} {live safe : List Fl} {ops : List Dp} {x y : World} (h : OwnR lo hi a1 a2 a3 c1 c2 c3 g1 g2 g3 live safe ops x) (hl : lo' ≤ lo) (e : ∀ g, lo ≤ g → y.heap[g]? = x.heap[g]?) : OwnR lo' hi a1 a2 a3 c1 c2 c3 g1 g2 g3 live safe ops y :=
  ⟨h.o1.keepB (fun p => e _ (h.i1 p).1), h.o2.keepB (fun p => e _ (h.i2 p).1), h.o3.keepB (fun p => e _ (h.i3 p).1), h.d12, h.d13, h.d23, fun p => ⟨Nat.le_trans hl (h.i1 p).1, (h.i1 p).2⟩, fun p => ⟨Nat.le_trans hl (h.i2 p).1, (h.i2 p).2⟩, fun p => ⟨Nat.le_trans hl (h.i3 p).1, (h.i3 p).2⟩⟩
/-- what the loop carries on -/
structure CrI (w : World) (B m g : Nat) (va : Option Addr) (vc : Nat) (os : List Dp) (N : Nat) (l : List Fl) (x : World) : Prop where
  bel : Below w.heap.size w x
  lo : w.heap.size + 2 ≤ B
  res : Blk (w.heap.size + 1) [.slice none 0 0, .slice none 0 0, .slice none 0 0] x
  sh : ∃ β, Shelf B m l β N x ∧ AwayS m l β g
  row : OwnRow 1 opCells x g va vc os
theorem CrI.below {w : World} {B m g : Nat} {va : Option Addr} {vc : Nat} {os : List Dp} {N : Nat} {l : List Fl} {x y : World} (h : CrI w B m g va vc os N l x) (b : Below x.heap.size x y) : CrI w B m g va vc os N l y := by
  obtain ⟨β, h1, h2⟩ := h.sh
  exact ⟨below_trans h.bel b, h.lo, h.res.below b, ⟨β, h1.below b, h2⟩, h.row.below b⟩
theorem CrI.mono {w : World} {B m g : Nat} {va : Option Addr} {vc : Nat} {os : List Dp} {N N' : Nat} {l : List Fl} {x : World} (h : CrI w B m g va vc os N l x) (hN : N ≤ N') : CrI w B m g va vc os N' l x := by
  obtain ⟨β, h1, h2⟩ := h.sh
  exact ⟨h.bel, h.lo, h.res, ⟨β, h1.mono hN, h2⟩, h.row⟩
theorem CrI.done {w : World} {B m g : Nat} {va : Option Addr} {vc : Nat} {os : List Dp} {N N' : Nat} {l l' : List Fl} {β : ByteArray → Bd} {x y : World} {e : Ending} (h : CrI w B m g va vc os N l x) (h0 : 0 < os.length) (haw : AwayS m l β g) (hd : DoneK B m N' l β l' x e y) : CrI w B m g va vc os N' l' y := by
  obtain ⟨_, hb, β', h1, h2, h3⟩ := hd
  obtain ⟨k1, k2⟩ := h3 g (h.row.lt h0) haw
  have := h.lo
  exact ⟨h.bel.trans (hb.mono (by omega)), h.lo, h.res.same (hb.block _ (by omega)) h2, ⟨β', h1, k2⟩, h.row.keepB (fun _ => k1)⟩
set_option maxHeartbeats 16000000 in
theorem implCrash_any (la sa oa ka : Option Addr) (lc sc oc kc : Nat) (live safe : List Fl) (ops : List Dp) (keep : List Int) (torn : Int) (w : World) (hm : SmD live safe ops) (hk0 : keep.length ≤ 1048576) (h : DkAt w la sa oa live safe ops) (hp : RowAt 1 i64Cells w ka keep) :
    Calls Tryz.prog 10 #[.agg #[.slice la live.length lc, .slice sa safe.length sc, .slice oa ops.length oc], .slice ka keep.length kc, .int .i64 torn] w fun e w' => DiskKE (crsB live safe ops keep torn) (crsL live safe ops keep torn) (crsL live safe ops keep torn) [] w e w' := by
  have HL : Hid _ := hide h
  have HP : Hid _ := hide hp
  have HM : Hid _ := hide hm
  have ho2 : ops.length ≤ 1048576 := hm.2.2.1
  clear h hm hp
  obtain ⟨w0, hwa⟩ : ∃ wa, wa = ((w.alloc (.cells #[.slice la live.length lc, .slice sa safe.length sc, .slice oa ops.length oc] 27)).alloc (.cells #[.slice none 0 0, .slice none 0 0, .slice none 0 0] 27)) := ⟨_, rfl⟩
  have HW : Hid (((w.alloc (.cells #[.slice la live.length lc, .slice sa safe.length sc, .slice oa ops.length oc] 27)).alloc (.cells #[.slice none 0 0, .slice none 0 0, .slice none 0 0] 27)) = w0) := hide hwa.symm
  have KX0 : Hid (Blk w.heap.size [.slice la live.length lc, .slice sa safe.length sc, .slice oa ops.length oc] w0) := hide (by rw [hwa]; exact Blk.new.alloc _)
  have KR0 : Hid (Blk (w.heap.size + 1) [.slice none 0 0, .slice none 0 0, .slice none 0 0] w0) := hide (by rw [hwa]; exact (by simpa using Blk.new (w := w.alloc (.cells #[.slice la live.length lc, .slice sa safe.length sc, .slice oa ops.length oc] 27)) (cur := [.slice none 0 0, .slice none 0 0, .slice none 0 0]) (T := 27)))
  have HX0 : Hid (Below w.heap.size w w0 ∧ w.heap.size + 2 ≤ w0.heap.size) := hide ⟨by rw [hwa]; exact below_alloc (below_alloc (Below.refl _ _) _) _, by rw [hwa]; simp⟩
  clear hwa
  go_enter Tryz.func10, Tryz.ntmps10
  go_wp2_with fail
  rw [HW.out]
  have hd0 := HL.out.below HX0.out.1
  refine (implDiskOk_any la sa oa lc sc oc live safe ops w0 HM.out.1.1 HM.out.2.1.1 HM.out.2.2.1 HM.out.1.f HM.out.2.1.f HM.out.2.2.2 hd0.r1 hd0.r2 hd0.r3).mono ?_
  rintro e w1 ⟨rfl, hb1⟩
  clear hd0
  have HX1 : Hid (Below w.heap.size w w1 ∧ w.heap.size + 2 ≤ w1.heap.size) := hide ⟨below_trans HX0.out.1 hb1, Nat.le_trans HX0.out.2 hb1.size⟩
  have KX1 : Hid _ := hide (KX0.out.below hb1)
  have KR1 : Hid _ := hide (KR0.out.below hb1)
  clear hb1 KX0 KR0 HX0
  have k0 := KX1.out.c 0 _ rfl
  have k1 := KX1.out.c 1 _ rfl
  have k2 := KX1.out.c 2 _ rfl
  cases hB : diskB ⟨live, safe, ops⟩
  · have e1 : crsB live safe ops keep torn = false := by simp [crsB, hB]
    have e2 := crs_no e1
    have HE : Hid (DiskKE (crsB live safe ops keep torn) (crsL live safe ops keep torn) (crsL live safe ops keep torn) [] w (.returned (.tuple #[.agg #[.slice none 0 0, .slice none 0 0, .slice none 0 0], .bool false])) (((w1.setCell ⟨w.heap.size + 1, 0, none⟩ (.slice none 0 0)).setCell ⟨w.heap.size + 1, 1, none⟩ (.slice none 0 0)).setCell ⟨w.heap.size + 1, 2, none⟩ (.slice none 0 0))) := hide (by
      rw [e1, e2]
      exact kzeroE (HX1.out.1))
    have HS : Hid (∃ Y, (((w1.setCell ⟨w.heap.size + 1, 0, none⟩ (.slice none 0 0)).setCell ⟨w.heap.size + 1, 1, none⟩ (.slice none 0 0)).setCell ⟨w.heap.size + 1, 2, none⟩ (.slice none 0 0)) = Y ∧ Blk (w.heap.size + 1) [.slice none 0 0, .slice none 0 0, .slice none 0 0] Y) := hide ⟨_, rfl, (((KR1.out).set 0 (.slice none 0 0) (by simp)).set 1 (.slice none 0 0) (by simp)).set 2 (.slice none 0 0) (by simp)⟩
    have y0 := (KR1.out).c 0 _ rfl
    have y1 := (KR1.out).c 1 _ rfl
    have y2 := (KR1.out).c 2 _ rfl
    have f0 := (KR1.out).f 0
    have f1 := (KR1.out).f 1
    have f2 := (KR1.out).f 2
    clear e1 e2
    go_wp2
    obtain ⟨Y, hY, kY⟩ := HS.out
    rw [hY] at HE ⊢
    have z0 := kY.c 0 _ rfl
    have z1 := kY.c 1 _ rfl
    have z2 := kY.c 2 _ rfl
    exact bodyPost_ret (v := .tuple #[.agg #[.slice none 0 0, .slice none 0 0, .slice none 0 0], .bool false]) (by simp [results, Tryz.results10, go_sem, z0, z1, z2]) rfl HE.out
  · have HB : Hid _ := hide hB
    clear hB
    go_wp2_with fail
    refine (placesOk_any ka keep kc ops.length w1 hk0 ho2 (HP.out.below HX1.out.1)).mono ?_
    rintro e w2 ⟨rfl, hw2⟩
    rw [hw2]
    clear hw2 w2
    cases hPl : placesB keep ops.length
    · have e1 : crsB live safe ops keep torn = false := by simp [crsB, hPl]
      have e2 := crs_no e1
      have HE : Hid (DiskKE (crsB live safe ops keep torn) (crsL live safe ops keep torn) (crsL live safe ops keep torn) [] w (.returned (.tuple #[.agg #[.slice none 0 0, .slice none 0 0, .slice none 0 0], .bool false])) (((w1.setCell ⟨w.heap.size + 1, 0, none⟩ (.slice none 0 0)).setCell ⟨w.heap.size + 1, 1, none⟩ (.slice none 0 0)).setCell ⟨w.heap.size + 1, 2, none⟩ (.slice none 0 0))) := hide (by
        rw [e1, e2]
        exact kzeroE (HX1.out.1))
      have HS : Hid (∃ Y, (((w1.setCell ⟨w.heap.size + 1, 0, none⟩ (.slice none 0 0)).setCell ⟨w.heap.size + 1, 1, none⟩ (.slice none 0 0)).setCell ⟨w.heap.size + 1, 2, none⟩ (.slice none 0 0)) = Y ∧ Blk (w.heap.size + 1) [.slice none 0 0, .slice none 0 0, .slice none 0 0] Y) := hide ⟨_, rfl, (((KR1.out).set 0 (.slice none 0 0) (by simp)).set 1 (.slice none 0 0) (by simp)).set 2 (.slice none 0 0) (by simp)⟩
      have y0 := (KR1.out).c 0 _ rfl
      have y1 := (KR1.out).c 1 _ rfl
      have y2 := (KR1.out).c 2 _ rfl
      have f0 := (KR1.out).f 0
      have f1 := (KR1.out).f 1
      have f2 := (KR1.out).f 2
      clear e1 e2
      go_wp2
      obtain ⟨Y, hY, kY⟩ := HS.out
      rw [hY] at HE ⊢
      have z0 := kY.c 0 _ rfl
      have z1 := kY.c 1 _ rfl
      have z2 := kY.c 2 _ rfl
      exact bodyPost_ret (v := .tuple #[.agg #[.slice none 0 0, .slice none 0 0, .slice none 0 0], .bool false]) (by simp [results, Tryz.results10, go_sem, z0, z1, z2]) rfl HE.out
    · by_cases ht : torn < 0
      · have e1 : crsB live safe ops keep torn = false := by simp [crsB, show ¬ 0 ≤ torn by omega]
        have e2 := crs_no e1
        have HE : Hid (DiskKE (crsB live safe ops keep torn) (crsL live safe ops keep torn) (crsL live safe ops keep torn) [] w (.returned (.tuple #[.agg #[.slice none 0 0, .slice none 0 0, .slice none 0 0], .bool false])) (((w1.setCell ⟨w.heap.size + 1, 0, none⟩ (.slice none 0 0)).setCell ⟨w.heap.size + 1, 1, none⟩ (.slice none 0 0)).setCell ⟨w.heap.size + 1, 2, none⟩ (.slice none 0 0))) := hide (by
          rw [e1, e2]
          exact kzeroE (HX1.out.1))
        have HS : Hid (∃ Y, (((w1.setCell ⟨w.heap.size + 1, 0, none⟩ (.slice none 0 0)).setCell ⟨w.heap.size + 1, 1, none⟩ (.slice none 0 0)).setCell ⟨w.heap.size + 1, 2, none⟩ (.slice none 0 0)) = Y ∧ Blk (w.heap.size + 1) [.slice none 0 0, .slice none 0 0, .slice none 0 0] Y) := hide ⟨_, rfl, (((KR1.out).set 0 (.slice none 0 0) (by simp)).set 1 (.slice none 0 0) (by simp)).set 2 (.slice none 0 0) (by simp)⟩
        have y0 := (KR1.out).c 0 _ rfl
        have y1 := (KR1.out).c 1 _ rfl
        have y2 := (KR1.out).c 2 _ rfl
        have f0 := (KR1.out).f 0
        have f1 := (KR1.out).f 1
        have f2 := (KR1.out).f 2
        clear e1 e2
        go_wp2
        obtain ⟨Y, hY, kY⟩ := HS.out
        rw [hY] at HE ⊢
        have z0 := kY.c 0 _ rfl
        have z1 := kY.c 1 _ rfl
        have z2 := kY.c 2 _ rfl
        exact bodyPost_ret (v := .tuple #[.agg #[.slice none 0 0, .slice none 0 0, .slice none 0 0], .bool false]) (by simp [results, Tryz.results10, go_sem, z0, z1, z2]) rfl HE.out
      · obtain ⟨n, rfl⟩ : ∃ n : Nat, torn = (n : Int) := ⟨torn.toNat, by omega⟩
        have HPL : Hid _ := hide hPl
        clear hPl
        have HF : Hid (filesB safe = true) := hide (diskB_parts HB.out).2.1
        have HOL : Hid (ops.length ≤ 200) := hide (diskB_parts HB.out).2.2
        have HKL : Hid (keep.length ≤ 200) := hide (Nat.le_trans (places_len HPL.out) HOL.out)
        have hs60 : safe.length ≤ 60 := (filesB_parts HF.out).1
        go_wp2_with fail
        refine (shelfOf_any sa safe sc w1 hs60 HM.out.2.1.f.g0 (filesB_srt HF.out) (HL.out.r2.below HX1.out.1)).mono ?_
        rintro e w2 ⟨hb2, m, β0, rfl, hsh⟩
        have KX2 := KX1.out.below hb2
        have k3 := KX2.c 0 _ rfl
        have k4 := KX2.c 1 _ rfl
        have k5 := KX2.c 2 _ rfl
        have HS2 : Hid _ := hide hsh
        have HX2 : Hid _ := hide (below_trans HX1.out.1 hb2)
        have KR2 : Hid _ := hide (KR1.out.below hb2)
        clear hb2 hsh k0 k1 k2 KX1 KX2
        go_wp2_with fail
        refine (keptOps_any oa ka oc kc ops keep n w2 HKL.out HOL.out HPL.out HM.out.2.2.2 (fun o ho => (disk_small HB.out o ho).1) (HL.out.r3.below HX2.out) (HP.out.below HX2.out)).mono ?_
        rintro e w3 ⟨hb3, g, va, vc, hg, rfl, how⟩
        have HSM : Hid _ := hide (crs_small (torn := (n : Int)) HB.out HPL.out)
        have HLN : Hid _ := hide (crs_len ops keep (n : Int))
        have HC1 : Hid (∀ b, filesB (goL safe (crsO ops keep (n : Int))) = b → crsB live safe ops keep (n : Int) = b) := hide (fun b q => by simp [crsB, HB.out, HPL.out, q])
        have HC2 : Hid (filesB (goL safe (crsO ops keep (n : Int))) = true → crsL live safe ops keep (n : Int) = goL safe (crsO ops keep (n : Int))) := hide (fun q => by simp [crsL, HC1.out true q])
        have HC3 : Hid (filesB (goL safe (crsO ops keep (n : Int))) = false → crsL live safe ops keep (n : Int) = []) := hide (fun q => crs_no (HC1.out false q))
        have HI : Hid (CrI w w1.heap.size m g va vc (crsO ops keep (n : Int)) (safe.length + 0) (goL safe ((crsO ops keep (n : Int)).take 0)) w3) := hide (by
          have hs2 := HS2.out
          refine ⟨below_trans HX2.out hb3, HX1.out.2, KR2.out.below hb3, ⟨β0, ?_, ?_, fun f hf => ?_⟩, how⟩
          · simpa [goL] using hs2.below hb3
          · have := hs2.lt; omega
          · have hf2 : f ∈ safe := by simpa [goL] using hf
            intro q
            have := (hs2.rows f hf2).lt g q
            omega)
        clear hb3 how hg k3 k4 k5
        generalize crsO ops keep (n : Int) = os at *
        generalize w1.heap.size = B at *
        have hos : os.length ≤ 200 := by rw [HLN.out]; exact HKL.out
        have HBD : Hid _ := hide (goL_bd (filesB_srt HF.out) (filesB_parts HF.out).2.2 hs60 os (fun o ho => (HSM.out o ho).2))
        have HNM : Hid _ := hide (goL_nms os (fun f hf => filesB_nms HF.out f hf) (fun o ho => (HSM.out o ho).1))
        go_wp2
        go_loopw [36] (fun i wr => ∃ k : Nat, k ≤ os.length ∧ i = .int .i64 (k : Int) ∧ Hid (CrI w B m g va vc os (safe.length + k) (goL safe (os.take k)) wr)) (fun i wr => os.length - (intOf i).toNat)
        case atStart => exact ⟨0, Nat.zero_le _, rfl, HI⟩
        case round =>
          clear HI HS2 KR2 HX1 KR1 HX2
          obtain ⟨k, hk, rfl, HI⟩ := hrel
          by_cases hlt : k < os.length
          · have hlt' : (k : Int) < (os.length : Int) := by omega
            obtain ⟨e1, hgl, c0, _⟩ := own_op HI.out.row k hlt
            subst e1
            have HGN : Hid _ := hide (goL_next safe os k hlt)
            have HOK : Hid _ := hide (HSM.out os[k] (List.getElem_mem hlt))
            have HB1 : Hid _ := hide (HBD.out k (by omega))
            have h0 : 0 < os.length := by omega
            generalize goL safe (os.take k) = G0 at *
            generalize os[k] = o at *
            obtain ⟨kind, nm, tn, da⟩ := o
            obtain ⟨hf1, hda⟩ := HOK.out
            simp only at hda
            have hnm : nm.size ≤ 100 := by
              simp only [formB, nmB, inB, Bool.and_eq_true, decide_eq_true_eq] at hf1
              omega
            have htn : kind = 2 → tn.size ≤ 100 := fun q => by
              subst q
              simp only [formB, nmB, inB, Bool.and_eq_true, decide_eq_true_eq, beq_self_eq_true, if_true] at hf1
              omega
            have hdz : datL G0 ≤ 1000000000 := by have := HB1.out.2.2; omega
            obtain ⟨β, hsh, haw⟩ := HI.out.sh
            have HSH : Hid _ := hide hsh
            have HAW : Hid _ := hide haw
            clear hsh haw
            rcases kind_of hf1 with kk | kk | kk
            · simp only at kk
              subst kk
              have HG : Hid ((goL safe (os.take (k + 1))) = putL G0 nm (appD G0 nm da)) := hide (by rw [HGN.out, do_app])
              have eo : opV ⟨1, nm, tn, da⟩ = .iface 97 (.agg #[.string nm, .string da]) := rfl
              rw [eo] at c0
              clear HGN htn hf1 HOK
              go_wp2_with fail
              refine upon_invoke 105 #[.agg #[.string nm, .string da], .map (some m)] wr (by kernel_rfl) ?_
              rw [Oper.upon_enter]
              refine (appFinds_any nm da m wr).mono ?_
              rintro e x1 ⟨rfl, hb1⟩
              have HI1 : Hid _ := hide (HI.out.below hb1)
              have HSH1 : Hid _ := hide (HSH.out.below hb1)
              clear hb1 HI HSH c0
              go_wp2_with fail
              refine upon_invoke 104 #[.agg #[.string nm, .string da], .map (some m)] x1 (by kernel_rfl) ?_
              rw [Oper.upon_enter]
              refine (appDo2_any B m (safe.length + k) G0 β nm da x1 (by omega) (by omega) (by omega) hdz HSH1.out).mono ?_
              intro e x2 hdn
              have HI2 : Hid (CrI w B m g (some ⟨g, 0, none⟩) vc os (safe.length + (k + 1)) (goL safe (os.take (k + 1))) x2) := hide (by rw [HG.out]; exact HI1.out.done h0 HAW.out hdn)
              obtain ⟨rfl, -⟩ := hdn
              clear HI1 HSH1
              go_wp2
              exact ⟨⟨k + 1, by omega, by go_num, HI2⟩, by simp [intOf]; omega⟩
            · simp only at kk
              subst kk
              have eo : opV ⟨2, nm, tn, da⟩ = .iface 99 (.agg #[.string nm, .string tn]) := rfl
              rw [eo] at c0
              have ht2 := htn rfl
              clear htn hf1 HOK
              go_wp2_with fail
              refine upon_invoke 110 #[.agg #[.string nm, .string tn], .map (some m)] wr (by kernel_rfl) ?_
              rw [Oper.upon_enter]
              refine (renFinds_any B m (safe.length + k) G0 β nm tn wr (by omega) HSH.out).mono ?_
              rintro e x1 ⟨rfl, hb1⟩
              have HI1 : Hid _ := hide (HI.out.below hb1)
              have HSH1 : Hid _ := hide (HSH.out.below hb1)
              clear hb1 HI HSH c0
              cases hh : hasN G0 nm
              · have HI2 : Hid (CrI w B m g (some ⟨g, 0, none⟩) vc os (safe.length + (k + 1)) (goL safe (os.take (k + 1))) x1) := hide (by
                  rw [HGN.out, do_ren, hh]
                  exact HI1.out.mono (by omega))
                clear HI1 HSH1 HGN hh
                go_wp2
                exact ⟨⟨k + 1, by omega, by go_num, HI2⟩, by simp [intOf]; omega⟩
              · have HG : Hid ((goL safe (os.take (k + 1))) = putL (cutL G0 nm) tn (dataL G0 nm)) := hide (by rw [HGN.out, do_ren, hh]; rfl)
                have HHH : Hid _ := hide hh
                clear HGN hh
                go_wp2_with fail
                refine upon_invoke 109 #[.agg #[.string nm, .string tn], .map (some m)] x1 (by kernel_rfl) ?_
                rw [Oper.upon_enter]
                refine (renDo2_any B m (safe.length + k) G0 β nm tn x1 (by omega) (by omega) (by omega) HHH.out HSH1.out).mono ?_
                intro e x2 hdn
                have HI2 : Hid (CrI w B m g (some ⟨g, 0, none⟩) vc os (safe.length + (k + 1)) (goL safe (os.take (k + 1))) x2) := hide (by rw [HG.out]; exact HI1.out.done h0 HAW.out hdn)
                obtain ⟨rfl, -⟩ := hdn
                clear HI1 HSH1
                go_wp2
                exact ⟨⟨k + 1, by omega, by go_num, HI2⟩, by simp [intOf]; omega⟩
            · simp only at kk
              subst kk
              have eo : opV ⟨3, nm, tn, da⟩ = .iface 101 (.agg #[.string nm]) := rfl
              rw [eo] at c0
              clear htn hf1 HOK
              go_wp2_with fail
              refine upon_invoke 116 #[.agg #[.string nm], .map (some m)] wr (by kernel_rfl) ?_
              rw [Oper.upon_enter]
              refine (remFinds_any B m (safe.length + k) G0 β nm wr (by omega) HSH.out).mono ?_
              rintro e x1 ⟨rfl, hb1⟩
              have HI1 : Hid _ := hide (HI.out.below hb1)
              have HSH1 : Hid _ := hide (HSH.out.below hb1)
              clear hb1 HI HSH c0
              cases hh : hasN G0 nm
              · have HI2 : Hid (CrI w B m g (some ⟨g, 0, none⟩) vc os (safe.length + (k + 1)) (goL safe (os.take (k + 1))) x1) := hide (by
                  rw [HGN.out, do_rem, hh]
                  exact HI1.out.mono (by omega))
                clear HI1 HSH1 HGN hh
                go_wp2
                exact ⟨⟨k + 1, by omega, by go_num, HI2⟩, by simp [intOf]; omega⟩
              · have HG : Hid ((goL safe (os.take (k + 1))) = cutL G0 nm) := hide (by rw [HGN.out, do_rem, hh]; rfl)
                have HHH : Hid _ := hide hh
                clear HGN hh
                go_wp2_with fail
                refine upon_invoke 115 #[.agg #[.string nm], .map (some m)] x1 (by kernel_rfl) ?_
                rw [Oper.upon_enter]
                refine (remDo2_any B m (safe.length + k) G0 β nm x1 (by omega) HSH1.out).mono ?_
                intro e x2 hdn
                have HI2 : Hid (CrI w B m g (some ⟨g, 0, none⟩) vc os (safe.length + (k + 1)) (goL safe (os.take (k + 1))) x2) := hide (by rw [HG.out]; exact (HI1.out.done h0 HAW.out hdn).mono (by omega))
                obtain ⟨rfl, -⟩ := hdn
                clear HI1 HSH1
                go_wp2
                exact ⟨⟨k + 1, by omega, by go_num, HI2⟩, by simp [intOf]; omega⟩
          · have hlt' : ¬ (k : Int) < (os.length : Int) := by omega
            have ek : k = os.length := by omega
            subst ek
            have HB1 : Hid _ := hide (HBD.out os.length (Nat.le_refl _))
            have HN1 : Hid _ := hide (HNM.out os.length (Nat.le_refl _))
            rw [List.take_length] at HI HB1 HN1
            have HFF : Hid _ := hide (fit_files HB1.out.1 HN1.out)
            have hdz : datL (goL safe os) ≤ 1000000000 := by have := HB1.out.2.2; omega
            have hgl : (goL safe os).length ≤ 1000 := by have := HB1.out.2.1; omega
            obtain ⟨β, hsh, -⟩ := HI.out.sh
            have HSH : Hid _ := hide hsh
            clear hsh HBD HNM HB1 HN1
            generalize goL safe os = G at *
            go_wp2_with fail
            refine (fits_any B m (safe.length + os.length) G β wr hdz HSH.out).mono ?_
            rintro e x1 ⟨rfl, hb1⟩
            have HI1 : Hid _ := hide (HI.out.below hb1)
            have HSH1 : Hid _ := hide (HSH.out.below hb1)
            clear hb1 HI HSH
            rw [← HFF.out]
            cases hff : filesB G
            · have e1 : crsB live safe ops keep (n : Int) = false := HC1.out false hff
              have e2 := HC3.out hff
              have HE : Hid (DiskKE (crsB live safe ops keep (n : Int)) (crsL live safe ops keep (n : Int)) (crsL live safe ops keep (n : Int)) [] w (.returned (.tuple #[.agg #[.slice none 0 0, .slice none 0 0, .slice none 0 0], .bool false])) (((x1.setCell ⟨w.heap.size + 1, 0, none⟩ (.slice none 0 0)).setCell ⟨w.heap.size + 1, 1, none⟩ (.slice none 0 0)).setCell ⟨w.heap.size + 1, 2, none⟩ (.slice none 0 0))) := hide (by
                rw [e1, e2]
                exact kzeroE (HI1.out.bel))
              have HS : Hid (∃ Y, (((x1.setCell ⟨w.heap.size + 1, 0, none⟩ (.slice none 0 0)).setCell ⟨w.heap.size + 1, 1, none⟩ (.slice none 0 0)).setCell ⟨w.heap.size + 1, 2, none⟩ (.slice none 0 0)) = Y ∧ Blk (w.heap.size + 1) [.slice none 0 0, .slice none 0 0, .slice none 0 0] Y) := hide ⟨_, rfl, (((HI1.out.res).set 0 (.slice none 0 0) (by simp)).set 1 (.slice none 0 0) (by simp)).set 2 (.slice none 0 0) (by simp)⟩
              have y0 := (HI1.out.res).c 0 _ rfl
              have y1 := (HI1.out.res).c 1 _ rfl
              have y2 := (HI1.out.res).c 2 _ rfl
              have f0 := (HI1.out.res).f 0
              have f1 := (HI1.out.res).f 1
              have f2 := (HI1.out.res).f 2
              clear e1 e2
              go_wp2
              obtain ⟨Y, hY, kY⟩ := HS.out
              rw [hY] at HE ⊢
              have z0 := kY.c 0 _ rfl
              have z1 := kY.c 1 _ rfl
              have z2 := kY.c 2 _ rfl
              exact bodyPost_ret (v := .tuple #[.agg #[.slice none 0 0, .slice none 0 0, .slice none 0 0], .bool false]) (by simp [results, Tryz.results10, go_sem, z0, z1, z2]) rfl HE.out
            · have HC : Hid _ := hide (And.intro (HC1.out true hff) (HC2.out hff))
              clear hff
              go_wp2_with fail
              refine (files_any B m (safe.length + os.length) G β x1 hgl (by omega) hdz HSH1.out).mono ?_
              rintro e x2 ⟨hb2, v2, rfl, ho2⟩
              obtain ⟨fa, fc, rfl, hfr, hfc⟩ := own_read ho2
              have HI2 : Hid _ := hide (HI1.out.below hb2)
              have HFR : Hid _ := hide (And.intro hfr hfc)
              clear ho2 hb2 hfr hfc HI1 HSH1
              go_wp2_with fail
              refine (resting_any fa G fc x2 (by omega) HFR.out.2 HFR.out.1).mono ?_
              rintro e x3 ⟨hb3, a1, a2, a3, c1, c2, c3, g1, g2, g3, rfl, -, R⟩
              have HI3 : Hid _ := hide (HI2.out.below hb3)
              have y0 := HI3.out.res.c 0 _ rfl
              have y1 := HI3.out.res.c 1 _ rfl
              have y2 := HI3.out.res.c 2 _ rfl
              have f0 := HI3.out.res.f 0
              have f1 := HI3.out.res.f 1
              have f2 := HI3.out.res.f 2
              have HE : Hid (DiskKE (crsB live safe ops keep (n : Int)) (crsL live safe ops keep (n : Int)) (crsL live safe ops keep (n : Int)) [] w (.returned (.tuple #[.agg #[.slice a1 G.length c1, .slice a2 G.length c2, .slice a3 0 c3], .bool true])) (((x3.setCell ⟨w.heap.size + 1, 0, none⟩ (.slice a1 G.length c1)).setCell ⟨w.heap.size + 1, 1, none⟩ (.slice a2 G.length c2)).setCell ⟨w.heap.size + 1, 2, none⟩ (.slice a3 0 c3))) := hide (by
                rw [HC.out.1, HC.out.2]
                refine ⟨((HI3.out.bel.setCell (p := ⟨w.heap.size + 1, 0, none⟩) (by show w.heap.size ≤ w.heap.size + 1; omega) _).setCell (p := ⟨w.heap.size + 1, 1, none⟩) (by show w.heap.size ≤ w.heap.size + 1; omega) _).setCell (p := ⟨w.heap.size + 1, 2, none⟩) (by show w.heap.size ≤ w.heap.size + 1; omega) _, a1, a2, a3, c1, c2, c3, g1, g2, g3, rfl, ?_⟩
                have l2 := HI2.out.res.lt
                have l3 := HI2.out.bel.size
                rw [size_setCell, size_setCell, size_setCell]
                exact R.move (by omega) (fun q hq => by rw [set_block _ _ (by omega), set_block _ _ (by omega), set_block _ _ (by omega)]))
              have HS : Hid (∃ Y, (((x3.setCell ⟨w.heap.size + 1, 0, none⟩ (.slice a1 G.length c1)).setCell ⟨w.heap.size + 1, 1, none⟩ (.slice a2 G.length c2)).setCell ⟨w.heap.size + 1, 2, none⟩ (.slice a3 0 c3)) = Y ∧ Blk (w.heap.size + 1) [.slice a1 G.length c1, .slice a2 G.length c2, .slice a3 0 c3] Y) := hide ⟨_, rfl, (((HI3.out.res).set 0 (.slice a1 G.length c1) (by simp)).set 1 (.slice a2 G.length c2) (by simp)).set 2 (.slice a3 0 c3) (by simp)⟩
              clear R hb3
              go_wp2
              obtain ⟨Y, hY, kY⟩ := HS.out
              rw [hY] at HE ⊢
              have z0 := kY.c 0 _ rfl
              have z1 := kY.c 1 _ rfl
              have z2 := kY.c 2 _ rfl
              exact bodyPost_ret (v := .tuple #[.agg #[.slice a1 G.length c1, .slice a2 G.length c2, .slice a3 0 c3], .bool true]) (by simp [results, Tryz.results10, go_sem, z0, z1, z2]) rfl HE.out
end Go.Proofs.YtiilkkdbifhojaaGreat
