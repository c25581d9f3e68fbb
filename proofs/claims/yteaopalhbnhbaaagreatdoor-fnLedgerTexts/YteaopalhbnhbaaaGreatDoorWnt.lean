/- The reader of texts: what it wants, where a text begins, words, numbers, kinds. -/
import Derived.Test.YteaopalhbnhbaaaGreatDoorGo
import Derived.Test.YteaopalhbnhbaaaGreatDoorLib
import Derived.Test.YteaopalhbnhbaaaGreatDoorPl
import Derived.Lib.AppendIntMem
namespace Go.Proofs.YteaopalhbnhbaaaGreatDoor
open Go.ChangeShapes Go.WideShapes Go.ChangeAt Go.RowKit
set_option linter.unusedVariables false
set_option maxRecDepth 100000
/-- the table of the library, as its text lays it -/
def Tab (w : World) : Prop := Lib.TabIs Tryz.prog w "internal/strconv.uint64pow10" .u64 Lib.pow10Tab
theorem Tab.below {w w' : World} (h : Tab w) (b : Below w.heap.size w w') : Tab w' := (Lib.tabBelow_of_tabIs h) w' b
theorem grow_below (w : World) (k : Nat) (os : Array Obj) : Below w.heap.size w (Sort.grow (w.drewN k) os) := by
  have h := below_drewN (Below.refl w.heap.size w) k
  refine ⟨h.os, h.tape, h.output, ?_, fun j hj => ?_⟩
  · have := h.size
    simp only [Sort.grow, Array.size_append]
    omega
  · have hj' : j < (w.drewN k).heap.size := Nat.lt_of_lt_of_le hj h.size
    rw [← h.block j hj]
    simp only [Sort.grow]
    exact Array.getElem?_append_left hj'
theorem numberText_any (n : Int) (w : World) (h0 : -9223372036854775808 ≤ n) (h1 : n ≤ 9223372036854775807) (ht : Tab w) :
    Calls Tryz.prog 21 #[.int .i64 n] w fun e w' => e = .returned (.string (bs (Lib.itoa n))) ∧ Below w.heap.size w w' := by
  go_enter Tryz.func21, Tryz.ntmps21
  go_wp2_with fail
  refine (Tryz.strconv_FormatInt_10 n h0 h1 w ht).mono ?_
  rintro e w1 ⟨rfl, k, os, rfl⟩
  have HB : Hid _ := hide (grow_below w k os)
  generalize Sort.grow (w.drewN k) os = w1 at *
  go_wp2
  go_ret
  exact ⟨rfl, HB.out⟩
/-- what the listed variables hold -/
structure Env (t : TypeId) (v : Value) (w : World) : Prop where
  tab : Tab w
  gave : w.cell? ⟨0, 0, none⟩ = some (.iface t v)
  syn : ∃ a b, w.cell? ⟨6, 0, none⟩ = some (.iface a b)
  rng : ∃ a b, w.cell? ⟨7, 0, none⟩ = some (.iface a b)
theorem Env.below {t : TypeId} {v : Value} {w w' : World} (h : Env t v w) (b : Below w.heap.size w w') : Env t v w' :=
  ⟨h.tab.below b, below_keeps b _ _ h.gave, by obtain ⟨x, y, z⟩ := h.syn; exact ⟨x, y, below_keeps b _ _ z⟩, by obtain ⟨x, y, z⟩ := h.rng; exact ⟨x, y, below_keeps b _ _ z⟩⟩
/-- the chain of a reader that gives up -/
def gaveUp (t : TypeId) (v : Value) : Ending := .panicked [{ v := .iface t v, recovered := false }]
theorem want_yes (p : Value) (w : World) : Calls Tryz.prog 57 #[p, .bool true] w fun e w' => e = .returned (.tuple #[]) ∧ w' = w := by
  go_enter Tryz.func57, Tryz.ntmps57
  go_wp2
  go_end0
  exact ⟨rfl, rfl⟩
theorem want_no (p : Value) (t : TypeId) (v : Value) (w : World) (h : Env t v w) : Calls Tryz.prog 57 #[p, .bool false] w fun e w' => e = gaveUp t v ∧ w' = w := by
  have hg := h.gave
  go_enter Tryz.func57, Tryz.ntmps57
  go_wp2
  exact ⟨rfl, rfl, rfl⟩
/-- a reader at work: below the first world's end all stands; what is left to be read -/
structure Rg (w0 : World) (B : Nat) (l : List UInt8) (x : World) : Prop where
  b : Below w0.heap.size w0 x
  hB : w0.heap.size ≤ B
  r : Blk B [.string (bs l)] x
/-- the reader alone has turned -/
def RdTo (B : Nat) (l : List UInt8) (x y : World) : Prop := Blk B [.string (bs l)] y ∧ Fr [B] x y
theorem Rg.tor {w0 : World} {B : Nat} {l l' : List UInt8} {x y : World} (h : Rg w0 B l x) (k : RdTo B l' x y) : Rg w0 B l' y := by
  refine ⟨?_, h.hB, k.1⟩
  have hs := h.b.size
  have f := k.2
  refine ⟨f.os.trans h.b.os, f.tape.trans h.b.tape, f.output.trans h.b.output, Nat.le_trans hs f.size, fun i hi => ?_⟩
  rw [f.block i (by omega) (by have := h.hB; simp; omega)]
  exact h.b.block i hi
theorem RdTo.trans {B : Nat} {l l' : List UInt8} {x y z : World} (h : RdTo B l x y) (k : RdTo B l' y z) : RdTo B l' x z := ⟨k.1, h.2.trans k.2 (fun b hb => .inl hb)⟩
theorem RdTo.below {B : Nat} {l : List UInt8} {x y z : World} (h : RdTo B l x y) (k : Below y.heap.size y z) : RdTo B l x z := ⟨h.1.below k, h.2.trans (G := []) (Fr.below k) (fun b hb => by cases hb)⟩
theorem RdTo.start {B : Nat} {l : List UInt8} {x y : World} (h : Blk B [.string (bs l)] x) (k : Below x.heap.size x y) : RdTo B l x y := ⟨h.below k, Fr.below k⟩
theorem RdTo.set {B : Nat} {l l' : List UInt8} {x y : World} (h : RdTo B l x y) : RdTo B l' x (y.setCell ⟨B, 0, none⟩ (.string (bs l'))) := ⟨h.1.set 0 _ (by simp), h.2.set (.inl (by simp))⟩
theorem Rg.env {t : TypeId} {v : Value} {w0 : World} {B : Nat} {l : List UInt8} {x : World} (h : Rg w0 B l x) (E : Env t v w0) : Env t v x := E.below h.b
theorem trim_bs (a b : List UInt8) : (⟨(Lib.trimPrefix a b).toArray⟩ : ByteArray) = bs (Lib.trimPrefix a b) := rfl
set_option maxHeartbeats 1000000 in
theorem begins_any (B : Nat) (l hd : List UInt8) (w : World) (h : Blk B [.string (bs l)] w) :
    Calls Tryz.prog 58 #[.pointer (some ⟨B, 0, none⟩), .string (bs hd)] w fun e w' => e = .returned (.bool (Lib.hasPrefix l hd)) ∧ RdTo B (Lib.trimPrefix l hd) w w' := by
  have c0 := h.c 0 _ rfl
  have f0 := h.f 0
  have HB : Hid _ := hide h
  clear h
  go_enter Tryz.func58, Tryz.ntmps58
  go_wp2_with fail
  refine (Tryz.strings_CutPrefix (bs l) (bs hd) w).mono ?_
  rintro e w1 ⟨rfl, hw⟩
  rw [hw]
  clear hw
  rw [bs_list, bs_list, trim_bs]
  go_wp2
  go_ret
  exact ⟨rfl, (RdTo.start HB.out (Below.refl _ _)).set⟩
end Go.Proofs.YteaopalhbnhbaaaGreatDoor
