/- Disks as data: files, what is asked of a disk, and what is right. -/
import Derived.Test.YtiilkkdbifhojaaInv2
import Derived.Lib.Strings
namespace Go.Proofs.Ytiilkkdbifhojaa
open Go.ChangeShapes Go.WideShapes Go.ChangeAt Go.RowKit
set_option linter.unusedVariables false
theorem row_shape {w : World} {base : Nat} {e : TypeId} {size : Nat} {v : Value} {n : Nat} {xs : List Value} (h : w.ownsRow base e size v n xs) : ∃ a c, v = .slice a n c := by
  obtain ⟨_, ⟨h0, h1⟩ | ⟨g, cap, cur, h1, _⟩⟩ := h
  · exact ⟨none, 0, by rw [h0, h1]⟩
  · exact ⟨_, _, h1⟩
theorem own_base {x : World} {base : Nat} {e : TypeId} {sz : Nat} {v : Value} {n : Nat} {xs : List Value} (h : x.ownsRow base e sz v n xs) : ∀ g, v.ownBlock = some g → base ≤ g := by
  intro g hg
  obtain ⟨hl, ⟨h0, h1⟩ | ⟨g', cap, cur, h1, hb, _⟩⟩ := h
  · rw [h0] at hg; cases hg
  · rw [h1] at hg
    simp only [Value.ownBlock, Option.some.injEq] at hg
    omega
theorem own_keep {x y : World} {base : Nat} {e : TypeId} {sz : Nat} {v : Value} {n : Nat} {xs : List Value} (h : x.ownsRow base e sz v n xs) (b : Below x.heap.size x y) : y.ownsRow base e sz v n xs := by
  obtain ⟨hl, ⟨h0, h1⟩ | ⟨g, cap, cur, h1, hb, hg, r⟩⟩ := h
  · exact ⟨hl, .inl ⟨h0, h1⟩⟩
  · exact ⟨hl, .inr ⟨g, cap, cur, h1, hb, (b.block g (Array.getElem?_eq_some_iff.1 hg).1).trans hg, r⟩⟩
theorem beq_bytes {a b : ByteArray} : (a.toList == b.toList) = true ↔ a = b := by
  rw [Lib.toList_data, Lib.toList_data, beq_iff_eq]
  exact ⟨fun e => ByteArray.ext (Array.toList_inj.1 e), fun e => by rw [e]⟩
theorem beq_no {a b : ByteArray} (h : ¬ a = b) : (a.toList == b.toList) = false := by
  cases e : (a.toList == b.toList) with
  | false => rfl
  | true => exact absurd (beq_bytes.1 e) h
theorem less_eq : ∀ (x y : List UInt8), Op.bytesLess x y = decide (x < y)
  | [], [] => rfl
  | [], _ :: _ => rfl
  | _ :: _, [] => rfl
  | a :: s, b :: t => by
    rw [Op.bytesLess, less_eq s t, Bool.eq_iff_iff]
    simp [List.cons_lt_cons_iff]
theorem wrap_pred {k m : Nat} (h : k = m + 1) (hk : k ≤ 1048576) : IntKind.i64.wrap ((k : Int) - 1) = (m : Int) := by
  rw [show (k : Int) - 1 = (m : Int) by omega]; simp only [IntKind.wrap, IntKind.signed, IntKind.bits]; simp; omega
def allTo (f : Nat → Bool) : Nat → Bool
  | 0 => true
  | n + 1 => allTo f n && f n
theorem allTo_false {f : Nat → Bool} {n k : Nat} (h : k < n) (hf : f k = false) : allTo f n = false := by
  induction n with
  | zero => omega
  | succ n ih =>
    simp only [allTo]
    rcases Nat.lt_or_ge k n with h1 | h1
    · rw [ih h1]; rfl
    · obtain rfl : k = n := by omega
      rw [hf, Bool.and_false]
theorem allTo_step {f : Nat → Bool} {k : Nat} (h : allTo f k = true) (hf : f k = true) : allTo f (k + 1) = true := by simp [allTo, h, hf]
theorem allTo_get {f : Nat → Bool} {n k : Nat} (h : allTo f n = true) (hk : k < n) : f k = true := by
  induction n with
  | zero => omega
  | succ n ih =>
    simp only [allTo, Bool.and_eq_true] at h
    rcases Nat.lt_or_ge k n with h1 | h1
    · exact ih h.1 h1
    · obtain rfl : k = n := by omega
      exact h.2
/-- a file -/
structure Fl where
  nm : ByteArray
  da : ByteArray
deriving DecidableEq
def flCells (f : Fl) : List Value := [.string f.nm, .string f.da]
theorem flLen (x : Fl) : (flCells x).length = 2 := rfl
theorem fl_one (l : List Fl) : ∀ u ∈ l.flatMap flCells, u.oneCell' = true := fun u hu => by
  obtain ⟨x, _, hx⟩ := List.mem_flatMap.1 hu
  simp only [flCells, List.mem_cons, List.not_mem_nil, or_false] at hx
  rcases hx with rfl | rfl <;> rfl
theorem fl_row {w : World} {a : Option Addr} {l : List Fl} (h : RowAt 2 flCells w a l) (i : Nat) (hi : i < l.length) : ∃ b off, a = some ⟨b, off, none⟩ ∧ b < w.heap.size ∧ w.cell? ⟨b, off + i * 2, none⟩ = some (.string l[i].nm) ∧ w.cell? ⟨b, off + i * 2 + 1, none⟩ = some (.string l[i].da) := by
  obtain ⟨b, off, e, hb, hc⟩ := h i hi
  exact ⟨b, off, e, hb, hc 0 _ rfl, hc 1 _ rfl⟩
/-- what is asked of a disk -/
structure Dp where
  kind : Int
  nm : ByteArray
  tn : ByteArray
  da : ByteArray
deriving DecidableEq
def dpCells (o : Dp) : List Value := [.int .i64 o.kind, .string o.nm, .string o.tn, .string o.da]
def dpV (o : Dp) : Value := .agg #[.int .i64 o.kind, .string o.nm, .string o.tn, .string o.da]
theorem dpLen (x : Dp) : (dpCells x).length = 4 := rfl
theorem dp_one (l : List Dp) : ∀ u ∈ l.flatMap dpCells, u.oneCell' = true := fun u hu => by
  obtain ⟨x, _, hx⟩ := List.mem_flatMap.1 hu
  simp only [dpCells, List.mem_cons, List.not_mem_nil, or_false] at hx
  rcases hx with rfl | rfl | rfl | rfl <;> rfl
theorem dp_row {w : World} {a : Option Addr} {l : List Dp} (h : RowAt 4 dpCells w a l) (i : Nat) (hi : i < l.length) : ∃ b off, a = some ⟨b, off, none⟩ ∧ b < w.heap.size ∧ w.cell? ⟨b, off + i * 4, none⟩ = some (.int .i64 l[i].kind) ∧ w.cell? ⟨b, off + i * 4 + 1, none⟩ = some (.string l[i].nm) ∧ w.cell? ⟨b, off + i * 4 + 2, none⟩ = some (.string l[i].tn) ∧ w.cell? ⟨b, off + i * 4 + 3, none⟩ = some (.string l[i].da) := by
  obtain ⟨b, off, e, hb, hc⟩ := h i hi
  exact ⟨b, off, e, hb, hc 0 _ rfl, hc 1 _ rfl, hc 2 _ rfl, hc 3 _ rfl⟩
/-- names and data are small -/
def SmF (l : List Fl) : Prop := ∀ f ∈ l, f.nm.size ≤ 1048576 ∧ f.da.size ≤ 1048576
def SmO (o : Dp) : Prop := o.nm.size ≤ 1048600 ∧ o.tn.size ≤ 1048600 ∧ o.da.size ≤ 1048600
def nmB (s : ByteArray) : Bool := inB 1 100 (s.size : Int)
def risesN (l : List Fl) (k : Nat) : Bool := match k with
  | 0 => true
  | m + 1 => match l[m]?, l[m + 1]? with
    | some x, some y => Op.bytesLess x.nm.toList y.nm.toList
    | _, _ => false
theorem rises_fl {l : List Fl} {m : Nat} (h : m + 1 < l.length) : risesN l (m + 1) = Op.bytesLess (l[m]).nm.toList (l[m + 1]).nm.toList := by
  simp [risesN, List.getElem?_eq_getElem h, List.getElem?_eq_getElem (show m < l.length by omega)]
def flB (l : List Fl) (k : Nat) : Bool := match l[k]? with
  | none => false
  | some f => nmB f.nm && risesN l k
theorem flB_at {l : List Fl} {k : Nat} (h : k < l.length) : flB l k = (nmB (l[k]).nm && risesN l k) := by simp [flB, List.getElem?_eq_getElem h]
def datL : List Fl → Nat
  | [] => 0
  | f :: l => f.da.size + datL l
theorem datL_append (a b : List Fl) : datL (a ++ b) = datL a + datL b := by
  induction a with
  | nil => simp [datL]
  | cons x xs ih => simp only [List.cons_append, datL, ih]; omega
theorem datL_next (l : List Fl) (k : Nat) (h : k < l.length) : datL (l.take (k + 1)) = datL (l.take k) + (l[k]).da.size := by
  rw [take_next l k h, datL_append]; simp [datL]
theorem datL_bd {l : List Fl} {M : Nat} (h : ∀ f ∈ l, f.da.size ≤ M) : datL l ≤ M * l.length := by
  induction l with
  | nil => simp [datL]
  | cons x xs ih =>
    have h1 := h x (by simp)
    have h2 := ih (fun f hf => h f (by simp [hf]))
    simp only [datL, List.length_cons, Nat.mul_add, Nat.mul_one]
    omega
theorem datL_mem {l : List Fl} {f : Fl} (h : f ∈ l) : f.da.size ≤ datL l := by
  induction l with
  | nil => simp at h
  | cons x xs ih =>
    simp only [List.mem_cons] at h
    simp only [datL]
    rcases h with rfl | h
    · omega
    · have := ih h; omega
theorem dat_take {l : List Fl} (h60 : l.length ≤ 61) (hs : ∀ f ∈ l, f.da.size ≤ 67108864) (k : Nat) : datL (l.take k) ≤ 4093640704 := by
  have h1 := datL_bd (l := l.take k) (M := 67108864) (fun f hf => hs f (List.mem_of_mem_take hf))
  have h2 : (l.take k).length ≤ 61 := by rw [List.length_take]; omega
  have h3 : 67108864 * (l.take k).length ≤ 67108864 * 61 := Nat.mul_le_mul_left _ h2
  omega
def filesB (l : List Fl) : Bool := decide (l.length ≤ 60) && allTo (flB l) l.length && decide ((datL l : Int) ≤ 200000)
theorem filesB_parts {l : List Fl} (h : filesB l = true) : l.length ≤ 60 ∧ allTo (flB l) l.length = true ∧ datL l ≤ 200000 := by
  simp only [filesB, Bool.and_eq_true, decide_eq_true_eq] at h
  exact ⟨h.1.1, h.1.2, by omega⟩
theorem filesB_small {l : List Fl} (h : filesB l = true) : ∀ f ∈ l, f.nm.size ≤ 100 ∧ f.da.size ≤ 200000 := fun f hf => by
  obtain ⟨h1, h2, h3⟩ := filesB_parts h
  have h4 := datL_mem hf
  obtain ⟨i, hi, rfl⟩ := List.getElem_of_mem hf
  have h5 := allTo_get h2 hi
  rw [flB_at hi] at h5
  simp only [nmB, inB, Bool.and_eq_true, decide_eq_true_eq] at h5
  exact ⟨by omega, by omega⟩
theorem filesB_sm {l : List Fl} (h : filesB l = true) : SmF l := fun f hf => by
  have := filesB_small h f hf
  exact ⟨by omega, by omega⟩
def emB (s : ByteArray) : Bool := s.toList.isEmpty
def formB (o : Dp) : Bool := inB 1 3 o.kind && nmB o.nm && (if o.kind == 2 then nmB o.tn && emB o.da else emB o.tn && (o.kind == 1 || emB o.da))
/-- the place of a name -/
def atL (l : List Fl) (nm : ByteArray) : Option Nat := l.findIdx? (fun f => f.nm.toList == nm.toList)
def ixV : Option Nat → Int
  | none => -1
  | some k => k
theorem at_hit {l : List Fl} {nm : ByteArray} {k : Nat} (hk : k < l.length) (h1 : (l[k]).nm = nm) (h2 : ∀ j (hj : j < l.length), j < k → (l[j]).nm ≠ nm) : atL l nm = some k := by
  unfold atL
  rw [List.findIdx?_eq_some_iff_getElem]
  exact ⟨hk, beq_bytes.2 h1, fun j hj => by simpa using beq_no (h2 j (by omega) hj)⟩
theorem at_miss {l : List Fl} {nm : ByteArray} (h : ∀ j (hj : j < l.length), (l[j]).nm ≠ nm) : atL l nm = none := by
  unfold atL
  rw [List.findIdx?_eq_none_iff]
  intro f hf
  obtain ⟨i, hi, rfl⟩ := List.getElem_of_mem hf
  exact beq_no (h i hi)
theorem at_some {l : List Fl} {nm : ByteArray} {k : Nat} (h : atL l nm = some k) : ∃ hk : k < l.length, (l[k]).nm = nm := by
  unfold atL at h
  rw [List.findIdx?_eq_some_iff_getElem] at h
  obtain ⟨hk, h1, _⟩ := h
  exact ⟨hk, beq_bytes.1 h1⟩
theorem at_none {l : List Fl} {nm : ByteArray} (h : atL l nm = none) : ∀ f ∈ l, f.nm ≠ nm := by
  unfold atL at h
  rw [List.findIdx?_eq_none_iff] at h
  intro f hf e
  have := h f hf
  rw [beq_bytes.2 e] at this
  cases this
/-- the files with one of this name and data: one file's step -/
def putS (nm da : ByteArray) (st : List Fl × Bool) (f : Fl) : List Fl × Bool :=
  let st1 := if (!st.2 && !Op.bytesLess f.nm.toList nm.toList) = true then (st.1 ++ [⟨nm, da⟩], true) else st
  if (f.nm.toList == nm.toList) = true then st1 else (st1.1 ++ [f], st1.2)
def putK (l : List Fl) (nm da : ByteArray) (k : Nat) : List Fl × Bool := (l.take k).foldl (putS nm da) ([], false)
theorem putK_next (l : List Fl) (nm da : ByteArray) (k : Nat) (h : k < l.length) : putK l nm da (k + 1) = putS nm da (putK l nm da k) l[k] := by
  unfold putK
  rw [take_next l k h, List.foldl_append]; rfl
theorem putK_len (l : List Fl) (nm da : ByteArray) : ∀ k, (putK l nm da k).1.length ≤ 2 * k
  | 0 => by simp [putK]
  | k + 1 => by
    have ih := putK_len l nm da k
    rcases Nat.lt_or_ge k l.length with h | h
    · rw [putK_next l nm da k h]
      unfold putS
      simp only
      split <;> split <;> simp <;> omega
    · have : putK l nm da (k + 1) = putK l nm da k := by
        unfold putK
        rw [List.take_of_length_le (by omega), List.take_of_length_le (by omega)]
      rw [this]; omega
def putL (l : List Fl) (nm da : ByteArray) : List Fl := if (putK l nm da l.length).2 then (putK l nm da l.length).1 else (putK l nm da l.length).1 ++ [⟨nm, da⟩]
def cutL (l : List Fl) (nm : ByteArray) : List Fl := l.filter (fun f => !(f.nm.toList == nm.toList))
theorem cutL_next (l : List Fl) (nm : ByteArray) (k : Nat) (h : k < l.length) : cutL (l.take (k + 1)) nm = cutL (l.take k) nm ++ (if ((l[k]).nm.toList == nm.toList) = true then [] else [l[k]]) := by
  unfold cutL
  rw [take_next l k h, List.filter_append]
  cases e : ((l[k]).nm.toList == nm.toList) <;> simp [e]
theorem cutL_len (l : List Fl) (nm : ByteArray) : (cutL l nm).length ≤ l.length := List.length_filter_le _ _
/-- the data of a file, or none -/
def dataL (l : List Fl) (nm : ByteArray) : ByteArray := match atL l nm with
  | none => ByteArray.empty
  | some k => match l[k]? with
    | none => ByteArray.empty
    | some f => f.da
/-- the data of a file, and more -/
def appD (l : List Fl) (nm da : ByteArray) : ByteArray := match atL l nm with
  | none => da
  | some _ => dataL l nm ++ da
/-- files behind what is asked -/
def doL (l : List Fl) (o : Dp) : List Fl × Bool :=
  if (o.kind == 1) = true then (putL l o.nm (appD l o.nm o.da), true)
  else match atL l o.nm with
    | none => (l, false)
    | some _ => (if (o.kind == 2) = true then putL (cutL l o.nm) o.tn (dataL l o.nm) else cutL l o.nm, true)
def stepL (l : List Fl) (o : Dp) : Option (List Fl) := if (doL l o).2 && formB o && filesB (doL l o).1 then some (doL l o).1 else none
def runL (l : List Fl) : List Dp → Option (List Fl)
  | [] => some l
  | o :: os => (stepL l o).bind (fun l' => runL l' os)
theorem runL_append (l : List Fl) (a b : List Dp) : runL l (a ++ b) = (runL l a).bind (fun l' => runL l' b) := by
  induction a generalizing l with
  | nil => rfl
  | cons o a ih =>
    simp only [List.cons_append, runL]
    cases stepL l o with
    | none => rfl
    | some l' => exact ih l'
theorem runL_next (l : List Fl) (os : List Dp) (k : Nat) (h : k < os.length) {l' : List Fl} (hr : runL l (os.take k) = some l') : runL l (os.take (k + 1)) = stepL l' os[k] := by
  rw [take_next os k h, runL_append, hr]
  simp only [Option.bind_some, runL]
  cases stepL l' os[k] <;> rfl
theorem runL_none (l : List Fl) (os : List Dp) (k : Nat) (h : runL l (os.take k) = none) : runL l os = none := by
  have e : os = os.take k ++ os.drop k := (List.take_append_drop k os).symm
  rw [e, runL_append, h]
  rfl
structure DkD where
  live : List Fl
  safe : List Fl
  ops : List Dp
def isRun (r : Option (List Fl)) (live : List Fl) : Bool := match r with
  | none => false
  | some l => decide (l = live)
def diskB (D : DkD) : Bool := filesB D.live && filesB D.safe && decide (D.ops.length ≤ 200) && isRun (runL D.safe D.ops) D.live
end Go.Proofs.Ytiilkkdbifhojaa
