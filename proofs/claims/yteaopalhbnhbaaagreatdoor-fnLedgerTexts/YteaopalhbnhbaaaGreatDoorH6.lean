/- The contract of the program's CommandText. -/
import Derived.Test.YteaopalhbnhbaaaGreatDoorWnt
import Derived.Test.YteaopalhbnhbaaaGreatDoorGo
import Derived.Test.YteaopalhbnhbaaaGreatDoorLib
import Derived.Lib.AppendIntMem
import Derived.Maps.AppendAt
import Derived.OwnWalk
import Derived.Shelf.Strings.BuilderK
import Derived.Test.YteaopalhbnhbaaaGreatDoorGd
namespace Go.Proofs.YteaopalhbnhbaaaGreatDoor
open Go.ChangeShapes Go.WideShapes Go.ChangeAt Go.RowKit
set_option linter.unusedVariables false
def wordB (k : Int) : ByteArray := bs (wordL k)
theorem join_cells5 (w4 : World) (a b c d e : ByteArray) (zs : Array Value) : ∀ (j : Nat) x, [a, b, c, d, e][j]? = some x → (((w4.alloc (.cells #[.string c, .string d, .string e] 9)).alloc (.cells (#[.string a, .string b] ++ (#[.string c, .string d, .string e] ++ zs)) 9)).drew).cell? ⟨w4.heap.size + 1, 0 + j, none⟩ = some (.string x) := by
  intro j x hj
  have key : ∀ (y : World) (o : Array Value), ∀ j, ((y.alloc (.cells o 9)).drew).cell? ⟨y.heap.size, j, none⟩ = o[j]? := fun y o j => by
    show (y.alloc (.cells o 9)).cell? ⟨y.heap.size, j, none⟩ = o[j]?
    simp
  have hz : (w4.alloc (.cells #[.string c, .string d, .string e] 9)).heap.size = w4.heap.size + 1 := by simp
  rw [← hz, key, Nat.zero_add]
  match j, hj with
  | 0, hj => simp at hj; subst hj; rw [Array.getElem?_append_left (by simp)]; rfl
  | 1, hj => simp at hj; subst hj; rw [Array.getElem?_append_left (by simp)]; rfl
  | 2, hj => simp at hj; subst hj; rw [Array.getElem?_append_right (by simp)]; rw [Array.getElem?_append_left (by simp)]; rfl
  | 3, hj => simp at hj; subst hj; rw [Array.getElem?_append_right (by simp)]; rw [Array.getElem?_append_left (by simp)]; rfl
  | 4, hj => simp at hj; subst hj; rw [Array.getElem?_append_right (by simp)]; rw [Array.getElem?_append_left (by simp)]; rfl
def HeldB (B A : Nat) (v2 v3 v4 s0 s1 : Value) (W0 x : World) : Prop := x.cell? ⟨B, 2, none⟩ = some v2 ∧ x.cell? ⟨B, 3, none⟩ = some v3 ∧ x.cell? ⟨B, 4, none⟩ = some v4 ∧ x.cell? ⟨A, 0, none⟩ = some s0 ∧ x.cell? ⟨A, 1, none⟩ = some s1 ∧ Hid (Below W0.heap.size W0 x)
theorem HeldB.of {B A : Nat} {v2 v3 v4 s0 s1 : Value} {W0 x : World} (h2 : W0.cell? ⟨B, 2, none⟩ = some v2) (h3 : W0.cell? ⟨B, 3, none⟩ = some v3) (h4 : W0.cell? ⟨B, 4, none⟩ = some v4) (k0 : W0.cell? ⟨A, 0, none⟩ = some s0) (k1 : W0.cell? ⟨A, 1, none⟩ = some s1) (b : Below W0.heap.size W0 x) : HeldB B A v2 v3 v4 s0 s1 W0 x :=
  ⟨below_keeps b _ _ h2, below_keeps b _ _ h3, below_keeps b _ _ h4, below_keeps b _ _ k0, below_keeps b _ _ k1, hide b⟩
theorem HeldB.on {B A : Nat} {v2 v3 v4 s0 s1 : Value} {W0 x y : World} (h : HeldB B A v2 v3 v4 s0 s1 W0 x) (b : Below x.heap.size x y) : HeldB B A v2 v3 v4 s0 s1 W0 y :=
  ⟨below_keeps b _ _ h.1, below_keeps b _ _ h.2.1, below_keeps b _ _ h.2.2.1, below_keeps b _ _ h.2.2.2.1, below_keeps b _ _ h.2.2.2.2.1, hide (below_trans h.2.2.2.2.2.out b)⟩
theorem join_cells3 (w4 : World) (a b c : ByteArray) (zs : Array Value) : ∀ (j : Nat) x, [a, b, c][j]? = some x → (((w4.alloc (.cells #[.string c] 9)).alloc (.cells (#[.string a, .string b, .string c] ++ zs) 9)).drew).cell? ⟨w4.heap.size + 1, 0 + j, none⟩ = some (.string x) := by
  intro j x hj
  have key : ∀ (y : World) (o : Array Value), ∀ j, ((y.alloc (.cells o 9)).drew).cell? ⟨y.heap.size, j, none⟩ = o[j]? := fun y o j => by
    show (y.alloc (.cells o 9)).cell? ⟨y.heap.size, j, none⟩ = o[j]?
    simp
  have hz : (w4.alloc (.cells #[.string c] 9)).heap.size = w4.heap.size + 1 := by simp
  rw [← hz, key, Nat.zero_add]
  match j, hj with
  | 0, hj => simp at hj; subst hj; rw [Array.getElem?_append_left (by simp)]; rfl
  | 1, hj => simp at hj; subst hj; rw [Array.getElem?_append_left (by simp)]; rfl
  | 2, hj => simp at hj; subst hj; rw [Array.getElem?_append_left (by simp)]; rfl
end Go.Proofs.YteaopalhbnhbaaaGreatDoor
/- A strings.Builder of the call's own; lineOf. -/
namespace Go.Proofs.YteaopalhbnhbaaaGreatDoor
open Go.ChangeShapes Go.WideShapes Go.ChangeAt Go.RowKit
set_option linter.unusedVariables false
/-- a builder in block b, from B on, that holds these bytes -/
def Bld (B b : Nat) (l : List UInt8) (w : World) : Prop := Lib.IsBuilderF 43 5 B b (Lib.byteCells l) w
theorem atKept {B b : Nat} {p : Value} {bs : List Value} {w w' : World} (h : Lib.BuilderAtF 43 5 B b p bs w) (k : Below w.heap.size w w') : Lib.BuilderAtF 43 5 B b p bs w' := by
  obtain ⟨hB, v, hb, hown, hne⟩ := h
  have hlt : b < w.heap.size := (Array.getElem?_eq_some_iff.1 hb).1
  refine ⟨hB, v, (k.block b hlt).trans hb, ?_, hne⟩
  exact hown.kept (row := none) ⟨k.os, k.tape, k.output, k.size, fun i hi _ => k.block i hi⟩ (by cases h : v.ownBlock with | none => exact .inl rfl | some x => exact .inr (by simp))
theorem Bld.kept {B b : Nat} {l : List UInt8} {w w' : World} (h : Bld B b l w) (k : Below w.heap.size w w') : Bld B b l w' := h.elim (fun x => .inl (atKept x k)) (fun x => .inr (atKept x k))
theorem write_any (B b : Nat) (l : List UInt8) (s : ByteArray) (w : World) (h : Bld B b l w) (hlen : l.length + s.size ≤ 140737488355328) (hB : B ≤ w.heap.size) :
    Calls Tryz.prog 19 #[.pointer (some ⟨b, 0, none⟩), .string s] w fun e w' => e = .returned (.tuple #[.int .i64 s.size, .nilIface]) ∧ Bld B b (l ++ s.data.toList) w' ∧ Below B w w' ∧ Lib.OthersKept 5 (some b) w w' := by
  refine (Any.Builder_WriteString_k (ρ := Tryz.lays156_ren) { Tryz.lays156 with } Tryz.Builder_Extra_156 B b (Lib.byteCells l) s w h (by rw [Lib.byteCells_length]; exact hlen) hB).mono ?_
  rintro e w' ⟨he, hat, hb, ho⟩
  refine ⟨he, .inr ?_, hb, ho⟩
  rw [Lib.byteCells_append, ← Lib.strCells_eq]
  exact hat
theorem text_any (B b : Nat) (l : List UInt8) (w : World) (h : Bld B b l w) (hB : B ≤ w.heap.size) :
    Calls Tryz.prog 22 #[.pointer (some ⟨b, 0, none⟩)] w fun e w' => e = .returned (.string (bs l)) ∧ Below B w w' :=
  (Any.Builder_String_any_k (ρ := Tryz.lays156_ren) { Tryz.lays156 with } Tryz.Builder_Extra_156 B b l w h hB).mono fun e w' h => ⟨h.1, h.2.2.1⟩
theorem bld_fresh (w : World) : Bld w.heap.size w.heap.size [] (w.alloc (.cells #[.pointer none, .slice none 0 0] 43)) := Lib.IsBuilderF.of (Lib.fresh_isBuilder 43 5 w)
/-- a line of words -/
def lineL (ws : List (List UInt8)) : List UInt8 := Lib.join ws [32] ++ [10]
set_option maxHeartbeats 1000000 in
theorem lineOf_any (g cap : Nat) (xs : List ByteArray) (w : World) (hcells : ∀ (j : Nat) x, xs[j]? = some x → w.cell? ⟨g, 0 + j, none⟩ = some (.string x)) (hg : g < w.heap.size) (hn : xs.length ≤ 10) (hc : xs.length ≤ cap) (hl : (Lib.join (xs.map (·.data.toList)) [32]).length ≤ 1000) :
    Calls Tryz.prog 20 #[.slice (some ⟨g, 0, none⟩) xs.length cap] w fun e w' => e = .returned (.string (bs (lineL (xs.map (·.data.toList))))) ∧ Below w.heap.size w w' := by
  have HR : Hid ((⟨(Lib.join (xs.map (·.data.toList)) [32]).toArray⟩ : ByteArray) ++ { data := #[10] } = bs (lineL (xs.map (·.data.toList)))) := hide (by apply bs_of; simp [lineL])
  go_enter Tryz.func20, Tryz.ntmps20
  go_wp2_with fail
  refine (Tryz.strings_Join g 0 cap xs { data := #[32] } w hcells hg (by omega) hc (by show (Lib.join (xs.map (·.data.toList)) [32]).length ≤ _; omega)).mono ?_
  rintro e w1 ⟨rfl, hb⟩
  have HB : Hid _ := hide hb
  clear hb
  have hsz : (⟨(Lib.join (xs.map (·.data.toList)) [32]).toArray⟩ : ByteArray).size ≤ 1000 := by simpa [ByteArray.size] using hl
  have e32 : (({ data := #[32] } : ByteArray).data.toList) = [32] := rfl
  rw [e32]
  generalize (⟨(Lib.join (xs.map (·.data.toList)) [32]).toArray⟩ : ByteArray) = s at *
  go_wp2
  go_ret
  exact ⟨by rw [← HR.out]; rfl, HB.out⟩
end Go.Proofs.YteaopalhbnhbaaaGreatDoor
/- The text of a ledger, as data; the contract of the model's LedgerText. -/
namespace Go.Proofs.YteaopalhbnhbaaaGreatDoor
open Go.ChangeShapes Go.WideShapes Go.ChangeAt Go.RowKit
set_option linter.unusedVariables false
set_option maxRecDepth 100000
def accW (x : Acc) : List (List UInt8) := [[97, 99, 99, 111, 117, 110, 116], x.name.data.toList, x.cur.data.toList, Lib.itoa x.limit, Lib.itoa x.posted]
def hldW (x : Hld) : List (List UInt8) := [[104, 111, 108, 100], Lib.itoa x.id, x.fr.data.toList, x.to.data.toList, Lib.itoa x.amount]
def ansW (x : Sn) : List (List UInt8) := [[115, 101, 101, 110], Lib.itoa x.id, Lib.itoa x.code]
def accLn (x : Acc) : List UInt8 := lineL (accW x)
def hldLn (x : Hld) : List UInt8 := lineL (hldW x)
def ansLn (x : Sn) : List UInt8 := lineL (ansW x)
def body (L : Led) (a h s : Nat) : List UInt8 := [108, 101, 100, 103, 101, 114, 10] ++ ((L.acc.take a).flatMap accLn ++ ((L.hold.take h).flatMap hldLn ++ (L.seen.take s).flatMap ansLn))
def ledT (L : Led) : List UInt8 := if ledS L = true then body L L.acc.length L.hold.length L.seen.length else []
theorem body_acc {L : Led} {k : Nat} (h : k < L.acc.length) : body L (k + 1) 0 0 = body L k 0 0 ++ accLn L.acc[k] := by
  simp only [body, take_next _ _ h, List.flatMap_append, List.flatMap_singleton, List.take_zero, List.flatMap_nil, List.append_nil, List.append_assoc]
theorem body_hold {L : Led} {n k : Nat} (h : k < L.hold.length) : body L n (k + 1) 0 = body L n k 0 ++ hldLn L.hold[k] := by
  simp only [body, take_next _ _ h, List.flatMap_append, List.flatMap_singleton, List.take_zero, List.flatMap_nil, List.append_nil, List.append_assoc]
theorem body_seen {L : Led} {n m k : Nat} (h : k < L.seen.length) : body L n m (k + 1) = body L n m k ++ ansLn L.seen[k] := by
  simp only [body, take_next _ _ h, List.flatMap_append, List.flatMap_singleton, List.append_assoc]
/-- what a right ledger's parts are -/
theorem led_parts {L : Led} (h : ledS L = true) : (L.acc.length ≤ 12 ∧ L.hold.length ≤ 10 ∧ L.seen.length ≤ 40) ∧ allTo (accI L) L.acc.length = true ∧ allTo (ansB L) L.seen.length = true ∧ allTo (hldI L) L.hold.length = true := by
  rw [← led_same] at h
  simp only [ledI, Bool.and_eq_true, decide_eq_true_eq] at h
  obtain ⟨⟨⟨⟨⟨⟨g1, g2⟩, g3⟩, ha⟩, hs⟩, hh⟩, hb⟩ := h
  exact ⟨⟨g1, g2, g3⟩, ha, hs, hh⟩
theorem acc_sm {L : Led} (h : ledS L = true) {k : Nat} (hk : k < L.acc.length) : L.acc[k].name.size ≤ 12 ∧ L.acc[k].cur.size ≤ 12 ∧ (-1 ≤ L.acc[k].limit ∧ L.acc[k].limit ≤ 1000000000000) ∧ (-1000000000000 ≤ L.acc[k].posted ∧ L.acc[k].posted ≤ 1000000000000) := by
  have h1 := allTo_get (led_parts h).2.1 hk
  rw [accI_at hk] at h1
  simp only [Bool.and_eq_true] at h1
  exact ⟨name_short h1.1.1.1.2, cur_short h1.1.1.2, inB_iff.1 h1.1.2, inB_iff.1 h1.2⟩
theorem ans_sm {L : Led} (h : ledS L = true) {k : Nat} (hk : k < L.seen.length) : (1 ≤ L.seen[k].id ∧ L.seen[k].id ≤ 1000000000) ∧ (0 ≤ L.seen[k].code ∧ L.seen[k].code ≤ 9) := by
  have h1 := allTo_get (led_parts h).2.2.1 hk
  rw [ansB_at hk] at h1
  simp only [Bool.and_eq_true, Bool.or_eq_true, decide_eq_true_eq] at h1
  refine ⟨inB_iff.1 h1.1.1, ?_⟩
  rcases h1.2 with h2 | h2
  · omega
  · have := inB_iff.1 h2; omega
theorem idx_name {L : Led} (h : ledS L = true) {nm : ByteArray} {i : Nat} (hi : idxA L.acc nm = some i) : nm.size ≤ 12 := by
  obtain ⟨hl, e, _⟩ := idxA_lt hi
  rw [← e]
  exact (acc_sm h hl).1
theorem hld_sm {L : Led} (h : ledS L = true) {k : Nat} (hk : k < L.hold.length) : L.hold[k].fr.size ≤ 12 ∧ L.hold[k].to.size ≤ 12 ∧ (1 ≤ L.hold[k].id ∧ L.hold[k].id ≤ 1000000000) ∧ (1 ≤ L.hold[k].amount ∧ L.hold[k].amount ≤ 1000000000000) := by
  have h1 := allTo_get (led_parts h).2.2.2 hk
  rw [hldI_at hk] at h1
  simp only [Bool.and_eq_true] at h1
  have hp := h1.2
  unfold pairI at hp
  cases e1 : idxA L.acc L.hold[k].fr with
  | none => rw [e1] at hp; simp at hp
  | some i =>
    cases e2 : idxA L.acc L.hold[k].to with
    | none => rw [e1, e2] at hp; simp at hp
    | some j => exact ⟨idx_name h e1, idx_name h e2, inB_iff.1 h1.1.1.1.2, inB_iff.1 h1.1.1.2⟩
theorem join5_len (a b c d e : List UInt8) : (Lib.join [a, b, c, d, e] [32]).length = a.length + b.length + c.length + d.length + e.length + 4 := by
  simp [Lib.join, List.intercalate]; omega
theorem join3_len (a b c : List UInt8) : (Lib.join [a, b, c] [32]).length = a.length + b.length + c.length + 2 := by
  simp [Lib.join, List.intercalate]; omega
theorem accJ_len {L : Led} (h : ledS L = true) {k : Nat} (hk : k < L.acc.length) : (Lib.join (accW L.acc[k]) [32]).length ≤ 90 := by
  obtain ⟨h1, h2, h3, h4⟩ := acc_sm h hk
  rw [accW, join5_len]
  have := itoa_len (n := L.acc[k].limit) (by omega) (by omega)
  have := itoa_len (n := L.acc[k].posted) (by omega) (by omega)
  have e1 : L.acc[k].name.data.toList.length = L.acc[k].name.size := by simp
  have e2 : L.acc[k].cur.data.toList.length = L.acc[k].cur.size := by simp
  simp only [List.length_cons, List.length_nil]
  omega
theorem hldJ_len {L : Led} (h : ledS L = true) {k : Nat} (hk : k < L.hold.length) : (Lib.join (hldW L.hold[k]) [32]).length ≤ 90 := by
  obtain ⟨h1, h2, h3, h4⟩ := hld_sm h hk
  rw [hldW, join5_len]
  have := itoa_len (n := L.hold[k].id) (by omega) (by omega)
  have := itoa_len (n := L.hold[k].amount) (by omega) (by omega)
  have e1 : L.hold[k].fr.data.toList.length = L.hold[k].fr.size := by simp
  have e2 : L.hold[k].to.data.toList.length = L.hold[k].to.size := by simp
  simp only [List.length_cons, List.length_nil]
  omega
theorem ansJ_len {L : Led} (h : ledS L = true) {k : Nat} (hk : k < L.seen.length) : (Lib.join (ansW L.seen[k]) [32]).length ≤ 90 := by
  obtain ⟨h1, h2⟩ := ans_sm h hk
  rw [ansW, join3_len]
  have := itoa_len (n := L.seen[k].id) (by omega) (by omega)
  have := itoa_len (n := L.seen[k].code) (by omega) (by omega)
  simp only [List.length_cons, List.length_nil]
  omega
theorem flat_le {A : Type} (f : A → List UInt8) (l : List A) (h : ∀ x ∈ l, (f x).length ≤ 91) : (l.flatMap f).length ≤ 91 * l.length := by
  induction l with
  | nil => simp
  | cons x xs ih =>
    have h1 := h x (by simp)
    have h2 := ih (fun y hy => h y (by simp [hy]))
    simp only [List.flatMap_cons, List.length_append, List.length_cons]
    omega
theorem take_mem {A : Type} {l : List A} {k : Nat} {x : A} (h : x ∈ l.take k) : ∃ i, ∃ hi : i < l.length, l[i] = x := by
  obtain ⟨i, hi, e⟩ := List.getElem_of_mem (List.mem_of_mem_take h)
  exact ⟨i, hi, e⟩
theorem body_len {L : Led} (h : ledS L = true) (a b c : Nat) : (body L a b c).length ≤ 6000 := by
  obtain ⟨g1, g2, g3⟩ := (led_parts h).1
  have h1 := flat_le accLn (L.acc.take a) (fun x hx => by obtain ⟨i, hi, rfl⟩ := take_mem hx; have := accJ_len h hi; simp only [accLn, lineL, List.length_append, List.length_cons, List.length_nil]; omega)
  have h2 := flat_le hldLn (L.hold.take b) (fun x hx => by obtain ⟨i, hi, rfl⟩ := take_mem hx; have := hldJ_len h hi; simp only [hldLn, lineL, List.length_append, List.length_cons, List.length_nil]; omega)
  have h3 := flat_le ansLn (L.seen.take c) (fun x hx => by obtain ⟨i, hi, rfl⟩ := take_mem hx; have := ansJ_len h hi; simp only [ansLn, lineL, List.length_append, List.length_cons, List.length_nil]; omega)
  have e1 : (L.acc.take a).length ≤ 12 := by rw [List.length_take]; omega
  have e2 : (L.hold.take b).length ≤ 10 := by rw [List.length_take]; omega
  have e3 : (L.seen.take c).length ≤ 40 := by rw [List.length_take]; omega
  simp only [body, List.length_append, List.length_cons, List.length_nil]
  omega
theorem bs_sz {l : List UInt8} {n : Nat} (h : l.length ≤ n) : (bs l).size ≤ n := by rw [bs_size]; exact h
theorem box40 {w x : World} {va vh vs : Value} (h : Below (w.heap.size + 1) (w.alloc (.cells #[va, vh, vs] 28)) x) : x.cell? ⟨w.heap.size, 0, none⟩ = some va ∧ x.cell? ⟨w.heap.size, 1, none⟩ = some vh ∧ x.cell? ⟨w.heap.size, 2, none⟩ = some vs :=
  ⟨by rw [h.cell (by simp)]; simp, by rw [h.cell (by simp)]; simp, by rw [h.cell (by simp)]; simp⟩
end Go.Proofs.YteaopalhbnhbaaaGreatDoor
