/- The contract of the model's CommandText. -/
import Derived.Test.YteaopalhbnhbaaaGreatDoorData
import Derived.Test.YteaopalhbnhbaaaGreatDoorCmdL
import Derived.Test.YteaopalhbnhbaaaGreatDoorBel
namespace Go.Proofs.YteaopalhbnhbaaaGreatDoor
open Go.ChangeShapes Go.WideShapes Go.ChangeAt Go.RowKit
set_option linter.unusedVariables false
set_option maxRecDepth 100000
/-- the word of a kind -/
def wordL (k : Int) : List UInt8 := if k = 1 then [111, 112, 101, 110] else if k = 2 then [112, 111, 115, 116] else if k = 3 then [104, 111, 108, 100] else if k = 4 then [116, 97, 107, 101] else [100, 114, 111, 112]
/-- the text of a command -/
def cmdT (id kind : Int) (f t : ByteArray) (am ref : Int) : List UInt8 :=
  if cmdB id kind f t am ref = true then
    (if kind = 4 ∨ kind = 5 then Lib.itoa id ++ ([32] ++ (wordL kind ++ ([32] ++ Lib.itoa ref)))
     else Lib.itoa id ++ ([32] ++ (wordL kind ++ ([32] ++ (f.data.toList ++ ([32] ++ (t.data.toList ++ ([32] ++ Lib.itoa am))))))))
  else []
def StrEnd (l : List UInt8) (w : World) (e : Ending) (w' : World) : Prop := e = .returned (.string (bs l)) ∧ Below w.heap.size w w'
theorem boxed6 {w x : World} {v0 v1 v2 v3 v4 v5 : Value} {T : TypeId} (h : Below (w.alloc (.cells #[v0, v1, v2, v3, v4, v5] T)).heap.size (w.alloc (.cells #[v0, v1, v2, v3, v4, v5] T)) x) :
    x.cell? ⟨w.heap.size, 0, none⟩ = some v0 ∧ x.cell? ⟨w.heap.size, 1, none⟩ = some v1 ∧ x.cell? ⟨w.heap.size, 2, none⟩ = some v2 ∧ x.cell? ⟨w.heap.size, 3, none⟩ = some v3 ∧ x.cell? ⟨w.heap.size, 4, none⟩ = some v4 ∧ x.cell? ⟨w.heap.size, 5, none⟩ = some v5 := by
  have hb : ∀ o, x.cell? ⟨w.heap.size, o, none⟩ = (w.alloc (.cells #[v0, v1, v2, v3, v4, v5] T)).cell? ⟨w.heap.size, o, none⟩ := fun o => h.cell (p := ⟨w.heap.size, o, none⟩) (by simp)
  refine ⟨?_, ?_, ?_, ?_, ?_, ?_⟩ <;> rw [hb] <;> simp
theorem itoa_len {n : Int} (h0 : -1000000000000000 ≤ n) (h1 : n ≤ 1000000000000000) : (Lib.itoa n).length ≤ 17 := by
  by_cases h : n < 0
  · rw [← itoa_neg h h0]; have := dec_len 15 (-n).toNat (by omega) (by omega); simp; omega
  · rw [← itoa_pos (by omega) h1]; have := dec_len 15 n.toNat (by omega) (by omega); omega
theorem name_short {s : ByteArray} (h : nameB s = true) : s.size ≤ 12 := by
  unfold nameB at h
  simp only [Bool.and_eq_true, decide_eq_true_eq] at h
  omega
theorem cur_short {s : ByteArray} (h : curB s = true) : s.size ≤ 12 := by
  unfold curB at h
  simp only [Bool.and_eq_true, decide_eq_true_eq] at h
  omega
/-- what a right command of the first three kinds has -/
theorem cmd_abc {id k : Int} {f t : ByteArray} {am ref : Int} (hk : k = 1 ∨ k = 2 ∨ k = 3) (h : cmdB id k f t am ref = true) : (1 ≤ id ∧ id ≤ 1000000000) ∧ f.size ≤ 12 ∧ t.size ≤ 12 ∧ -1 ≤ am ∧ am ≤ 1000000000000 := by
  unfold cmdB at h
  simp only [Bool.and_eq_true] at h
  obtain ⟨h0, h1⟩ := h
  refine ⟨inB_iff.1 h0, ?_⟩
  rcases hk with rfl | rfl | rfl
  · rw [if_pos rfl] at h1
    simp only [Bool.and_eq_true] at h1
    exact ⟨name_short h1.1.1.1, cur_short h1.1.1.2, inB_iff.1 h1.1.2⟩
  · rw [if_neg (by decide), if_pos (by decide)] at h1
    simp only [Bool.and_eq_true] at h1
    have := inB_iff.1 h1.1.2
    exact ⟨name_short h1.1.1.1.1, name_short h1.1.1.1.2, by omega⟩
  · rw [if_neg (by decide), if_pos (by decide)] at h1
    simp only [Bool.and_eq_true] at h1
    have := inB_iff.1 h1.1.2
    exact ⟨name_short h1.1.1.1.1, name_short h1.1.1.1.2, by omega⟩
theorem cmd_de {id k : Int} {f t : ByteArray} {am ref : Int} (hk : k = 4 ∨ k = 5) (h : cmdB id k f t am ref = true) : (1 ≤ id ∧ id ≤ 1000000000) ∧ 1 ≤ ref ∧ ref ≤ 1000000000 := by
  unfold cmdB at h
  simp only [Bool.and_eq_true] at h
  obtain ⟨h0, h1⟩ := h
  refine ⟨inB_iff.1 h0, ?_⟩
  rcases hk with rfl | rfl
  · rw [if_neg (by decide), if_neg (by decide), if_pos (by decide)] at h1
    simp only [Bool.and_eq_true] at h1
    exact inB_iff.1 h1.2
  · rw [if_neg (by decide), if_neg (by decide), if_pos (by decide)] at h1
    simp only [Bool.and_eq_true] at h1
    exact inB_iff.1 h1.2
theorem cmd_kind {id k : Int} {f t : ByteArray} {am ref : Int} (h : cmdB id k f t am ref = true) : k = 1 ∨ k = 2 ∨ k = 3 ∨ k = 4 ∨ k = 5 := by
  unfold cmdB at h
  simp only [Bool.and_eq_true] at h
  by_cases h1 : k = 1
  · exact .inl h1
  · by_cases h2 : k = 2 ∨ k = 3
    · omega
    · by_cases h3 : k = 4 ∨ k = 5
      · omega
      · rw [if_neg h1, if_neg h2, if_neg h3] at h; simp at h
end Go.Proofs.YteaopalhbnhbaaaGreatDoor
