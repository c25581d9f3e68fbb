/- Frames as lists of bytes: the first one of a list, all that it begins with. -/
import Derived.Test.YtehkddpgflbaoaaRow
namespace Go.Proofs.Ytehkddpgflbaoaa
open Go.ChangeShapes Go.WideShapes Go.ChangeAt Go.RowKit
set_option linter.unusedVariables false
def bs (l : List UInt8) : ByteArray := ⟨l.toArray⟩
theorem bs_size (l : List UInt8) : (bs l).size = l.length := by simp [bs, ByteArray.size]
theorem bs_list (l : List UInt8) : (bs l).data.toList = l := by simp [bs]
theorem bs_of {r : ByteArray} {l : List UInt8} (h : r.data.toList = l) : r = bs l := by subst h; simp [bs]
theorem size_list (s : ByteArray) : s.data.toList.length = s.size := Array.length_toList
/-- the number that the first bytes of a list make, the highest first -/
def beK (l : List UInt8) : Nat → Nat
  | 0 => 0
  | j + 1 => 256 * beK l j + (l.getD j 0).toNat
theorem beK_lt (l : List UInt8) : ∀ j, beK l j < 256 ^ j
  | 0 => by simp [beK]
  | j + 1 => by
    have := beK_lt l j
    have := (l.getD j 0).toNat_lt
    rw [beK, Nat.pow_succ]; omega
def beN (l : List UInt8) : Nat := beK l 4
theorem beN_lt (l : List UInt8) : beN l < 4294967296 := by have := beK_lt l 4; unfold beN; omega
theorem beN_is (l : List UInt8) : beN l = (l.getD 0 0).toNat * 16777216 + (l.getD 1 0).toNat * 65536 + (l.getD 2 0).toNat * 256 + (l.getD 3 0).toNat := by
  simp only [beN, beK]; omega
/-- is the first frame of the list one? -/
def okL (l : List UInt8) : Prop := 8 ≤ l.length ∧ beN l ≤ 100000 ∧ 8 + beN l ≤ l.length ∧ le4 (crc ((l.drop 8).take (beN l))) = bs ((l.drop 4).take 4)
noncomputable instance (l : List UInt8) : Decidable (okL l) := Classical.propDecidable _
noncomputable def frL : Nat → List UInt8 → List ByteArray × Nat
  | 0, _ => ([], 0)
  | f + 1, l => if okL l then (bs ((l.drop 8).take (beN l)) :: (frL f (l.drop (8 + beN l))).1, 8 + beN l + (frL f (l.drop (8 + beN l))).2) else ([], 0)
noncomputable def frames (s : ByteArray) : List ByteArray := (frL (s.size + 1) s.data.toList).1
noncomputable def framesEnd (s : ByteArray) : Nat := (frL (s.size + 1) s.data.toList).2
/-- what is still to be taken, behind what was taken -/
structure Rest (s : ByteArray) (l : List ByteArray) (p : Nat) : Prop where
  le : p ≤ s.size
  len : l.length ≤ p
  rest : ∃ f, s.size - p < f ∧ l ++ (frL f (s.data.toList.drop p)).1 = frames s ∧ p + (frL f (s.data.toList.drop p)).2 = framesEnd s
theorem rest_start (s : ByteArray) : Rest s [] 0 := ⟨by omega, by simp, s.size + 1, by omega, by simp [frames], by simp [framesEnd]⟩
theorem Rest.stop {s : ByteArray} {l : List ByteArray} {p : Nat} (h : Rest s l p) (k : ¬ okL (s.data.toList.drop p)) : l = frames s ∧ p = framesEnd s := by
  obtain ⟨f, h0, h1, h2⟩ := h.rest
  obtain ⟨f, rfl⟩ : ∃ g, f = g + 1 := ⟨f - 1, by omega⟩
  rw [frL, if_neg k] at h1 h2
  simp at h1 h2
  exact ⟨h1, h2⟩
theorem Rest.step {s : ByteArray} {l : List ByteArray} {p : Nat} (h : Rest s l p) (k : okL (s.data.toList.drop p)) : Rest s (l ++ [bs (((s.data.toList.drop p).drop 8).take (beN (s.data.toList.drop p)))]) (p + 8 + beN (s.data.toList.drop p)) := by
  obtain ⟨f, h0, h1, h2⟩ := h.rest
  obtain ⟨f, rfl⟩ : ∃ g, f = g + 1 := ⟨f - 1, by omega⟩
  rw [frL, if_pos k] at h1 h2
  have hk := k.2.2.1
  rw [List.length_drop, size_list] at hk
  have hl := h.len
  have hp := h.le
  have e : (s.data.toList.drop p).drop (8 + beN (s.data.toList.drop p)) = s.data.toList.drop (p + 8 + beN (s.data.toList.drop p)) := by rw [List.drop_drop, Nat.add_assoc]
  rw [e] at h1 h2
  refine ⟨by omega, by simp; omega, f, by omega, ?_, ?_⟩
  · rw [← h1, List.append_assoc]; rfl
  · rw [← h2]; simp only; omega
theorem frames_len (s : ByteArray) : ∀ f (l : List UInt8), (frL f l).1.length ≤ l.length
  | 0, l => by simp [frL]
  | f + 1, l => by
    rw [frL]
    split
    · rename_i k
      have := frames_len s f (l.drop (8 + beN l))
      have := k.2.2.1
      simp at *; omega
    · simp
theorem extract_list (s : ByteArray) (a b : Nat) : (s.extract a b).data.toList = (s.data.toList.drop a).take (b - a) := by
  rw [ByteArray.data_extract, Array.toList_extract, List.extract_eq_take_drop]
end Go.Proofs.Ytehkddpgflbaoaa
