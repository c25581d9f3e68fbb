/- The reader of texts: words, numbers, kinds. -/
import Derived.Test.YteaopalhbnhbaaaGreatDoorIxa
namespace Go.Proofs.YteaopalhbnhbaaaGreatDoor
open Go.ChangeShapes Go.WideShapes Go.ChangeAt Go.RowKit Go.Lib
set_option linter.unusedVariables false
set_option maxRecDepth 100000
theorem zero256 (w : World) : (zeroValue 159).run Tryz.prog w = .ok (.agg (Array.replicate 256 (.bool false))) w := by
  have e : Tryz.t159.zero = some (.agg (Array.replicate 256 (.bool false))) := by kernel_rfl
  simp [zeroValue, e]
theorem indexAny_any (l : List UInt8) (w : World) (hl : l.length ≤ 1048576) :
    Calls Tryz.prog 130 #[.string (bs l), .string sep2] w fun e w' => e = .returned (.int .i64 (Lib.indexAny l [32, 10])) ∧ Below w.heap.size w w' := by
  by_cases h8 : l.length ≤ 8
  · have := indexAny_short (bs l) w (by rw [bs_size]; exact h8)
    rw [bs_list] at this
    exact this
  · refine (Tryz.strings_IndexAny_long zero256 (bs l) sep2 w (by decide) (by rw [bs_size]; omega) (by rw [bs_size]; omega) (by decide) (fun j b hb => ?_)).mono ?_
    · have e : sep2.data.toList = [32, 10] := rfl
      rw [e] at hb
      match j, hb with
      | 0, hb => simp at hb; subst hb; decide
      | 1, hb => simp at hb; subst hb; decide
    · rintro e w' ⟨rfl, rfl⟩
      exact ⟨by rw [bs_list]; rfl, below_alloc (below_alloc (Below.refl _ _) _) _⟩
theorem sep_in (c : UInt8) : [32, 10].contains c = sepB c := by
  rw [Bool.eq_iff_iff]
  simp [sepB]
theorem idx_word (l : List UInt8) : Lib.indexAny l [32, 10] = if restOf l = [] then -1 else ((wordOf l).length : Int) := by
  induction l with
  | nil => rfl
  | cons c r ih =>
    rw [Lib.indexAny, sep_in]
    cases h : sepB c
    · have e1 : wordOf (c :: r) = c :: wordOf r := by simp [wordOf, h]
      have e2 : restOf (c :: r) = restOf r := by simp [restOf, h]
      rw [e1, e2, ih]
      by_cases q : restOf r = []
      · simp [q]
      · rw [if_neg q, if_neg q]
        simp only [Bool.false_eq_true, if_false, List.length_cons]
        rw [if_neg (by first | (simp; done) | (simp; omega))]
        omega
    · have e1 : wordOf (c :: r) = [] := by simp [wordOf, h]
      have e2 : restOf (c :: r) = c :: r := by simp [restOf, h]
      rw [e1, e2]
      simp
theorem word_size (l : List UInt8) : (wordOf l).length ≤ l.length := by
  have := congrArg List.length (word_rest l)
  simp only [List.length_append] at this
  omega
theorem rest_size (l : List UInt8) : (restOf l).length ≤ l.length := by
  have := congrArg List.length (word_rest l)
  simp only [List.length_append] at this
  omega
theorem bs_take (l : List UInt8) (k : Nat) : (bs l).extract 0 k = bs (l.take k) := bs_of (by rw [Lib.extract_data, bs_list]; simp)
theorem bs_drop (l : List UInt8) (k : Nat) : (bs l).extract k l.length = bs (l.drop k) := bs_of (by rw [Lib.extract_data, bs_list]; exact List.take_of_length_le (by simp))
theorem word_take (l : List UInt8) : l.take (wordOf l).length = wordOf l := by
  have h := word_rest l
  generalize wordOf l = a at h ⊢
  rw [← h]
  simp
theorem word_drop (l : List UInt8) : l.drop (wordOf l).length = restOf l := by
  have h := word_rest l
  generalize wordOf l = a at h ⊢
  generalize restOf l = r at h ⊢
  rw [← h]
  simp
set_option maxHeartbeats 2000000 in
theorem rword_any (B : Nat) (l : List UInt8) (w : World) (h : Blk B [.string (bs l)] w) (hl : l.length ≤ 1048576) :
    Calls Tryz.prog 126 #[.pointer (some ⟨B, 0, none⟩)] w fun e w' => e = .returned (.string (bs (wordOf l))) ∧ RdTo B (restOf l) w w' := by
  have c0 := h.c 0 _ rfl
  have HB : Hid _ := hide h
  have hsz : (bs l).size = l.length := bs_size l
  have HT : Hid ((bs l).extract 0 (wordOf l).length = bs (wordOf l)) := hide (by rw [bs_take, word_take])
  have HD : Hid ((bs l).extract (wordOf l).length (bs l).size = bs (restOf l)) := hide (by rw [bs_size, bs_drop, word_drop])
  have hws := word_size l
  have hix := idx_word l
  clear h
  go_enter Tryz.func126, Tryz.ntmps126
  go_wp2_with fail
  refine (indexAny_any l w hl).mono ?_
  rintro e w1 ⟨rfl, hb1⟩
  have HR : Hid _ := hide (RdTo.start HB.out hb1)
  have c1 := HR.out.1.c 0 _ rfl
  have f1 := HR.out.1.f 0
  clear hb1 c0
  rw [hix]
  by_cases q : restOf l = []
  · rw [if_pos q]
    have e1 : wordOf l = l := by have := word_rest l; rw [q] at this; simpa using this
    have Q : Hid _ := hide q
    have E1 : Hid _ := hide e1
    clear hix q e1 hws
    have HE : Hid ((bs l).extract 0 (bs l).size = bs l) := hide (by rw [bs_size, bs_take]; simp)
    have HE2 : Hid ((bs l).extract (bs l).size (bs l).size = bs []) := hide (by rw [bs_size, bs_drop]; simp)
    go_wp2
    go_ret
    refine ⟨by rw [E1.out, bs_take, List.take_length]; rfl, ?_⟩
    rw [Q.out]
    exact HR.out.set
  · rw [if_neg q]
    clear hix q
    obtain ⟨k, hk⟩ : ∃ k, k = (wordOf l).length := ⟨_, rfl⟩
    rw [← hk] at HT HD hws ⊢
    have HK : Hid _ := hide hk
    clear hk
    have k0 : ¬ (k : Int) < 0 := by omega
    go_wp2
    go_ret
    have hd := HD.out
    rw [bs_size] at hd
    refine ⟨by rw [HT.out]; rfl, ?_⟩
    rw [hd]
    exact HR.out.set
end Go.Proofs.YteaopalhbnhbaaaGreatDoor
