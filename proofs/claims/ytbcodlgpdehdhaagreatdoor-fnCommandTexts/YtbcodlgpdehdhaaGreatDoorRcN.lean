/- A command's text is read as that command, by both. -/
import Derived.Test.YtbcodlgpdehdhaaGreatDoorSRd2
namespace Go.Proofs.YtbcodlgpdehdhaaGreatDoor
open Go.ChangeShapes Go.WideShapes Go.ChangeAt Go.RowKit Go.Lib
set_option linter.unusedVariables false
theorem sep_off {b : UInt8} (h : b.toNat ≠ 32) (k : b.toNat ≠ 10) : sepB b = false := by
  unfold sepB
  have h1 : (b == 32) = false := by simp only [beq_eq_false_iff_ne, ne_eq]; exact fun e => h (by rw [e]; rfl)
  have h2 : (b == 10) = false := by simp only [beq_eq_false_iff_ne, ne_eq]; exact fun e => k (by rw [e]; rfl)
  rw [h1, h2]; rfl
theorem sep_not {b : UInt8} (h : sepB b = false) : b ≠ 32 := fun e => by rw [e] at h; revert h; decide
theorem itoa_sep {n : Int} (h0 : -1000000000000000 ≤ n) (h1 : n ≤ 1000000000000000) : ∀ b ∈ itoa n, sepB b = false := by
  intro b hb
  by_cases h : n < 0
  · rw [← itoa_neg h h0] at hb
    rcases List.mem_cons.1 hb with rfl | q
    · decide
    · have := dec_digit _ b q
      exact sep_off (by omega) (by omega)
  · rw [← itoa_pos (by omega) h1] at hb
    have := dec_digit _ b hb
    exact sep_off (by omega) (by omega)
theorem wordL_sep {k : Int} (h1 : 1 ≤ k) (h5 : k ≤ 5) : ∀ b ∈ wordL k, sepB b = false := by
  have : k = 1 ∨ k = 2 ∨ k = 3 ∨ k = 4 ∨ k = 5 := by omega
  rcases this with rfl | rfl | rfl | rfl | rfl <;> decide
theorem lets_sep {lo hi : Int} (h0 : 33 ≤ lo) {l : List UInt8} (h : lets lo hi l = true) : ∀ b ∈ l, sepB b = false := by
  intro b hb
  unfold lets at h
  have := List.all_eq_true.1 h b hb
  simp only [letB, decide_eq_true_eq] at this
  exact sep_off (by omega) (by omega)
theorem name_sep {s : ByteArray} (h : nameB s = true) : ∀ b ∈ s.data.toList, sepB b = false := by
  unfold nameB at h
  rw [Bool.and_eq_true] at h
  exact lets_sep (by omega) h.2
theorem cur_sep {s : ByteArray} (h : curB s = true) : ∀ b ∈ s.data.toList, sepB b = false := by
  unfold curB at h
  rw [Bool.and_eq_true] at h
  exact lets_sep (by omega) h.2
theorem empty_of {s : ByteArray} (h : s.toList.isEmpty = true) : s = ⟨#[]⟩ := by
  rw [Lib.toList_data] at h
  have e : s.data.toList = [] := by simpa using h
  exact ByteArray.ext (by have := congrArg List.toArray e; simpa using this)
theorem cut_at {a r : List UInt8} (h : ∀ b ∈ a, sepB b = false) : wordOf (a ++ 32 :: r) = a ∧ restOf (a ++ 32 :: r) = 32 :: r := word_app h (fun c hc => by simp at hc; subst hc; decide)
theorem cut_end {a : List UInt8} (h : ∀ b ∈ a, sepB b = false) : wordOf a = a ∧ restOf a = [] := by
  have := word_app (r := []) h (fun c hc => by simp at hc)
  simpa using this
/-- what a right command is made of -/
theorem cmd_parts {c : Cm} (h : c.B = true) : (1 ≤ c.id ∧ c.id ≤ 1000000000) ∧
    (((c.kind = 4 ∨ c.kind = 5) ∧ c.fr = ⟨#[]⟩ ∧ c.«to» = ⟨#[]⟩ ∧ c.am = 0 ∧ (1 ≤ c.ref ∧ c.ref ≤ 1000000000)) ∨
     ((c.kind = 1 ∨ c.kind = 2 ∨ c.kind = 3) ∧ (∀ b ∈ c.fr.data.toList, sepB b = false) ∧ (∀ b ∈ c.«to».data.toList, sepB b = false) ∧ (-1 ≤ c.am ∧ c.am ≤ 1000000000000) ∧ c.ref = 0)) := by
  unfold Cm.B at h
  have hk := cmd_kind h
  unfold cmdB at h
  rw [Bool.and_eq_true] at h
  refine ⟨inB_iff.1 h.1, ?_⟩
  by_cases k1 : c.kind = 1
  · rw [if_pos k1] at h
    simp only [Bool.and_eq_true, beq_iff_eq] at h
    exact .inr ⟨.inl k1, name_sep h.2.1.1.1, cur_sep h.2.1.1.2, inB_iff.1 h.2.1.2, h.2.2⟩
  · rw [if_neg k1] at h
    by_cases k2 : c.kind = 2 ∨ c.kind = 3
    · rw [if_pos k2] at h
      simp only [Bool.and_eq_true, beq_iff_eq] at h
      have := inB_iff.1 h.2.1.2
      exact .inr ⟨.inr k2, name_sep h.2.1.1.1.1, name_sep h.2.1.1.1.2, ⟨by omega, by omega⟩, h.2.2⟩
    · rw [if_neg k2] at h
      by_cases k4 : c.kind = 4 ∨ c.kind = 5
      · rw [if_pos k4] at h
        simp only [Bool.and_eq_true, beq_iff_eq] at h
        exact .inl ⟨k4, empty_of h.2.1.1.1, empty_of h.2.1.1.2, h.2.1.2, inB_iff.1 h.2.2⟩
      · rw [if_neg k4] at h
        simp at h
theorem T_hold {c : Cm} (h : c.B = true) (k : c.kind = 4 ∨ c.kind = 5) : c.T = itoa c.id ++ 32 :: (wordL c.kind ++ 32 :: itoa c.ref) := by
  unfold Cm.T cmdT
  unfold Cm.B at h
  rw [if_pos h, if_pos k]
  simp
theorem T_else {c : Cm} (h : c.B = true) (k : ¬ (c.kind = 4 ∨ c.kind = 5)) : c.T = itoa c.id ++ 32 :: (wordL c.kind ++ 32 :: (c.fr.data.toList ++ 32 :: (c.«to».data.toList ++ 32 :: itoa c.am))) := by
  unfold Cm.T cmdT
  unfold Cm.B at h
  rw [if_pos h, if_neg k]
  simp
theorem parse_text {l : List UInt8} {c : Cm} (h : ParseOk l c []) : c.B = true ∧ c.T = l := by
  obtain ⟨⟨_, hid⟩, r1, e1, ⟨_, _, hk⟩, hr, hB⟩ := h
  refine ⟨hB, ?_⟩
  have s1 := word_rest l
  have s2 := word_rest r1
  rcases hr with ⟨q, r2, e2, ⟨_, href⟩, _, _, _, e3⟩ | ⟨q, r2, r3, r4, e2, hf, e3, ht, e4, ⟨_, ham⟩, _, e5⟩
  · have s3 := word_rest r2
    rw [← e3, List.append_nil] at s3
    rw [T_hold hB q, hid, hk, href, s3, ← e2, s2, ← e1, s1]
  · have s3 := word_rest r2
    have s4 := word_rest r3
    have s5 := word_rest r4
    rw [← e5, List.append_nil] at s5
    rw [T_else hB q, hid, hk, hf, ht, bs_list, bs_list, ham, s5, ← e4, s4, ← e3, s3, ← e2, s2, ← e1, s1]
theorem text_parse {l : List UInt8} {c : Cm} (h : c.B = true) (e : c.T = l) : ParseOk l c [] := by
  obtain ⟨⟨i0, i1⟩, hp⟩ := cmd_parts h
  have hi := itoa_sep (n := c.id) (by omega) (by omega)
  rcases hp with ⟨k, f0, t0, a0, r0, r1⟩ | ⟨k, f0, t0, ⟨a0, a1⟩, r0⟩
  · rw [T_hold h k] at e
    subst e
    obtain ⟨w1, w2⟩ := cut_at (r := wordL c.kind ++ 32 :: itoa c.ref) hi
    obtain ⟨w3, w4⟩ := cut_at (r := itoa c.ref) (wordL_sep (k := c.kind) (by omega) (by omega))
    obtain ⟨w5, w6⟩ := cut_end (itoa_sep (n := c.ref) (by omega) (by omega))
    refine ⟨⟨⟨by omega, by omega⟩, w1.symm⟩, _, w2, ⟨by omega, by omega, w3.symm⟩, .inl ⟨k, _, w4, ⟨⟨by omega, by omega⟩, w5.symm⟩, f0, t0, a0, w6.symm⟩, h⟩
  · have k' : ¬ (c.kind = 4 ∨ c.kind = 5) := by omega
    rw [T_else h k'] at e
    subst e
    obtain ⟨w1, w2⟩ := cut_at (r := wordL c.kind ++ 32 :: (c.fr.data.toList ++ 32 :: (c.«to».data.toList ++ 32 :: itoa c.am))) hi
    obtain ⟨w3, w4⟩ := cut_at (r := c.fr.data.toList ++ 32 :: (c.«to».data.toList ++ 32 :: itoa c.am)) (wordL_sep (k := c.kind) (by omega) (by omega))
    obtain ⟨w5, w6⟩ := cut_at (r := c.«to».data.toList ++ 32 :: itoa c.am) f0
    obtain ⟨w7, w8⟩ := cut_at (r := itoa c.am) t0
    obtain ⟨w9, wa⟩ := cut_end (itoa_sep (n := c.am) (by omega) (by omega))
    refine ⟨⟨⟨by omega, by omega⟩, w1.symm⟩, _, w2, ⟨by omega, by omega, w3.symm⟩, .inr ⟨k', _, _, _, w4, ?_, w6, ?_, w8, ⟨⟨by omega, by omega⟩, w9.symm⟩, r0, wa.symm⟩, h⟩
    · rw [w5]; exact bs_of rfl
    · rw [w7]; exact bs_of rfl
theorem numV_itoa {n : Int} (h0 : -99999999999999 ≤ n) (h1 : n ≤ 99999999999999) : numV (itoa n) = n := by
  unfold numV
  rw [if_pos (int_itoa h0 h1).1]
  exact (int_itoa h0 h1).2
theorem kd_unique {k k' : Int} (h1 : 1 ≤ k) (h5 : k ≤ 5) (h : KdIs (wordL k) 6 k') : k' = k := by
  rcases h with ⟨a, b, e⟩ | ⟨a, _⟩
  · exact wordL_inj ⟨a, by omega⟩ ⟨h1, h5⟩ e
  · exact absurd rfl (a k h1 (by omega))
/-- the words of a command's text make that command -/
theorem cand_text {c : Cm} (h : c.B = true) : 3 ≤ (wordsL c.T).length ∧ ∀ c', CandIs (wordsL c.T) c' → c' = c := by
  obtain ⟨⟨i0, i1⟩, hp⟩ := cmd_parts h
  have hi : ∀ b ∈ itoa c.id, b ≠ 32 := fun b hb => sep_not (itoa_sep (n := c.id) (by omega) (by omega) b hb)
  rcases hp with ⟨k, f0, t0, a0, r0, r1⟩ | ⟨k, f0, t0, ⟨a0, a1⟩, r0⟩
  · have hk : ∀ b ∈ wordL c.kind, b ≠ 32 := fun b hb => sep_not (wordL_sep (by omega) (by omega) b hb)
    have hr : ∀ b ∈ itoa c.ref, b ≠ 32 := fun b hb => sep_not (itoa_sep (n := c.ref) (by omega) (by omega) b hb)
    have e : wordsL c.T = [itoa c.id, wordL c.kind, itoa c.ref] := by rw [T_hold h k, wordsL_cut _ _ hi, wordsL_cut _ _ hk, wordsL_none _ hr]
    rw [e]
    refine ⟨by simp, fun c' hc => ?_⟩
    obtain ⟨x, e1, e2⟩ := hc.a
    obtain ⟨y, e3, e4⟩ := hc.b
    obtain ⟨z, e5, e6⟩ := hc.c3 rfl
    obtain ⟨e7, e8, e9⟩ := hc.n5 (by simp)
    simp at e1 e3 e5
    subst e1 e3 e5
    have q1 := kd_unique (by omega) (by omega) e4
    rw [numV_itoa (by omega) (by omega)] at e2 e6
    cases c; cases c'
    simp only at *
    subst q1 e2 e6 e7 e8 e9 f0 t0 a0
    rfl
  · have k' : ¬ (c.kind = 4 ∨ c.kind = 5) := by omega
    have hk : ∀ b ∈ wordL c.kind, b ≠ 32 := fun b hb => sep_not (wordL_sep (by omega) (by omega) b hb)
    have hr : ∀ b ∈ itoa c.am, b ≠ 32 := fun b hb => sep_not (itoa_sep (n := c.am) (by omega) (by omega) b hb)
    have e : wordsL c.T = [itoa c.id, wordL c.kind, c.fr.data.toList, c.«to».data.toList, itoa c.am] := by rw [T_else h k', wordsL_cut _ _ hi, wordsL_cut _ _ hk, wordsL_cut _ _ (fun b hb => sep_not (f0 b hb)), wordsL_cut _ _ (fun b hb => sep_not (t0 b hb)), wordsL_none _ hr]
    rw [e]
    refine ⟨by simp, fun c' hc => ?_⟩
    obtain ⟨x, e1, e2⟩ := hc.a
    obtain ⟨y, e3, e4⟩ := hc.b
    obtain ⟨x2, x3, x4, e5, e6, e7, e8, e9, ea⟩ := hc.c5 rfl
    have eb := hc.n3 (by simp)
    simp at e1 e3 e5 e6 e7
    subst e1 e3 e5 e6 e7
    have q1 := kd_unique (by omega) (by omega) e4
    rw [numV_itoa (by omega) (by omega)] at e2 ea
    rw [← bs_of (r := c.fr) rfl] at e8
    rw [← bs_of (r := c.«to») rfl] at e9
    cases c; cases c'
    simp only at *
    subst q1 e2 ea e8 e9 eb r0
    rfl
theorem T_ne {c : Cm} {l : List UInt8} (h : c.T = l) (h3 : 3 ≤ (wordsL l).length) : c.B = true := by
  cases hb : c.B
  · unfold Cm.B at hb
    have : c.T = [] := by unfold Cm.T cmdT; rw [hb]; rfl
    rw [← h, this] at h3
    simp [wordsL] at h3
  · rfl
/-- both answer the same -/
theorem both {l : List UInt8} {e e' : Ending}
    (h : (∃ c, ParseOk l c [] ∧ e = .returned (.tuple #[c.v, .bool true])) ∨ ((∀ c, ¬ ParseOk l c []) ∧ e = .returned (.tuple #[.agg #[.int .i64 0, .int .i64 0, .string ⟨#[]⟩, .string ⟨#[]⟩, .int .i64 0, .int .i64 0], .bool false])))
    (h' : (∃ c, (3 ≤ (wordsL l).length ∧ CandIs (wordsL l) c ∧ c.T = l) ∧ e' = .returned (.tuple #[c.v, .bool true])) ∨ (((wordsL l).length < 3 ∨ ∃ c, CandIs (wordsL l) c ∧ c.T ≠ l) ∧ e' = .returned (.tuple #[.agg #[.int .i64 0, .int .i64 0, .string ⟨#[]⟩, .string ⟨#[]⟩, .int .i64 0, .int .i64 0], .bool false]))) :
    ∃ (c : Cm) (b : Bool), e = .returned (.tuple #[c.v, .bool b]) ∧ e' = .returned (.tuple #[c.v, .bool b]) := by
  rcases h with ⟨c, hp, rfl⟩ | ⟨hn, rfl⟩
  · obtain ⟨hB, hT⟩ := parse_text hp
    obtain ⟨h3, hu⟩ := cand_text hB
    rw [hT] at h3 hu
    rcases h' with ⟨c', ⟨_, hc, _⟩, rfl⟩ | ⟨h9 | ⟨c', hc, hne⟩, rfl⟩
    · rw [hu c' hc]
      exact ⟨c, true, rfl, rfl⟩
    · omega
    · rw [hu c' hc] at hne
      exact absurd hT hne
  · rcases h' with ⟨c', ⟨h3, _, hT⟩, rfl⟩ | ⟨_, rfl⟩
    · exact absurd (text_parse (T_ne hT h3) hT) (hn c')
    · exact ⟨⟨0, 0, ⟨#[]⟩, ⟨#[]⟩, 0, 0⟩, false, rfl, rfl⟩
end Go.Proofs.YtbcodlgpdehdhaaGreatDoor
