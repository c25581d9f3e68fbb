/- The plain mathematics of reading an amount: no program is named here. -/
import Derived.Test.YteaopalhbnhbaaaGreatDoorGa
import Derived.Test.YteaopalhbnhbaaaGreatDoorGc
import Derived.Test.YteaopalhbnhbaaaGreatDoorGl
import Derived.Lib.Strings
import Derived.Lib.IndexBytes
import Derived.Deep.QuietTactic
import Derived.BigQuiet
import Derived.Deep.DeepCutAuto
namespace Go.Proofs.YteaopalhbnhbaaaGreatDoor
def inR (n : Int) : Prop := -1000000000000 ≤ n ∧ n ≤ 1000000000000
theorem hundL_bd (l : List UInt8) (a : Int) (m : Nat) (h : -(m : Int) ≤ a ∧ a ≤ m) : -(((m + 23) * 10 ^ l.length : Nat) : Int) ≤ hundL l a ∧ hundL l a ≤ (((m + 23) * 10 ^ l.length : Nat) : Int) := by
  induction l generalizing a m with
  | nil => simp only [hundL, List.length_nil, Nat.pow_zero, Nat.mul_one]; omega
  | cons c cs ih =>
    have hc := c.toNat_lt
    simp only [hundL, List.length_cons]
    have e : (m + 23) * 10 ^ (cs.length + 1) = (10 * m + 207 + 23) * 10 ^ cs.length := by
      rw [Nat.pow_succ, Nat.mul_comm (10 ^ cs.length) 10, ← Nat.mul_assoc]; congr 1; omega
    split
    · have := ih a (10 * m + 207) (by omega)
      rw [e]; exact this
    · have := ih (10 * a + c.toNat - 48) (10 * m + 207) (by omega)
      rw [e]; exact this
theorem hundL_small (l : List UInt8) (k : Nat) (h : l.length ≤ k) (hk : k ≤ 15) : -(23000000000000000 : Int) ≤ hundL l 0 ∧ hundL l 0 ≤ 23000000000000000 := by
  have := hundL_bd l 0 0 (by omega)
  have h2 : 10 ^ l.length ≤ 10 ^ 15 := Nat.pow_le_pow_right (by omega) (by omega)
  omega
theorem hundL_small14 (l : List UInt8) (h : l.length ≤ 14) : -(2300000000000000 : Int) ≤ hundL l 0 ∧ hundL l 0 ≤ 2300000000000000 := by
  have := hundL_bd l 0 0 (by omega)
  have h2 : 10 ^ l.length ≤ 10 ^ 14 := Nat.pow_le_pow_right (by omega) (by omega)
  omega
def hund (l : List UInt8) : Int := if l.head? = some 45 then -(hundL l.tail 0) else hundL l 0
theorem decA_ne_nil (f n : Nat) (acc : List UInt8) : decA (f + 1) n acc ≠ [] := by
  induction f generalizing n acc with
  | zero =>
    by_cases h : n < 10
    · rw [decA_small _ _ _ h]; simp
    · rw [decA_big _ _ _ (by omega)]; simp [decA]
  | succ f ih =>
    by_cases h : n < 10
    · rw [decA_small _ _ _ h]; simp
    · rw [decA_big _ _ _ (by omega)]; exact ih _ _
theorem dec_ne_nil (n : Nat) : dec n ≠ [] := decA_ne_nil 19 n []
theorem head_dec (n : Nat) (r : List UInt8) : (dec n ++ r).head? ≠ some 45 := by
  intro h
  cases hd : dec n with
  | nil => exact dec_ne_nil n hd
  | cons c cs =>
    rw [hd] at h
    simp at h
    have := dec_digit n c (by rw [hd]; simp)
    rw [h] at this
    revert this; decide
theorem hund_amt (n : Int) (h : inR n) : hund (amt n) = n := by
  obtain ⟨h1, h2⟩ := h
  unfold amt
  rw [if_pos ⟨h1, h2⟩]
  unfold hund
  by_cases hn : n < 0
  · rw [if_pos hn, if_pos (by rfl)]
    show -(hundL (dec _ ++ _) 0) = n
    rw [hundL_amt n.natAbs (by omega)]; omega
  · rw [if_neg hn, List.nil_append, if_neg (head_dec _ _), hundL_amt n.natAbs (by omega)]; omega
theorem hund_nil : hund [] = 0 := rfl
theorem amt_out (n : Int) (h : ¬ inR n) : amt n = [] := by
  unfold inR at h; unfold amt; rw [if_neg h]
theorem amt_inj {n m : Int} (hn : inR n) (hm : inR m) (h : amt n = amt m) : n = m := by
  rw [← hund_amt n hn, ← hund_amt m hm, h]
theorem amt_ne_nil (n : Int) (h : inR n) : amt n ≠ [] := by
  unfold inR at h; unfold amt; rw [if_pos h]; simp
theorem amt_len (n : Int) : (amt n).length ≤ 15 := by
  unfold amt
  split
  · rename_i h
    have := dec_len 10 (n.natAbs / 100) (by omega) (by omega)
    split <;> simp <;> omega
  · simp
/-- a text whose reading, written again, is not itself, is no text of an amount -/
theorem not_amt (s : ByteArray) (hno : ∀ n, inR n → s ≠ bs (amt n)) : bs (amt (hund s.data.toList)) ≠ s := by
  intro e
  by_cases h : inR (hund s.data.toList)
  · exact hno _ h e.symm
  · rw [amt_out _ h] at e
    rw [← e] at h
    exact h (by rw [bs_list]; exact ⟨by decide, by decide⟩)
end Go.Proofs.YteaopalhbnhbaaaGreatDoor
/- The contract of the model's l1Cut. -/
namespace Go.Proofs.YteaopalhbnhbaaaGreatDoor
open Go.ChangeShapes Go.WideShapes Go.ChangeAt Go.RowKit
set_option linter.unusedVariables false
set_option maxRecDepth 100000
theorem head_of (s : ByteArray) (h : 1 ≤ s.size) : s.data.toList = s[0] :: s.data.toList.tail := by
  have hl : s.data.toList.length = s.size := by simp
  cases e : s.data.toList with
  | nil => rw [e] at hl; simp at hl; omega
  | cons c cs =>
    have : s.data.toList[0]'(by omega) = c := by simp [e]
    rw [List.tail_cons]; congr 1; rw [← this]; rfl
theorem first_eq (s : ByteArray) (h : 1 ≤ s.size) : (s.extract 0 1).toList = [s[0]] := by
  rw [Lib.toList_data, Lib.extract_data, head_of s h]; rfl
theorem hundL_snoc (l : List UInt8) (c : UInt8) (a : Int) : hundL (l ++ [c]) a = if c.toNat = 46 then hundL l a else 10 * hundL l a + c.toNat - 48 := by
  rw [hundL_append]; simp only [hundL]

theorem split_at (s : ByteArray) (k : Nat) (h : k < s.size) : s.data.toList = s.data.toList.take k ++ s[k] :: s.data.toList.drop (k + 1) := by
  have e := (List.take_append_drop (k + 1) s.data.toList).symm
  rw [take_snoc s k h, List.append_assoc] at e
  exact e
theorem extract_take (s : ByteArray) (k : Nat) : s.extract 0 k = bs (s.data.toList.take k) := bs_of (by rw [Lib.extract_data]; simp)
theorem extract_drop (s : ByteArray) (k : Nat) : s.extract k s.size = bs (s.data.toList.drop k) := bs_of (by rw [Lib.extract_to_end])
set_option maxHeartbeats 400000 in
theorem l1Cut_any (s : ByteArray) (c : Int) (w : World) (hs : s.size ≤ maxLen) :
    Calls Tryz.prog 37 #[.string s, .int .u8 c] w fun e w' => Kept w w' ∧ ((∃ (a : List UInt8) (x : UInt8) (r : List UInt8), s.data.toList = a ++ x :: r ∧ (x.toNat : Int) = c ∧ (∀ b ∈ a, (b.toNat : Int) ≠ c) ∧ e = .returned (.tuple #[.string (bs a), .string (bs r), .bool true])) ∨
      ((∀ b ∈ s.data.toList, (b.toNat : Int) ≠ c) ∧ e = .returned (.tuple #[.string s, .string ⟨#[]⟩, .bool false]))) := by
  unfold maxLen at hs
  go_enter Tryz.func37, Tryz.ntmps37
  go_wp2
  go_loop [7] (fun i => ∃ k : Nat, k ≤ s.size ∧ i = .int .i64 k ∧ Hid (∀ b ∈ s.data.toList.take k, (b.toNat : Int) ≠ c)) (fun i => s.size - (intOf i).toNat)
  case atStart => exact ⟨0, Nat.zero_le _, rfl, hide (by simp)⟩
  case round =>
    obtain ⟨k, hk, rfl, HL⟩ := hrel
    by_cases hlt : k < s.size
    · by_cases hc : (s[k].toNat : Int) = c
      · have HS : Hid _ := hide (split_at s k hlt)
        have HC : Hid _ := hide hc
        have hq : ((s[k].toNat : Int) == c) = true := by simpa using hc
        clear hc
        go_wp2
        go_quiet (fail)
        go_wp2
        go_ret3
        exact ⟨(Kept.refl _).drewN _, .inl ⟨_, _, _, HS.out, HC.out, HL.out, by rw [← extract_take, ← extract_drop]; rfl⟩⟩
      · have HS : Hid (∀ b ∈ s.data.toList.take (k + 1), (b.toNat : Int) ≠ c) := hide (by
          rw [take_snoc s k hlt]
          intro b hb
          rcases List.mem_append.1 hb with h | h
          · exact HL.out b h
          · simp at h; rw [h]; exact hc)
        have hq : ((s[k].toNat : Int) == c) = false := by simpa using hc
        clear hc
        go_wp2
        go_round
        case rel => exact ⟨k + 1, by omega, by go_num, HS⟩
        case measure => simp [intOf]; omega
    · have HE : Hid (s.data.toList.take k = s.data.toList) := hide (by rw [List.take_of_length_le (by simp; omega)])
      go_wp2
      go_ret3
      exact ⟨Kept.refl _, .inr ⟨by have := HL.out; rw [HE.out] at this; simpa using this, rfl⟩⟩
end Go.Proofs.YteaopalhbnhbaaaGreatDoor
/- The contract of the model's l1Int: a number in decimal. -/
namespace Go.Proofs.YteaopalhbnhbaaaGreatDoor
open Go.ChangeShapes Go.WideShapes Go.ChangeAt Go.RowKit
set_option linter.unusedVariables false
set_option maxRecDepth 100000
def negB (l : List UInt8) : Bool := decide (1 < l.length) && decide (l.head? = some 45)
def bodyL (l : List UInt8) : List UInt8 := if negB l = true then l.tail else l
def formB (t : List UInt8) (neg : Bool) : Bool := decide (1 ≤ t.length) && decide (t.length ≤ 14) && !(decide (t.head? = some 48) && (decide (1 < t.length) || neg))
def digB (c : UInt8) : Bool := decide (48 ≤ (c.toNat : Int) ∧ (c.toNat : Int) ≤ 57)
def intB (l : List UInt8) : Bool := formB (bodyL l) (negB l) && (bodyL l).all digB
def intV (l : List UInt8) : Int := if intB l = true then (if negB l = true then -(hundL (bodyL l) 0) else hundL (bodyL l) 0) else 0
theorem bodyL_len (l : List UInt8) : (bodyL l).length ≤ l.length := by unfold bodyL; split <;> simp
theorem first_byte (s : ByteArray) (h : 0 < s.size) (c : UInt8) : (s.data.toList.head? = some c) ↔ s[0] = c := by
  rw [head_of s h]; simp
theorem byte_inj (a c : UInt8) (n : Nat) (hc : c.toNat = n) : (((a.toNat : Int) == (n : Int)) = true) ↔ a = c := by
  constructor
  · intro h; apply UInt8.toNat_inj.1; simp at h; omega
  · intro h; subst h; simp; omega
set_option maxHeartbeats 1000000 in
theorem l1Int_neg (s : ByteArray) (w : World) (hs : s.size ≤ maxLen) (hneg : negB s.data.toList = true) :
    Calls Tryz.prog 79 #[.string s] w fun e w' => e = .returned (.tuple #[.int .i64 (intV s.data.toList), .bool (intB s.data.toList)]) ∧ w' = w := by
  unfold maxLen at hs
  have HN : Hid (negB s.data.toList = true) := hide hneg
  have h1 : 1 < s.size := by unfold negB at hneg; rw [← list_size s]; simp at hneg; simpa using hneg.1
  have g0 : 0 < s.size := by omega
  have h2 : ((s[0].toNat : Int) == 45) = true := (byte_inj s[0] 45 45 rfl).2 ((first_byte s g0 45).1 (by unfold negB at hneg; simp at hneg; simpa using hneg.2))
  have h1' : (1 : Int) < (s.size : Int) := by omega
  clear hneg
  have HT0 : Hid ((s.extract 1 s.size).data.toList = bodyL s.data.toList) := hide (by unfold bodyL; rw [if_pos HN.out, Lib.extract_to_end, List.drop_one])
  have hl0 : (s.extract 1 s.size).size ≤ s.size := by simp
  go_enter Tryz.func79, Tryz.ntmps79
  go_upto_region 4 with fail
  generalize hte : s.extract 1 s.size = t at *
  clear hte
  have HT := HT0
  clear HT0 h1 h2 h1'
  have hts : t.size ≤ 2 ^ 63 - 1 := by omega
  by_cases f1 : 1 ≤ t.size
  · by_cases f2 : t.size ≤ 14
    · have gt0 : 0 < t.size := by omega
      by_cases f3 : t[0] = 48 ∧ (1 < t.size ∨ true = true)
      · have HR : Hid (intB s.data.toList = false) := hide (by
          unfold intB; rw [← HT.out, HN.out]
          have : formB t.data.toList true = false := by
            unfold formB
            rw [decide_eq_true ((first_byte t gt0 48).2 f3.1)]
            rcases f3.2 with h | h
            · first | (simp; done) | (simp [h]; done)
            · first | (simp; done) | cases h
          rw [this]; rfl)
        have hq : ((t[0].toNat : Int) == 48) = true := (byte_inj t[0] 48 48 rfl).2 f3.1
        have f4 := f3.2
        clear f3
        clear f4
        go_wp2
        all_goals go_ret2
        all_goals exact ⟨by unfold intV; rw [HR.out]; rfl, rfl⟩
      · have hform : formB t.data.toList true = true := by
          unfold formB
          have e1 : (decide (t.data.toList.head? = some 48) && (decide (1 < t.data.toList.length) || true)) = false := by
            rw [Bool.eq_false_iff]; intro h
            simp only [Bool.and_eq_true, decide_eq_true_eq, Bool.or_eq_true] at h
            exact f3 ⟨(first_byte t gt0 48).1 h.1, by simp⟩
          rw [e1]; simp [f1, f2]
        have HI : Hid (intB s.data.toList = t.data.toList.all digB) := hide (by unfold intB; rw [← HT.out, HN.out, hform]; rfl)
        clear hform
        have hcase : ((t[0].toNat : Int) == 48) = false ∨ (((t[0].toNat : Int) == 48) = true ∧ ¬ (1 < (t.size : Int)) ∧ true = false) := by
          by_cases h : t[0] = 48
          · right
            refine ⟨(byte_inj t[0] 48 48 rfl).2 h, by intro h2; exact f3 ⟨h, .inl (by omega)⟩, ?_⟩
            cases hb : (true : Bool)
            · rfl
            · exact absurd ⟨h, .inr hb⟩ f3
          · left
            rw [Bool.eq_false_iff]; intro h2; exact h ((byte_inj t[0] 48 48 rfl).1 h2)
        clear f3
        rcases hcase with hq | ⟨hq, hq1, hq2⟩
        · go_wp2
          go_loop [5, 6] (fun n i => ∃ k : Nat, k ≤ t.size ∧ i = .int .i64 k ∧ n = .int .i64 (hundL (t.data.toList.take k) 0) ∧ Hid ((t.data.toList.take k).all digB = true)) (fun n i => t.size - (intOf i).toNat)
          case atStart => exact ⟨0, Nat.zero_le _, rfl, rfl, hide rfl⟩
          case round =>
            obtain ⟨k, hk, rfl, rfl, HL⟩ := hrel
            by_cases hlt : k < t.size
            · have hsn := take_snoc t k hlt
              have hbd := hundL_small14 (t.data.toList.take k) (by rw [List.length_take, list_size]; omega)
              obtain ⟨b1, b2⟩ := hbd
              have hbyte := (t[k]).toNat_lt
              by_cases d1 : (t[k].toNat : Int) < 48
              · have HR : Hid (intB s.data.toList = false) := hide (by rw [HI.out, split_at t k hlt]; simp [digB]; intro _ h2; omega)
                clear hsn
                go_wp2
                all_goals go_ret2
                all_goals exact ⟨by unfold intV; rw [HR.out]; rfl, rfl⟩
              · by_cases d2 : 57 < (t[k].toNat : Int)
                · have HR : Hid (intB s.data.toList = false) := hide (by rw [HI.out, split_at t k hlt]; simp [digB]; intro _ _ h3; omega)
                  clear hsn
                  go_wp2
                  all_goals go_ret2
                  all_goals exact ⟨by unfold intV; rw [HR.out]; rfl, rfl⟩
                · have HS : Hid (hundL (t.data.toList.take (k + 1)) 0 = hundL (t.data.toList.take k) 0 * 10 + ((t[k].toNat : Int) - 48)) := hide (by rw [hsn, hundL_snoc, if_neg (by omega)]; omega)
                  have HA : Hid ((t.data.toList.take (k + 1)).all digB = true) := hide (by rw [hsn, List.all_append, HL.out]; simp [digB]; omega)
                  clear hsn
                  generalize hundL (t.data.toList.take k) 0 = x at *
                  go_wp2
                  go_round
                  case rel => exact ⟨k + 1, by omega, by go_num, by rw [HS.out], HA⟩
                  case measure => simp [intOf]; omega
            · have HE : Hid (t.data.toList.take k = t.data.toList) := hide (by rw [List.take_of_length_le (by simp; omega)])
              have HR : Hid (intB s.data.toList = true) := hide (by rw [HI.out, ← HE.out]; exact HL.out)
              have HV : Hid (intV s.data.toList = -(hundL (t.data.toList.take k) 0)) := hide (by unfold intV; rw [if_pos HR.out, HN.out, ← HT.out, HE.out]; rfl)
              have hbd := hundL_small14 (t.data.toList.take k) (by rw [List.length_take, list_size]; omega)
              obtain ⟨b1, b2⟩ := hbd
              generalize hundL (t.data.toList.take k) 0 = x at *
              go_wp2
              go_ret2
              exact ⟨by rw [HV.out, HR.out]; rfl, rfl⟩
        · cases hq2
    · have HR : Hid (intB s.data.toList = false) := hide (by
        unfold intB; rw [← HT.out, HN.out]
        have : formB t.data.toList true = false := by unfold formB; simp [f2]
        rw [this]; rfl)
      go_wp2
      all_goals go_ret2
      all_goals exact ⟨by unfold intV; rw [HR.out]; rfl, rfl⟩
  · have HR : Hid (intB s.data.toList = false) := hide (by
      unfold intB; rw [← HT.out, HN.out]
      have : formB t.data.toList true = false := by unfold formB; simp [f1]
      rw [this]; rfl)
    go_wp2
    all_goals go_ret2
    all_goals exact ⟨by unfold intV; rw [HR.out]; rfl, rfl⟩

set_option maxHeartbeats 1000000 in
theorem l1Int_pos (s : ByteArray) (w : World) (hs : s.size ≤ maxLen) (hneg : negB s.data.toList = false) :
    Calls Tryz.prog 79 #[.string s] w fun e w' => e = .returned (.tuple #[.int .i64 (intV s.data.toList), .bool (intB s.data.toList)]) ∧ w' = w := by
  unfold maxLen at hs
  obtain ⟨t, rfl⟩ : ∃ t, t = s := ⟨s, rfl⟩
  have HN : Hid (negB t.data.toList = false) := hide hneg
  have HT : Hid (t.data.toList = bodyL t.data.toList) := hide (by unfold bodyL; rw [if_neg (by rw [hneg]; simp)])
  have hcut : (1 < t.size ∧ ∃ h : 0 < t.size, ((t[0].toNat : Int) == 45) = false) ∨ ¬ 1 < t.size := by
    by_cases h1 : 1 < t.size
    · left
      refine ⟨h1, by omega, ?_⟩
      rw [Bool.eq_false_iff]
      intro h2
      have := (first_byte t (by omega) 45).2 ((byte_inj t[0] 45 45 rfl).1 h2)
      unfold negB at hneg
      rw [this, list_size] at hneg
      simp at hneg
      omega
    · exact .inr h1
  clear hneg
  rcases hcut with ⟨h1, g00, h2⟩ | h1
  · have h1' : (1 : Int) < (t.size : Int) := by omega
    go_enter Tryz.func79, Tryz.ntmps79
    go_upto_region 4 with fail
    clear h1 h2 h1'
    have hts : t.size ≤ 2 ^ 63 - 1 := by omega
    by_cases f1 : 1 ≤ t.size
    · by_cases f2 : t.size ≤ 14
      · have gt0 : 0 < t.size := by omega
        by_cases f3 : t[0] = 48 ∧ (1 < t.size ∨ false = true)
        · have HR : Hid (intB t.data.toList = false) := hide (by
            unfold intB; rw [← HT.out, HN.out]
            have : formB t.data.toList false = false := by
              unfold formB
              rw [decide_eq_true ((first_byte t gt0 48).2 f3.1)]
              rcases f3.2 with h | h
              · first | (simp; done) | (simp [h]; done)
              · first | (simp; done) | cases h
            rw [this]; rfl)
          have hq : ((t[0].toNat : Int) == 48) = true := (byte_inj t[0] 48 48 rfl).2 f3.1
          have f4 := f3.2
          clear f3
          have f5 : (1 : Int) < (t.size : Int) := by rcases f4 with h | h <;> first | omega | cases h
          clear f4
          go_wp2
          all_goals go_ret2
          all_goals exact ⟨by unfold intV; rw [HR.out]; rfl, rfl⟩
        · have hform : formB t.data.toList false = true := by
            unfold formB
            have e1 : (decide (t.data.toList.head? = some 48) && (decide (1 < t.data.toList.length) || false)) = false := by
              rw [Bool.eq_false_iff]; intro h
              simp only [Bool.and_eq_true, decide_eq_true_eq, Bool.or_eq_true] at h
              exact f3 ⟨(first_byte t gt0 48).1 h.1, by simpa [list_size] using h.2⟩
            rw [e1]; simp [f1, f2]
          have HI : Hid (intB t.data.toList = t.data.toList.all digB) := hide (by unfold intB; rw [← HT.out, HN.out, hform]; rfl)
          clear hform
          have hcase : ((t[0].toNat : Int) == 48) = false ∨ (((t[0].toNat : Int) == 48) = true ∧ ¬ (1 < (t.size : Int)) ∧ false = false) := by
            by_cases h : t[0] = 48
            · right
              refine ⟨(byte_inj t[0] 48 48 rfl).2 h, by intro h2; exact f3 ⟨h, .inl (by omega)⟩, ?_⟩
              cases hb : (false : Bool)
              · rfl
              · exact absurd ⟨h, .inr hb⟩ f3
            · left
              rw [Bool.eq_false_iff]; intro h2; exact h ((byte_inj t[0] 48 48 rfl).1 h2)
          clear f3
          rcases hcase with hq | ⟨hq, hq1, hq2⟩
          · go_wp2
            go_loop [5, 6] (fun n i => ∃ k : Nat, k ≤ t.size ∧ i = .int .i64 k ∧ n = .int .i64 (hundL (t.data.toList.take k) 0) ∧ Hid ((t.data.toList.take k).all digB = true)) (fun n i => t.size - (intOf i).toNat)
            case atStart => exact ⟨0, Nat.zero_le _, rfl, rfl, hide rfl⟩
            case round =>
              obtain ⟨k, hk, rfl, rfl, HL⟩ := hrel
              by_cases hlt : k < t.size
              · have hsn := take_snoc t k hlt
                have hbd := hundL_small14 (t.data.toList.take k) (by rw [List.length_take, list_size]; omega)
                obtain ⟨b1, b2⟩ := hbd
                have hbyte := (t[k]).toNat_lt
                by_cases d1 : (t[k].toNat : Int) < 48
                · have HR : Hid (intB t.data.toList = false) := hide (by rw [HI.out, split_at t k hlt]; simp [digB]; intro _ h2; omega)
                  clear hsn
                  go_wp2
                  all_goals go_ret2
                  all_goals exact ⟨by unfold intV; rw [HR.out]; rfl, rfl⟩
                · by_cases d2 : 57 < (t[k].toNat : Int)
                  · have HR : Hid (intB t.data.toList = false) := hide (by rw [HI.out, split_at t k hlt]; simp [digB]; intro _ _ h3; omega)
                    clear hsn
                    go_wp2
                    all_goals go_ret2
                    all_goals exact ⟨by unfold intV; rw [HR.out]; rfl, rfl⟩
                  · have HS : Hid (hundL (t.data.toList.take (k + 1)) 0 = hundL (t.data.toList.take k) 0 * 10 + ((t[k].toNat : Int) - 48)) := hide (by rw [hsn, hundL_snoc, if_neg (by omega)]; omega)
                    have HA : Hid ((t.data.toList.take (k + 1)).all digB = true) := hide (by rw [hsn, List.all_append, HL.out]; simp [digB]; omega)
                    clear hsn
                    generalize hundL (t.data.toList.take k) 0 = x at *
                    go_wp2
                    go_round
                    case rel => exact ⟨k + 1, by omega, by go_num, by rw [HS.out], HA⟩
                    case measure => simp [intOf]; omega
              · have HE : Hid (t.data.toList.take k = t.data.toList) := hide (by rw [List.take_of_length_le (by simp; omega)])
                have HR : Hid (intB t.data.toList = true) := hide (by rw [HI.out, ← HE.out]; exact HL.out)
                have HV : Hid (intV t.data.toList = hundL (t.data.toList.take k) 0) := hide (by unfold intV; rw [if_pos HR.out, HN.out, ← HT.out, HE.out]; rfl)
                have hbd := hundL_small14 (t.data.toList.take k) (by rw [List.length_take, list_size]; omega)
                obtain ⟨b1, b2⟩ := hbd
                generalize hundL (t.data.toList.take k) 0 = x at *
                go_wp2
                go_ret2
                exact ⟨by rw [HV.out, HR.out]; rfl, rfl⟩
          · clear hq2
            go_wp2
            go_loop [5, 6] (fun n i => ∃ k : Nat, k ≤ t.size ∧ i = .int .i64 k ∧ n = .int .i64 (hundL (t.data.toList.take k) 0) ∧ Hid ((t.data.toList.take k).all digB = true)) (fun n i => t.size - (intOf i).toNat)
            case atStart => exact ⟨0, Nat.zero_le _, rfl, rfl, hide rfl⟩
            case round =>
              obtain ⟨k, hk, rfl, rfl, HL⟩ := hrel
              by_cases hlt : k < t.size
              · have hsn := take_snoc t k hlt
                have hbd := hundL_small14 (t.data.toList.take k) (by rw [List.length_take, list_size]; omega)
                obtain ⟨b1, b2⟩ := hbd
                have hbyte := (t[k]).toNat_lt
                by_cases d1 : (t[k].toNat : Int) < 48
                · have HR : Hid (intB t.data.toList = false) := hide (by rw [HI.out, split_at t k hlt]; simp [digB]; intro _ h2; omega)
                  clear hsn
                  go_wp2
                  all_goals go_ret2
                  all_goals exact ⟨by unfold intV; rw [HR.out]; rfl, rfl⟩
                · by_cases d2 : 57 < (t[k].toNat : Int)
                  · have HR : Hid (intB t.data.toList = false) := hide (by rw [HI.out, split_at t k hlt]; simp [digB]; intro _ _ h3; omega)
                    clear hsn
                    go_wp2
                    all_goals go_ret2
                    all_goals exact ⟨by unfold intV; rw [HR.out]; rfl, rfl⟩
                  · have HS : Hid (hundL (t.data.toList.take (k + 1)) 0 = hundL (t.data.toList.take k) 0 * 10 + ((t[k].toNat : Int) - 48)) := hide (by rw [hsn, hundL_snoc, if_neg (by omega)]; omega)
                    have HA : Hid ((t.data.toList.take (k + 1)).all digB = true) := hide (by rw [hsn, List.all_append, HL.out]; simp [digB]; omega)
                    clear hsn
                    generalize hundL (t.data.toList.take k) 0 = x at *
                    go_wp2
                    go_round
                    case rel => exact ⟨k + 1, by omega, by go_num, by rw [HS.out], HA⟩
                    case measure => simp [intOf]; omega
              · have HE : Hid (t.data.toList.take k = t.data.toList) := hide (by rw [List.take_of_length_le (by simp; omega)])
                have HR : Hid (intB t.data.toList = true) := hide (by rw [HI.out, ← HE.out]; exact HL.out)
                have HV : Hid (intV t.data.toList = hundL (t.data.toList.take k) 0) := hide (by unfold intV; rw [if_pos HR.out, HN.out, ← HT.out, HE.out]; rfl)
                have hbd := hundL_small14 (t.data.toList.take k) (by rw [List.length_take, list_size]; omega)
                obtain ⟨b1, b2⟩ := hbd
                generalize hundL (t.data.toList.take k) 0 = x at *
                go_wp2
                go_ret2
                exact ⟨by rw [HV.out, HR.out]; rfl, rfl⟩
      · have HR : Hid (intB t.data.toList = false) := hide (by
          unfold intB; rw [← HT.out, HN.out]
          have : formB t.data.toList false = false := by unfold formB; simp [f2]
          rw [this]; rfl)
        go_wp2
        all_goals go_ret2
        all_goals exact ⟨by unfold intV; rw [HR.out]; rfl, rfl⟩
    · have HR : Hid (intB t.data.toList = false) := hide (by
        unfold intB; rw [← HT.out, HN.out]
        have : formB t.data.toList false = false := by unfold formB; simp [f1]
        rw [this]; rfl)
      go_wp2
      all_goals go_ret2
      all_goals exact ⟨by unfold intV; rw [HR.out]; rfl, rfl⟩
  · have h1' : ¬ (1 : Int) < (t.size : Int) := by omega
    go_enter Tryz.func79, Tryz.ntmps79
    go_upto_region 4 with fail
    clear h1 h1'
    have hts : t.size ≤ 2 ^ 63 - 1 := by omega
    by_cases f1 : 1 ≤ t.size
    · by_cases f2 : t.size ≤ 14
      · have gt0 : 0 < t.size := by omega
        by_cases f3 : t[0] = 48 ∧ (1 < t.size ∨ false = true)
        · have HR : Hid (intB t.data.toList = false) := hide (by
            unfold intB; rw [← HT.out, HN.out]
            have : formB t.data.toList false = false := by
              unfold formB
              rw [decide_eq_true ((first_byte t gt0 48).2 f3.1)]
              rcases f3.2 with h | h
              · first | (simp; done) | (simp [h]; done)
              · first | (simp; done) | cases h
            rw [this]; rfl)
          have hq : ((t[0].toNat : Int) == 48) = true := (byte_inj t[0] 48 48 rfl).2 f3.1
          have f4 := f3.2
          clear f3
          have f5 : (1 : Int) < (t.size : Int) := by rcases f4 with h | h <;> first | omega | cases h
          clear f4
          go_wp2
          all_goals go_ret2
          all_goals exact ⟨by unfold intV; rw [HR.out]; rfl, rfl⟩
        · have hform : formB t.data.toList false = true := by
            unfold formB
            have e1 : (decide (t.data.toList.head? = some 48) && (decide (1 < t.data.toList.length) || false)) = false := by
              rw [Bool.eq_false_iff]; intro h
              simp only [Bool.and_eq_true, decide_eq_true_eq, Bool.or_eq_true] at h
              exact f3 ⟨(first_byte t gt0 48).1 h.1, by simpa [list_size] using h.2⟩
            rw [e1]; simp [f1, f2]
          have HI : Hid (intB t.data.toList = t.data.toList.all digB) := hide (by unfold intB; rw [← HT.out, HN.out, hform]; rfl)
          clear hform
          have hcase : ((t[0].toNat : Int) == 48) = false ∨ (((t[0].toNat : Int) == 48) = true ∧ ¬ (1 < (t.size : Int)) ∧ false = false) := by
            by_cases h : t[0] = 48
            · right
              refine ⟨(byte_inj t[0] 48 48 rfl).2 h, by intro h2; exact f3 ⟨h, .inl (by omega)⟩, ?_⟩
              cases hb : (false : Bool)
              · rfl
              · exact absurd ⟨h, .inr hb⟩ f3
            · left
              rw [Bool.eq_false_iff]; intro h2; exact h ((byte_inj t[0] 48 48 rfl).1 h2)
          clear f3
          rcases hcase with hq | ⟨hq, hq1, hq2⟩
          · go_wp2
            go_loop [5, 6] (fun n i => ∃ k : Nat, k ≤ t.size ∧ i = .int .i64 k ∧ n = .int .i64 (hundL (t.data.toList.take k) 0) ∧ Hid ((t.data.toList.take k).all digB = true)) (fun n i => t.size - (intOf i).toNat)
            case atStart => exact ⟨0, Nat.zero_le _, rfl, rfl, hide rfl⟩
            case round =>
              obtain ⟨k, hk, rfl, rfl, HL⟩ := hrel
              by_cases hlt : k < t.size
              · have hsn := take_snoc t k hlt
                have hbd := hundL_small14 (t.data.toList.take k) (by rw [List.length_take, list_size]; omega)
                obtain ⟨b1, b2⟩ := hbd
                have hbyte := (t[k]).toNat_lt
                by_cases d1 : (t[k].toNat : Int) < 48
                · have HR : Hid (intB t.data.toList = false) := hide (by rw [HI.out, split_at t k hlt]; simp [digB]; intro _ h2; omega)
                  clear hsn
                  go_wp2
                  all_goals go_ret2
                  all_goals exact ⟨by unfold intV; rw [HR.out]; rfl, rfl⟩
                · by_cases d2 : 57 < (t[k].toNat : Int)
                  · have HR : Hid (intB t.data.toList = false) := hide (by rw [HI.out, split_at t k hlt]; simp [digB]; intro _ _ h3; omega)
                    clear hsn
                    go_wp2
                    all_goals go_ret2
                    all_goals exact ⟨by unfold intV; rw [HR.out]; rfl, rfl⟩
                  · have HS : Hid (hundL (t.data.toList.take (k + 1)) 0 = hundL (t.data.toList.take k) 0 * 10 + ((t[k].toNat : Int) - 48)) := hide (by rw [hsn, hundL_snoc, if_neg (by omega)]; omega)
                    have HA : Hid ((t.data.toList.take (k + 1)).all digB = true) := hide (by rw [hsn, List.all_append, HL.out]; simp [digB]; omega)
                    clear hsn
                    generalize hundL (t.data.toList.take k) 0 = x at *
                    go_wp2
                    go_round
                    case rel => exact ⟨k + 1, by omega, by go_num, by rw [HS.out], HA⟩
                    case measure => simp [intOf]; omega
              · have HE : Hid (t.data.toList.take k = t.data.toList) := hide (by rw [List.take_of_length_le (by simp; omega)])
                have HR : Hid (intB t.data.toList = true) := hide (by rw [HI.out, ← HE.out]; exact HL.out)
                have HV : Hid (intV t.data.toList = hundL (t.data.toList.take k) 0) := hide (by unfold intV; rw [if_pos HR.out, HN.out, ← HT.out, HE.out]; rfl)
                have hbd := hundL_small14 (t.data.toList.take k) (by rw [List.length_take, list_size]; omega)
                obtain ⟨b1, b2⟩ := hbd
                generalize hundL (t.data.toList.take k) 0 = x at *
                go_wp2
                go_ret2
                exact ⟨by rw [HV.out, HR.out]; rfl, rfl⟩
          · clear hq2
            go_wp2
            go_loop [5, 6] (fun n i => ∃ k : Nat, k ≤ t.size ∧ i = .int .i64 k ∧ n = .int .i64 (hundL (t.data.toList.take k) 0) ∧ Hid ((t.data.toList.take k).all digB = true)) (fun n i => t.size - (intOf i).toNat)
            case atStart => exact ⟨0, Nat.zero_le _, rfl, rfl, hide rfl⟩
            case round =>
              obtain ⟨k, hk, rfl, rfl, HL⟩ := hrel
              by_cases hlt : k < t.size
              · have hsn := take_snoc t k hlt
                have hbd := hundL_small14 (t.data.toList.take k) (by rw [List.length_take, list_size]; omega)
                obtain ⟨b1, b2⟩ := hbd
                have hbyte := (t[k]).toNat_lt
                by_cases d1 : (t[k].toNat : Int) < 48
                · have HR : Hid (intB t.data.toList = false) := hide (by rw [HI.out, split_at t k hlt]; simp [digB]; intro _ h2; omega)
                  clear hsn
                  go_wp2
                  all_goals go_ret2
                  all_goals exact ⟨by unfold intV; rw [HR.out]; rfl, rfl⟩
                · by_cases d2 : 57 < (t[k].toNat : Int)
                  · have HR : Hid (intB t.data.toList = false) := hide (by rw [HI.out, split_at t k hlt]; simp [digB]; intro _ _ h3; omega)
                    clear hsn
                    go_wp2
                    all_goals go_ret2
                    all_goals exact ⟨by unfold intV; rw [HR.out]; rfl, rfl⟩
                  · have HS : Hid (hundL (t.data.toList.take (k + 1)) 0 = hundL (t.data.toList.take k) 0 * 10 + ((t[k].toNat : Int) - 48)) := hide (by rw [hsn, hundL_snoc, if_neg (by omega)]; omega)
                    have HA : Hid ((t.data.toList.take (k + 1)).all digB = true) := hide (by rw [hsn, List.all_append, HL.out]; simp [digB]; omega)
                    clear hsn
                    generalize hundL (t.data.toList.take k) 0 = x at *
                    go_wp2
                    go_round
                    case rel => exact ⟨k + 1, by omega, by go_num, by rw [HS.out], HA⟩
                    case measure => simp [intOf]; omega
              · have HE : Hid (t.data.toList.take k = t.data.toList) := hide (by rw [List.take_of_length_le (by simp; omega)])
                have HR : Hid (intB t.data.toList = true) := hide (by rw [HI.out, ← HE.out]; exact HL.out)
                have HV : Hid (intV t.data.toList = hundL (t.data.toList.take k) 0) := hide (by unfold intV; rw [if_pos HR.out, HN.out, ← HT.out, HE.out]; rfl)
                have hbd := hundL_small14 (t.data.toList.take k) (by rw [List.length_take, list_size]; omega)
                obtain ⟨b1, b2⟩ := hbd
                generalize hundL (t.data.toList.take k) 0 = x at *
                go_wp2
                go_ret2
                exact ⟨by rw [HV.out, HR.out]; rfl, rfl⟩
      · have HR : Hid (intB t.data.toList = false) := hide (by
          unfold intB; rw [← HT.out, HN.out]
          have : formB t.data.toList false = false := by unfold formB; simp [f2]
          rw [this]; rfl)
        go_wp2
        all_goals go_ret2
        all_goals exact ⟨by unfold intV; rw [HR.out]; rfl, rfl⟩
    · have HR : Hid (intB t.data.toList = false) := hide (by
        unfold intB; rw [← HT.out, HN.out]
        have : formB t.data.toList false = false := by unfold formB; simp [f1]
        rw [this]; rfl)
      go_wp2
      all_goals go_ret2
      all_goals exact ⟨by unfold intV; rw [HR.out]; rfl, rfl⟩
theorem l1Int_any (s : ByteArray) (w : World) (hs : s.size ≤ maxLen) :
    Calls Tryz.prog 79 #[.string s] w fun e w' => e = .returned (.tuple #[.int .i64 (intV s.data.toList), .bool (intB s.data.toList)]) ∧ w' = w := by
  cases h : negB s.data.toList
  · exact l1Int_pos s w hs h
  · exact l1Int_neg s w hs h
end Go.Proofs.YteaopalhbnhbaaaGreatDoor
