/- The contract of the model's ReadAmount. -/
import Derived.Test.YtbpopaojkmdffaaMath3
import Derived.Test.YtbpopaojkmdffaaAmt2
namespace Go.Proofs.Ytbpopaojkmdffaa
open Go.ChangeShapes Go.WideShapes Go.ChangeAt Go.RowKit
set_option linter.unusedVariables false
theorem bs_eq {s : ByteArray} {l : List UInt8} (h : s = bs l) : s.data.toList = l := by rw [h, bs_list]
theorem two_list (p : ByteArray) (h : p.size = 2) (p0 : 0 < p.size) (p1 : 1 < p.size) : p.data.toList = [p[0]'p0, p[1]'p1] := by
  have e : p.data.toList = p.data.toList.take 2 := by rw [List.take_of_length_le (by rw [list_size]; omega)]
  rw [e, take_snoc p 1 p1, take_snoc p 0 p0]; rfl
theorem cut_facts (s t : ByteArray) (e : Ending) (HT : t.data.toList = restL s.data.toList) (hts : t.size ≤ s.size)
    (hcase : (∃ (a : List UInt8) (x : UInt8) (r : List UInt8), t.data.toList = a ++ x :: r ∧ (x.toNat : Int) = 46 ∧ (∀ b ∈ a, (b.toNat : Int) ≠ 46) ∧ e = .returned (.tuple #[.string (bs a), .string (bs r), .bool true])) ∨
      ((∀ b ∈ t.data.toList, (b.toNat : Int) ≠ 46) ∧ e = .returned (.tuple #[.string t, .string ⟨#[]⟩, .bool false]))) :
    ∃ (wh p : ByteArray) (f : Bool), e = .returned (.tuple #[.string wh, .string p, .bool f]) ∧ wh.size ≤ s.size ∧ p.size ≤ s.size ∧ (p.size = 2 → ∃ x : UInt8, restL s.data.toList = wh.data.toList ++ x :: p.data.toList ∧ x.toNat = 46 ∧ ∀ b ∈ wh.data.toList, b.toNat ≠ 46) ∧ (¬ p.size = 2 → ∀ n, inR n → s ≠ bs (amt n)) := by
  rcases hcase with ⟨a, x, r, h1, h2, h3, rfl⟩ | ⟨h1, rfl⟩
  · have hl := congrArg List.length h1
    rw [list_size, List.length_append, List.length_cons] at hl
    refine ⟨_, _, _, rfl, by rw [bs_size]; omega, by rw [bs_size]; omega, fun _ => ⟨x, by rw [bs_list, bs_list, ← HT]; exact h1, by omega, fun b hb => by rw [bs_list] at hb; have := h3 b hb; omega⟩, fun hp n hn hs => hp ?_⟩
    obtain ⟨_, p, q, h5, _⟩ := parse_amt n hn a x r (by rw [← bs_eq hs, ← HT]; exact h1) (by omega) (fun b hb => by have := h3 b hb; omega)
    rw [bs_size, h5]; rfl
  · refine ⟨_, _, _, rfl, hts, Nat.zero_le _, fun h => by simp [ByteArray.size] at h, fun hp n hn hs => ?_⟩
    exact parse_dot n hn (fun b hb => by rw [← bs_eq hs, ← HT] at hb; have := h1 b hb; omega)
theorem fin_facts (s wh p : ByteArray) (p2 : p.size = 2) (p0 : 0 < p.size) (p1 : 1 < p.size) (hx : ∃ x : UInt8, restL s.data.toList = wh.data.toList ++ x :: p.data.toList ∧ x.toNat = 46 ∧ ∀ b ∈ wh.data.toList, b.toNat ≠ 46) (n : Int) (hn : inR n) (hs : s = bs (amt n)) :
    intB wh.data.toList = true ∧ 48 ≤ ((p[0]'p0).toNat : Int) ∧ ((p[0]'p0).toNat : Int) ≤ 57 ∧ 48 ≤ ((p[1]'p1).toNat : Int) ∧ ((p[1]'p1).toNat : Int) ≤ 57 ∧ n = (if s.data.toList.head? = some 45 then -(100 * intV wh.data.toList + 10 * (((p[0]'p0).toNat : Int) - 48) + (((p[1]'p1).toNat : Int) - 48)) else 100 * intV wh.data.toList + 10 * (((p[0]'p0).toNat : Int) - 48) + (((p[1]'p1).toNat : Int) - 48)) := by
  obtain ⟨x, h1, h2, h3⟩ := hx
  have hl := bs_eq hs
  rw [hl] at h1
  obtain ⟨h4, a, b, h5, h6⟩ := parse_amt n hn _ x _ h1 h2 h3
  rw [two_list p p2 p0 p1] at h5
  simp only [List.cons.injEq, and_true] at h5
  obtain ⟨ea, eb⟩ := h5
  subst ea
  subst eb
  rw [hl]
  exact ⟨h4, by omega, by omega, by omega, by omega, h6.2.2.2.2⟩
theorem head_size (s : ByteArray) (wh p : ByteArray) (hx : ∃ x : UInt8, restL s.data.toList = wh.data.toList ++ x :: p.data.toList ∧ x.toNat = 46 ∧ ∀ b ∈ wh.data.toList, b.toNat ≠ 46) : s.data.toList ≠ [] := by
  obtain ⟨x, h, _⟩ := hx
  intro e
  rw [e] at h
  simp [restL] at h
theorem fin_yes {s : ByteArray} {v : Int} (h : bs (amt v) = s) (hne : s.data.toList ≠ []) : inR v ∧ s = bs (amt v) := by
  refine ⟨?_, h.symm⟩
  by_cases hr : inR v
  · exact hr
  · rw [amt_out v hr] at h
    rw [← h, bs_list] at hne
    exact absurd rfl hne
theorem beq_bytes {a b : ByteArray} : (a.toList == b.toList) = true ↔ a = b := by
  rw [Lib.toList_data, Lib.toList_data, beq_iff_eq]
  exact ⟨fun e => ByteArray.ext (Array.toList_inj.1 e), fun e => by rw [e]⟩

/-- the text's amount and true; or nought and false, where it is no amount's text -/
def ReadEnd (s : ByteArray) (w : World) (e : Ending) (w' : World) : Prop :=
  Kept w w' ∧ ((∃ v, inR v ∧ s = bs (amt v) ∧ e = .returned (.tuple #[.int .i64 v, .bool true])) ∨ ((∀ n, inR n → s ≠ bs (amt n)) ∧ e = .returned (.tuple #[.int .i64 0, .bool false])))
theorem readEnd_yes {s : ByteArray} {w w' : World} {e : Ending} {v : Int} (hk : Kept w w') (h : inR v ∧ s = bs (amt v)) (he : e = .returned (.tuple #[.int .i64 v, .bool true])) : ReadEnd s w e w' := ⟨hk, .inl ⟨v, h.1, h.2, he⟩⟩
theorem readEnd_no {s : ByteArray} {w w' : World} {e : Ending} (hk : Kept w w') (h : ∀ n, inR n → s ≠ bs (amt n)) (he : e = .returned (.tuple #[.int .i64 0, .bool false])) : ReadEnd s w e w' := ⟨hk, .inr ⟨h, he⟩⟩

set_option maxHeartbeats 1000000 in
theorem sread_neg (s : ByteArray) (w : World) (hs : s.size ≤ maxLen) (hh : s.data.toList.head? = some 45) :
    Calls Try.prog 15 #[.string s] w fun e w' => ReadEnd s w e w' := by
  unfold maxLen at hs
  have g0 : 0 < s.size := by
    rw [← list_size s]; cases e : s.data.toList with
    | nil => rw [e] at hh; simp at hh
    | cons c cs => simp
  have h2 : ((s[0].toNat : Int) == 45) = true := (byte_inj s[0] 45 45 rfl).2 ((first_byte s g0 45).1 hh)
  have h1 : (0 : Int) < (s.size : Int) := by omega
  have HT : Hid ((s.extract 1 s.size).data.toList = restL s.data.toList) := hide (by unfold restL; rw [if_pos hh, Lib.extract_to_end, List.drop_one])
  have hl0 : (s.extract 1 s.size).size ≤ s.size := by simp
  have HH : Hid _ := hide hh
  clear hh
  go_enter Try.func15, Try.ntmps15
  go_wp2_with fail
  generalize hte : s.extract 1 s.size = t at *
  clear hte
  refine (l1Cut_any _ _ _ (by unfold maxLen; omega)).mono ?_
  rintro e w1 ⟨HK, hcase⟩
  have hex := cut_facts s t e HT.out hl0 hcase
  clear hcase
  obtain ⟨wh, p, f, rfl, hwh, hp, HP2, HPn⟩ := hex
  have HQ2 : Hid _ := hide HP2
  have HQn : Hid _ := hide HPn
  clear HP2 HPn
  go_wp2_with fail
  refine (l1Int_any _ _ (by unfold maxLen; omega)).mono ?_
  rintro e w2 ⟨rfl, rfl⟩
  have hb := intV_bd wh.data.toList
  obtain ⟨b1, b2⟩ := hb
  by_cases p2 : p.size = 2
  · have HX : Hid _ := hide (HQ2.out p2)
    have p0 : 0 < p.size := by omega
    have p1 : 1 < p.size := by omega
    have HA : Hid _ := hide (fin_facts s wh p p2 p0 p1 HX.out)
    have HE : Hid _ := hide (head_size s wh p HX.out)
    clear HQ2 HQn HX
    have hq : ((p.size : Int) != 2) = false := by simp; omega
    clear p2
    generalize hok : intB wh.data.toList = ok at *
    have HOK : Hid _ := hide hok
    clear hok
    generalize hav : intV wh.data.toList = a at *
    have HAV : Hid _ := hide hav
    clear hav
    cases ok
    · have HF : Hid (∀ n, inR n → s ≠ bs (amt n)) := hide (fun n hn hs => by have := (HA.out n hn hs).1; cases this)
      clear HA
      go_wp2
      go_ret2
      exact readEnd_no HK HF.out rfl
    · by_cases d1 : (p[0].toNat : Int) < 48
      · have HF : Hid (∀ n, inR n → s ≠ bs (amt n)) := hide (fun n hn hs => by have := (HA.out n hn hs).2.1; omega)
        clear HA
        go_wp2
        go_ret2
        exact readEnd_no HK HF.out rfl
      · by_cases d2 : 57 < (p[0].toNat : Int)
        · have HF : Hid (∀ n, inR n → s ≠ bs (amt n)) := hide (fun n hn hs => by have := (HA.out n hn hs).2.2.1; omega)
          clear HA
          go_wp2
          go_ret2
          exact readEnd_no HK HF.out rfl
        · by_cases d3 : (p[1].toNat : Int) < 48
          · have HF : Hid (∀ n, inR n → s ≠ bs (amt n)) := hide (fun n hn hs => by have := (HA.out n hn hs).2.2.2.1; omega)
            clear HA
            go_wp2
            go_ret2
            exact readEnd_no HK HF.out rfl
          · by_cases d4 : 57 < (p[1].toNat : Int)
            · have HF : Hid (∀ n, inR n → s ≠ bs (amt n)) := hide (fun n hn hs => by have := (HA.out n hn hs).2.2.2.2.1; omega)
              clear HA
              go_wp2
              go_ret2
              exact readEnd_no HK HF.out rfl
            · have HV : Hid (∀ n, inR n → s = bs (amt n) → n = -((100 : Int) * a + (10 : Int) * ((p[0].toNat : Int) - (48 : Int)) + ((p[1].toNat : Int) - (48 : Int)))) := hide (fun n hn hs => by have := (HA.out n hn hs).2.2.2.2.2; rw [if_pos HH.out] at this; exact this)
              clear HA
              have e1 := wrapI (100 * a) (by omega) (by omega)
              have e2 := wrapU ((p[0].toNat : Int) - 48) (by omega) (by omega)
              have e3 := wrapI ((p[0].toNat : Int) - 48) (by omega) (by omega)
              have e4 := wrapI ((10 : Int) * ((p[0].toNat : Int) - (48 : Int))) (by omega) (by omega)
              have e5 := wrapI ((100 : Int) * a + (10 : Int) * ((p[0].toNat : Int) - (48 : Int))) (by omega) (by omega)
              have e6 := wrapU ((p[1].toNat : Int) - 48) (by omega) (by omega)
              have e7 := wrapI ((p[1].toNat : Int) - 48) (by omega) (by omega)
              have e8 := wrapI ((100 : Int) * a + (10 : Int) * ((p[0].toNat : Int) - (48 : Int)) + ((p[1].toNat : Int) - (48 : Int))) (by omega) (by omega)
              go_wp2_with fail
              go_quiet (fail)
              clear e1 e2 e3 e4 e5 e6 e7 e8
              go_wp2_with fail
              refine (specAmountText_any _ _ (by omega) (by omega)).mono ?_
              rintro e w3 ⟨rfl, HK3⟩
              by_cases hfin : bs (amt (-((100 : Int) * a + (10 : Int) * ((p[0].toNat : Int) - (48 : Int)) + ((p[1].toNat : Int) - (48 : Int))))) = s
              · have hq2 : ((bs (amt (-((100 : Int) * a + (10 : Int) * ((p[0].toNat : Int) - (48 : Int)) + ((p[1].toNat : Int) - (48 : Int)))))).toList == s.toList) = true := beq_bytes.2 hfin
                have HY : Hid _ := hide (fin_yes hfin HE.out)
                clear hfin
                go_wp2
                go_ret2
                exact readEnd_yes ((HK.drewN _).trans HK3) HY.out rfl
              · have hq2 : ((bs (amt (-((100 : Int) * a + (10 : Int) * ((p[0].toNat : Int) - (48 : Int)) + ((p[1].toNat : Int) - (48 : Int)))))).toList == s.toList) = false := by rw [Bool.eq_false_iff]; intro h; exact hfin (beq_bytes.1 h)
                have HF : Hid (∀ n, inR n → s ≠ bs (amt n)) := hide (fun n hn hs => hfin (by rw [← HV.out n hn hs]; exact hs.symm))
                clear hfin
                go_wp2
                go_ret2
                exact readEnd_no ((HK.drewN _).trans HK3) HF.out rfl
  · have hq : ((p.size : Int) != 2) = true := by simp; omega
    have HF : Hid _ := hide (HQn.out p2)
    clear p2
    go_wp2
    go_ret2
    exact readEnd_no HK HF.out rfl

set_option maxHeartbeats 1000000 in
theorem sread_pos (s : ByteArray) (w : World) (hs : s.size ≤ maxLen) (g0 : 0 < s.size) (hh : ¬ s.data.toList.head? = some 45) :
    Calls Try.prog 15 #[.string s] w fun e w' => ReadEnd s w e w' := by
  unfold maxLen at hs
  have h2 : ((s[0].toNat : Int) == 45) = false := by rw [Bool.eq_false_iff]; intro h; exact hh ((first_byte s g0 45).2 ((byte_inj s[0] 45 45 rfl).1 h))
  have h1 : (0 : Int) < (s.size : Int) := by omega
  obtain ⟨t, rfl⟩ : ∃ t, t = s := ⟨s, rfl⟩
  have HT : Hid (t.data.toList = restL t.data.toList) := hide (by unfold restL; rw [if_neg hh])
  have hl0 : t.size ≤ t.size := Nat.le_refl _
  have HH : Hid _ := hide hh
  clear hh
  go_enter Try.func15, Try.ntmps15
  go_wp2_with fail
  refine (l1Cut_any _ _ _ (by unfold maxLen; omega)).mono ?_
  rintro e w1 ⟨HK, hcase⟩
  have hex := cut_facts t t e HT.out hl0 hcase
  clear hcase
  obtain ⟨wh, p, f, rfl, hwh, hp, HP2, HPn⟩ := hex
  have HQ2 : Hid _ := hide HP2
  have HQn : Hid _ := hide HPn
  clear HP2 HPn
  go_wp2_with fail
  refine (l1Int_any _ _ (by unfold maxLen; omega)).mono ?_
  rintro e w2 ⟨rfl, rfl⟩
  have hb := intV_bd wh.data.toList
  obtain ⟨b1, b2⟩ := hb
  by_cases p2 : p.size = 2
  · have HX : Hid _ := hide (HQ2.out p2)
    have p0 : 0 < p.size := by omega
    have p1 : 1 < p.size := by omega
    have HA : Hid _ := hide (fin_facts t wh p p2 p0 p1 HX.out)
    have HE : Hid _ := hide (head_size t wh p HX.out)
    clear HQ2 HQn HX
    have hq : ((p.size : Int) != 2) = false := by simp; omega
    clear p2
    generalize hok : intB wh.data.toList = ok at *
    have HOK : Hid _ := hide hok
    clear hok
    generalize hav : intV wh.data.toList = a at *
    have HAV : Hid _ := hide hav
    clear hav
    cases ok
    · have HF : Hid (∀ n, inR n → t ≠ bs (amt n)) := hide (fun n hn hs => by have := (HA.out n hn hs).1; cases this)
      clear HA
      go_wp2
      go_ret2
      exact readEnd_no HK HF.out rfl
    · by_cases d1 : (p[0].toNat : Int) < 48
      · have HF : Hid (∀ n, inR n → t ≠ bs (amt n)) := hide (fun n hn hs => by have := (HA.out n hn hs).2.1; omega)
        clear HA
        go_wp2
        go_ret2
        exact readEnd_no HK HF.out rfl
      · by_cases d2 : 57 < (p[0].toNat : Int)
        · have HF : Hid (∀ n, inR n → t ≠ bs (amt n)) := hide (fun n hn hs => by have := (HA.out n hn hs).2.2.1; omega)
          clear HA
          go_wp2
          go_ret2
          exact readEnd_no HK HF.out rfl
        · by_cases d3 : (p[1].toNat : Int) < 48
          · have HF : Hid (∀ n, inR n → t ≠ bs (amt n)) := hide (fun n hn hs => by have := (HA.out n hn hs).2.2.2.1; omega)
            clear HA
            go_wp2
            go_ret2
            exact readEnd_no HK HF.out rfl
          · by_cases d4 : 57 < (p[1].toNat : Int)
            · have HF : Hid (∀ n, inR n → t ≠ bs (amt n)) := hide (fun n hn hs => by have := (HA.out n hn hs).2.2.2.2.1; omega)
              clear HA
              go_wp2
              go_ret2
              exact readEnd_no HK HF.out rfl
            · have HV : Hid (∀ n, inR n → t = bs (amt n) → n = (100 : Int) * a + (10 : Int) * ((p[0].toNat : Int) - (48 : Int)) + ((p[1].toNat : Int) - (48 : Int))) := hide (fun n hn hs => by have := (HA.out n hn hs).2.2.2.2.2; rw [if_neg HH.out] at this; exact this)
              clear HA
              have e1 := wrapI (100 * a) (by omega) (by omega)
              have e2 := wrapU ((p[0].toNat : Int) - 48) (by omega) (by omega)
              have e3 := wrapI ((p[0].toNat : Int) - 48) (by omega) (by omega)
              have e4 := wrapI ((10 : Int) * ((p[0].toNat : Int) - (48 : Int))) (by omega) (by omega)
              have e5 := wrapI ((100 : Int) * a + (10 : Int) * ((p[0].toNat : Int) - (48 : Int))) (by omega) (by omega)
              have e6 := wrapU ((p[1].toNat : Int) - 48) (by omega) (by omega)
              have e7 := wrapI ((p[1].toNat : Int) - 48) (by omega) (by omega)
              have e8 := wrapI ((100 : Int) * a + (10 : Int) * ((p[0].toNat : Int) - (48 : Int)) + ((p[1].toNat : Int) - (48 : Int))) (by omega) (by omega)
              go_wp2_with fail
              go_quiet (fail)
              clear e1 e2 e3 e4 e5 e6 e7 e8
              go_wp2_with fail
              refine (specAmountText_any _ _ (by omega) (by omega)).mono ?_
              rintro e w3 ⟨rfl, HK3⟩
              by_cases hfin : bs (amt ((100 : Int) * a + (10 : Int) * ((p[0].toNat : Int) - (48 : Int)) + ((p[1].toNat : Int) - (48 : Int)))) = t
              · have hq2 : ((bs (amt ((100 : Int) * a + (10 : Int) * ((p[0].toNat : Int) - (48 : Int)) + ((p[1].toNat : Int) - (48 : Int))))).toList == t.toList) = true := beq_bytes.2 hfin
                have HY : Hid _ := hide (fin_yes hfin HE.out)
                clear hfin
                go_wp2
                go_ret2
                exact readEnd_yes ((HK.drewN _).trans HK3) HY.out rfl
              · have hq2 : ((bs (amt ((100 : Int) * a + (10 : Int) * ((p[0].toNat : Int) - (48 : Int)) + ((p[1].toNat : Int) - (48 : Int))))).toList == t.toList) = false := by rw [Bool.eq_false_iff]; intro h; exact hfin (beq_bytes.1 h)
                have HF : Hid (∀ n, inR n → t ≠ bs (amt n)) := hide (fun n hn hs => hfin (by rw [← HV.out n hn hs]; exact hs.symm))
                clear hfin
                go_wp2
                go_ret2
                exact readEnd_no ((HK.drewN _).trans HK3) HF.out rfl
  · have hq : ((p.size : Int) != 2) = true := by simp; omega
    have HF : Hid _ := hide (HQn.out p2)
    clear p2
    go_wp2
    go_ret2
    exact readEnd_no HK HF.out rfl

set_option maxHeartbeats 400000 in
theorem sread_empty (s : ByteArray) (w : World) (g0 : ¬ 0 < s.size) :
    Calls Try.prog 15 #[.string s] w fun e w' => ReadEnd s w e w' := by
  have hz : s.data.toList = [] := by have := list_size s; cases e : s.data.toList with
    | nil => rfl
    | cons c cs => rw [e] at this; simp at this; omega
  have HF : Hid (∀ n, inR n → s ≠ bs (amt n)) := hide (fun n hn hs => amt_ne_nil n hn (by rw [← bs_eq hs]; exact hz))
  have h1 : ¬ (0 : Int) < (s.size : Int) := by omega
  have HZ : Hid _ := hide hz
  have hsz : s.size ≤ 5 := by omega
  clear hz
  go_enter Try.func15, Try.ntmps15
  go_wp2_with fail
  refine (l1Cut_any _ _ _ (by unfold maxLen; omega)).mono ?_
  rintro e w1 ⟨HK, hcase⟩
  have hex : e = .returned (.tuple #[.string s, .string ⟨#[]⟩, .bool false]) := by
    rcases hcase with ⟨a, x, r, h, _⟩ | ⟨_, h⟩
    · rw [HZ.out] at h; simp at h
    · exact h
  clear hcase
  subst hex
  go_wp2_with fail
  refine (l1Int_any _ _ (by unfold maxLen; omega)).mono ?_
  rintro e w2 ⟨rfl, rfl⟩
  go_wp2
  go_ret2
  exact readEnd_no HK HF.out rfl
theorem specRead_any (s : ByteArray) (w : World) (hs : s.size ≤ maxLen) :
    Calls Try.prog 15 #[.string s] w fun e w' => ReadEnd s w e w' := by
  by_cases g0 : 0 < s.size
  · by_cases hh : s.data.toList.head? = some 45
    · exact sread_neg s w hs hh
    · exact sread_pos s w hs g0 hh
  · exact sread_empty s w g0
end Go.Proofs.Ytbpopaojkmdffaa
