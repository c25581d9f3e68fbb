/- The reader of texts: numbers. -/
import Derived.Test.YteaopalhbnhbaaaGreatDoorWrd
import Derived.Lib.ParseIntB
import Derived.Lib.AtoiErrMem
import Derived.Lib.ParseIntBTie
namespace Go.Proofs.YteaopalhbnhbaaaGreatDoor
open Go.ChangeShapes Go.WideShapes Go.ChangeAt Go.RowKit Go.Lib
set_option linter.unusedVariables false
set_option maxRecDepth 100000
theorem hundL_mono (l : List UInt8) (hd : ∀ c ∈ l, 48 ≤ c.toNat ∧ c.toNat ≤ 57) (a : Int) (ha : 0 ≤ a) : a ≤ hundL l a := by
  induction l generalizing a with
  | nil => simp [hundL]
  | cons c r ih =>
    have h := hd c (List.mem_cons_self ..)
    have := ih (fun x hx => hd x (List.mem_cons_of_mem _ hx)) (10 * a + c.toNat - 48) (by omega)
    simp only [hundL]
    rw [if_neg (by omega)]
    omega
theorem parse_digits (l : List UInt8) (hd : ∀ c ∈ l, 48 ≤ c.toNat ∧ c.toNat ≤ 57) (acc : Nat) (hb : hundL l acc ≤ 100000000000000) : parseUintM (2 ^ 64 - 1) acc l = .ok (hundL l acc).toNat := by
  induction l generalizing acc with
  | nil => simp [parseUintM, hundL]
  | cons c r ih =>
    have h := hd c (List.mem_cons_self ..)
    have hr := fun x hx => hd x (List.mem_cons_of_mem _ hx)
    have e : hundL (c :: r) acc = hundL r ((acc * 10 + (c.toNat - 48) : Nat) : Int) := by
      simp only [hundL]
      rw [if_neg (by omega)]
      congr 1
      omega
    rw [e] at hb ⊢
    have hm := hundL_mono r hr ((acc * 10 + (c.toNat - 48) : Nat) : Int) (by omega)
    rw [parseUintM, if_pos h, if_neg (by omega), if_neg (by omega)]
    exact ih hr _ hb
theorem parse_dec {m : Nat} (h : m ≤ 99999999999999) : parseUintB 64 (dec m) = .ok m := by
  unfold parseUintB
  rw [if_neg (dec_ne_nil m)]
  have e := hundL_dec m (by omega)
  have := parse_digits (dec m) (dec_digit m) 0 (by rw [show ((0 : Nat) : Int) = 0 from rfl, e]; omega)
  rw [this, show ((0 : Nat) : Int) = 0 from rfl, e]
  rfl
theorem parse_itoa {n : Int} (h0 : -99999999999999 ≤ n) (h1 : n ≤ 99999999999999) : parseIntB 64 (itoa n) = .ok n := by
  by_cases h : n < 0
  · rw [← itoa_neg h (by omega)]
    have hp := parse_dec (m := (-n).toNat) (by omega)
    have e45 : (45 : UInt8).toNat = 45 := rfl
    simp only [parseIntB, show (45 : UInt8).toNat = 45 from rfl, or_true, if_true, hp, not_true_eq_false, false_and, if_false, true_and]
    rw [if_neg (by omega)]
    congr 1
    omega
  · rw [← itoa_pos (by omega) (by omega)]
    have hp := parse_dec (m := n.toNat) (by omega)
    cases hd : dec n.toNat with
    | nil => exact absurd hd (dec_ne_nil _)
    | cons c r =>
      have hc := dec_digit n.toNat c (by rw [hd]; simp)
      rw [hd] at hp
      unfold parseIntB
      simp only
      rw [if_neg (by omega), hp]
      simp only
      rw [if_neg (by omega), if_neg (by omega), if_neg (by omega)]
      congr 1
      omega
/-- a word that is a number's text -/
def IsNum (l : List UInt8) (n : Int) : Prop := (-99999999999999 ≤ n ∧ n ≤ 99999999999999) ∧ itoa n = l
theorem bs_inj {a b : List UInt8} (h : bs a = bs b) : a = b := by rw [← bs_list a, ← bs_list b, h]
theorem bs_beq (a b : List UInt8) : ((bs a).toList == (bs b).toList) = (a == b) := by
  rw [Lib.toList_data, Lib.toList_data, bs_list, bs_list]
set_option maxHeartbeats 4000000 in
theorem number_yes (p : Value) (l : List UInt8) (n : Int) (t : TypeId) (v : Value) (w : World) (E : Env t v w) (h : IsNum l n) :
    Calls Tryz.prog 116 #[p, .string (bs l)] w fun e w' => e = .returned (.int .i64 n) ∧ Below w.heap.size w w' := by
  obtain ⟨⟨h0, h1⟩, e⟩ := h
  have hb : inB (-99999999999999) 99999999999999 n = true := by simp [inB]; omega
  have hq : ((bs (itoa n)).toList == (bs l).toList) = true := by rw [e]; simp
  have HE : Hid _ := hide E
  have hl : (itoa n).length ≤ 17 := itoa_len (by omega) (by omega)
  have HP : Hid _ := hide (Tryz.strconv_ParseInt_10_at64_ok (bs l) (by rw [bs_size, ← e]; omega) n (by rw [bs_list, ← e]; exact parse_itoa h0 h1) w)
  clear E e
  go_enter Tryz.func116, Tryz.ntmps116
  go_wp2_with fail
  refine HP.out.mono ?_
  rintro e w1 ⟨rfl, hw1⟩
  have hb1 : Below w.heap.size w w1 := by
    rcases hw1 with rfl | ⟨t', rfl⟩
    · exact Below.refl _ _
    · exact Lib.bytesWorld_below _ _ _
  have HB1 : Hid _ := hide hb1
  clear hw1 hb1 HP
  go_wp2_with fail
  refine (within_any _ _ _ _).mono ?_
  rintro e w2 ⟨rfl, hw⟩
  rw [hw, hb]
  clear hw
  go_wp2_with fail
  refine (want_yes p _).mono ?_
  rintro e w2 ⟨rfl, hw⟩
  rw [hw]
  clear hw
  go_wp2_with fail
  refine (numberText_any n _ (by omega) (by omega) (HE.out.below HB1.out).tab).mono ?_
  rintro e w3 ⟨rfl, hb3⟩
  have HB3 : Hid _ := hide (below_trans HB1.out hb3)
  clear hb3
  go_wp2_with fail
  refine (want_yes p _).mono ?_
  rintro e w4 ⟨rfl, hw⟩
  rw [hw]
  clear hw
  go_wp2_with fail
  go_ret
  exact ⟨rfl, HB3.out⟩
/-- a call that gives up, and of what was there nothing has turned -/
def GvEnd (t : TypeId) (v : Value) (w : World) (e : Ending) (w' : World) : Prop := e = gaveUp t v ∧ Below w.heap.size w w'
set_option maxHeartbeats 4000000 in
theorem number_no (p : Value) (l : List UInt8) (t : TypeId) (v : Value) (w : World) (E : Env t v w) (hl : l.length ≤ 1048576) (h : ∀ n, ¬ IsNum l n) :
    Calls Tryz.prog 116 #[p, .string (bs l)] w fun e w' => GvEnd t v w e w' := by
  have HE : Hid _ := hide E
  have HN : Hid _ := hide h
  cases hp : parseIntB 64 l with
  | ok n =>
    have hbd := Lib.parseIntB_bounds hp
    have HP : Hid _ := hide (Tryz.strconv_ParseInt_10_at64_ok (bs l) (by rw [bs_size]; omega) n (by rw [bs_list]; exact hp) w)
    clear E h hp
    go_enter Tryz.func116, Tryz.ntmps116
    go_wp2_with fail
    refine HP.out.mono ?_
    rintro e w1 ⟨rfl, hw1⟩
    have hb1 : Below w.heap.size w w1 := by
      rcases hw1 with rfl | ⟨t', rfl⟩
      · exact Below.refl _ _
      · exact Lib.bytesWorld_below _ _ _
    have HB1 : Hid _ := hide hb1
    clear hw1 hb1 HP
    go_wp2_with fail
    refine (within_any _ _ _ _).mono ?_
    rintro e w2 ⟨rfl, hw⟩
    rw [hw]
    clear hw
    cases hb : inB (-99999999999999) 99999999999999 n
    · go_wp2_with fail
      refine (want_no p t v _ (HE.out.below HB1.out)).mono ?_
      rintro e w2 ⟨rfl, hw⟩
      rw [hw]
      clear hw
      unfold gaveUp
      go_wp2_with fail
      exact ⟨rfl, rfl, HB1.out⟩
    · go_wp2_with fail
      refine (want_yes p _).mono ?_
      rintro e w2 ⟨rfl, hw⟩
      rw [hw]
      clear hw
      have hb' : -99999999999999 ≤ n ∧ n ≤ 99999999999999 := by simpa [inB] using hb
      have hq : ((bs (itoa n)).toList == (bs l).toList) = false := by
        rw [bs_beq]
        cases q : (itoa n == l)
        · rfl
        · exact absurd ⟨hb', beq_iff_eq.1 q⟩ (HN.out n)
      go_wp2_with fail
      refine (numberText_any n _ (by omega) (by omega) (HE.out.below HB1.out).tab).mono ?_
      rintro e w3 ⟨rfl, hb3⟩
      have HB3 : Hid _ := hide (below_trans HB1.out hb3)
      clear hb3
      go_wp2_with fail
      refine (want_no p t v _ (HE.out.below HB3.out)).mono ?_
      rintro e w4 ⟨rfl, hw⟩
      rw [hw]
      clear hw
      unfold gaveUp
      go_wp2_with fail
      exact ⟨rfl, rfl, HB3.out⟩
  | «syntax» =>
    obtain ⟨ta, va, hs⟩ := E.syn
    have HP : Hid _ := hide (Tryz.strconv_ParseInt_10_at64_syntax (bs l) (by rw [bs_size]; omega) (by rw [bs_list]; exact hp) (.iface ta va) w hs (.inr ⟨ta, va, rfl⟩))
    clear E h hp hs
    go_enter Tryz.func116, Tryz.ntmps116
    go_wp2_with fail
    refine HP.out.mono ?_
    rintro e w1 ⟨N, rfl, _, _, hb1⟩
    have HB1 : Hid _ := hide hb1
    clear hb1 HP
    go_wp2_with fail
    refine (want_no p t v _ (HE.out.below HB1.out)).mono ?_
    rintro e w2 ⟨rfl, hw⟩
    rw [hw]
    clear hw
    unfold gaveUp
    go_wp2_with fail
    exact ⟨rfl, rfl, HB1.out⟩
  | range =>
    obtain ⟨ta, va, hs⟩ := E.rng
    have HP : Hid _ := hide (Tryz.strconv_ParseInt_10_at64_range (bs l) (by rw [bs_size]; omega) (by rw [bs_list]; exact hp) (.iface ta va) w hs (.inr ⟨ta, va, rfl⟩))
    clear E h hp hs
    go_enter Tryz.func116, Tryz.ntmps116
    go_wp2_with fail
    refine HP.out.mono ?_
    rintro e w1 ⟨N, rfl, _, _, hb1⟩
    have HB1 : Hid _ := hide hb1
    clear hb1 HP
    go_wp2_with fail
    refine (want_no p t v _ (HE.out.below HB1.out)).mono ?_
    rintro e w2 ⟨rfl, hw⟩
    rw [hw]
    clear hw
    unfold gaveUp
    go_wp2_with fail
    exact ⟨rfl, rfl, HB1.out⟩
theorem hp_yes (r : List UInt8) : Lib.hasPrefix (32 :: r) [32] = true ∧ Lib.trimPrefix (32 :: r) [32] = r := by
  have h : Lib.hasPrefix (32 :: r) [32] = true := by simp [Lib.hasPrefix]
  exact ⟨h, by unfold Lib.trimPrefix; rw [if_pos h]; rfl⟩
theorem hp_no {l : List UInt8} (hn : l.head? ≠ some 32) : Lib.hasPrefix l [32] = false ∧ Lib.trimPrefix l [32] = l := by
  have h : Lib.hasPrefix l [32] = false := by
    cases l with
    | nil => rfl
    | cons c r =>
      simp only [List.head?_cons, ne_eq, Option.some.injEq] at hn
      simp [Lib.hasPrefix, List.isPrefixOf]
      exact fun e => hn e.symm
  exact ⟨h, by unfold Lib.trimPrefix; rw [h]; rfl⟩
set_option maxHeartbeats 2000000 in
theorem next_yes (B : Nat) (r : List UInt8) (w : World) (h : Blk B [.string (bs (32 :: r))] w) (hl : r.length ≤ 1048576) :
    Calls Tryz.prog 115 #[.pointer (some ⟨B, 0, none⟩)] w fun e w' => e = .returned (.string (bs (wordOf r))) ∧ RdTo B (restOf r) w w' := by
  have HB : Hid _ := hide (begins_any B (32 :: r) [32] w h)
  clear h
  go_enter Tryz.func115, Tryz.ntmps115
  go_wp2_with fail
  refine HB.out.mono ?_
  rintro e w1 ⟨rfl, hr1⟩
  rw [(hp_yes r).2] at hr1
  rw [(hp_yes r).1]
  have HR : Hid _ := hide hr1
  clear hr1 HB
  go_wp2_with fail
  refine (want_yes _ _).mono ?_
  rintro e w2 ⟨rfl, hw⟩
  rw [hw]
  clear hw
  go_wp2_with fail
  refine (rword_any B r _ HR.out.1 hl).mono ?_
  rintro e w3 ⟨rfl, hr3⟩
  have HR3 : Hid _ := hide (HR.out.trans hr3)
  clear hr3
  go_wp2_with fail
  go_ret
  exact ⟨rfl, HR3.out⟩
/-- a call that gives up; the reader alone may have turned -/
def GvTo (B : Nat) (t : TypeId) (v : Value) (w : World) (e : Ending) (w' : World) : Prop := e = gaveUp t v ∧ ∃ l, RdTo B l w w'
set_option maxHeartbeats 2000000 in
theorem next_no (B : Nat) (l : List UInt8) (t : TypeId) (v : Value) (w0 w : World) (E : Env t v w0) (h : Rg w0 B l w) (hn : l.head? ≠ some 32) :
    Calls Tryz.prog 115 #[.pointer (some ⟨B, 0, none⟩)] w fun e w' => GvTo B t v w e w' := by
  have HB : Hid _ := hide (begins_any B l [32] w h.r)
  have HE : Hid _ := hide E
  have HG : Hid _ := hide h
  have HN : Hid _ := hide (hp_no hn)
  clear h E hn
  go_enter Tryz.func115, Tryz.ntmps115
  go_wp2_with fail
  refine HB.out.mono ?_
  rintro e w1 ⟨rfl, hr1⟩
  rw [HN.out.2] at hr1
  rw [HN.out.1]
  have HR : Hid _ := hide hr1
  clear hr1 HB
  go_wp2_with fail
  refine (want_no _ t v _ ((HG.out.tor HR.out).env HE.out)).mono ?_
  rintro e w2 ⟨rfl, hw⟩
  rw [hw]
  clear hw
  unfold gaveUp
  go_wp2_with fail
  exact ⟨rfl, rfl, _, HR.out⟩
end Go.Proofs.YteaopalhbnhbaaaGreatDoor
