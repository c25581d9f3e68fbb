/- A ledger's text: what is read is what is written. -/
import Derived.Test.YteaopalhbnhbaaaGreatDoorLdR
import Derived.Test.YteaopalhbnhbaaaGreatDoorH6
namespace Go.Proofs.YteaopalhbnhbaaaGreatDoor
open Go.ChangeShapes Go.WideShapes Go.ChangeAt Go.RowKit Go.Lib
set_option linter.unusedVariables false
set_option maxRecDepth 100000
theorem sep_off {b : UInt8} (h : b.toNat ≠ 32) (k : b.toNat ≠ 10) : sepB b = false := by
  unfold sepB
  have h1 : (b == 32) = false := by simp only [beq_eq_false_iff_ne, ne_eq]; exact fun e => h (by rw [e]; rfl)
  have h2 : (b == 10) = false := by simp only [beq_eq_false_iff_ne, ne_eq]; exact fun e => k (by rw [e]; rfl)
  rw [h1, h2]; rfl
theorem sep_not {b : UInt8} (h : sepB b = false) : b ≠ 32 := fun e => by rw [e] at h; revert h; decide
theorem itoa_sep {n : Int} (h0 : -1000000000000000 ≤ n) (h1 : n ≤ 1000000000000000) : ∀ b ∈ itoa n, sepB b = false := by
  intro b hb
  by_cases h : n < 0
  · rw [← itoa_neg h h0] at hb
    rcases List.mem_cons.1 hb with rfl | q
    · decide
    · have := dec_digit _ b q
      exact sep_off (by omega) (by omega)
  · rw [← itoa_pos (by omega) h1] at hb
    have := dec_digit _ b hb
    exact sep_off (by omega) (by omega)
theorem wordL_sep {k : Int} (h1 : 1 ≤ k) (h5 : k ≤ 5) : ∀ b ∈ wordL k, sepB b = false := by
  have : k = 1 ∨ k = 2 ∨ k = 3 ∨ k = 4 ∨ k = 5 := by omega
  rcases this with rfl | rfl | rfl | rfl | rfl <;> decide
theorem lets_sep {lo hi : Int} (h0 : 33 ≤ lo) {l : List UInt8} (h : lets lo hi l = true) : ∀ b ∈ l, sepB b = false := by
  intro b hb
  unfold lets at h
  have := List.all_eq_true.1 h b hb
  simp only [letB, decide_eq_true_eq] at this
  exact sep_off (by omega) (by omega)
theorem name_sep {s : ByteArray} (h : nameB s = true) : ∀ b ∈ s.data.toList, sepB b = false := by
  unfold nameB at h
  rw [Bool.and_eq_true] at h
  exact lets_sep (by omega) h.2
theorem cur_sep {s : ByteArray} (h : curB s = true) : ∀ b ∈ s.data.toList, sepB b = false := by
  unfold curB at h
  rw [Bool.and_eq_true] at h
  exact lets_sep (by omega) h.2
theorem empty_of {s : ByteArray} (h : s.toList.isEmpty = true) : s = ⟨#[]⟩ := by
  rw [Lib.toList_data] at h
  have e : s.data.toList = [] := by simpa using h
  exact ByteArray.ext (by have := congrArg List.toArray e; simpa using this)
theorem cut_at {a r : List UInt8} (h : ∀ b ∈ a, sepB b = false) : wordOf (a ++ 32 :: r) = a ∧ restOf (a ++ 32 :: r) = 32 :: r := word_app h (fun c hc => by simp at hc; subst hc; decide)

theorem TxP.eq {l x r : List UInt8} (h : TxP l x r) : l = 32 :: (x ++ r) := by
  obtain ⟨r1, rfl, rfl, rfl⟩ := h
  rw [word_rest]
theorem NuP.eq {l : List UInt8} {n : Int} {r : List UInt8} (h : NuP l n r) : l = 32 :: (itoa n ++ r) := by
  obtain ⟨r1, rfl, ⟨_, e⟩, rfl⟩ := h
  rw [e, word_rest]
theorem accLn_eq (a : Acc) (r : List UInt8) : accLn a ++ r = acW ++ 32 :: (a.name.data.toList ++ 32 :: (a.cur.data.toList ++ 32 :: (itoa a.limit ++ 32 :: (itoa a.posted ++ 10 :: r)))) := by
  simp [accLn, lineL, accW, Lib.join, List.intercalate, acW]
theorem hldLn_eq (a : Hld) (r : List UInt8) : hldLn a ++ r = hoW ++ 32 :: (itoa a.id ++ 32 :: (a.fr.data.toList ++ 32 :: (a.to.data.toList ++ 32 :: (itoa a.amount ++ 10 :: r)))) := by
  simp [hldLn, lineL, hldW, Lib.join, List.intercalate, hoW]
theorem ansLn_eq (a : Sn) (r : List UInt8) : ansLn a ++ r = seW ++ 32 :: (itoa a.id ++ 32 :: (itoa a.code ++ 10 :: r)) := by
  simp [ansLn, lineL, ansW, Lib.join, List.intercalate, seW]
theorem acc_line {l : List UInt8} {a : Acc} {r : List UInt8} (h : AccP l a r) : acW ++ l = accLn a ++ r := by
  obtain ⟨x0, x1, r1, r2, r3, r4, p0, p1, p2, p3, e0, e1, er⟩ := h
  rw [accLn_eq, e0, e1, bs_list, bs_list, p0.eq, p1.eq, p2.eq, p3.eq, er]
theorem hld_line {l : List UInt8} {a : Hld} {r : List UInt8} (h : HldP l a r) : hoW ++ l = hldLn a ++ r := by
  obtain ⟨x1, x2, r1, r2, r3, r4, p0, p1, p2, p3, e0, e1, er⟩ := h
  rw [hldLn_eq, e0, e1, bs_list, bs_list, p0.eq, p1.eq, p2.eq, p3.eq, er]
theorem sn_line {l : List UInt8} {a : Sn} {r : List UInt8} (h : SnP l a r) : seW ++ l = ansLn a ++ r := by
  obtain ⟨r1, r2, p0, p1, er⟩ := h
  rw [ansLn_eq, p0.eq, p1.eq, er]
theorem rows_text {A : Type} {hd : List UInt8} {P : List UInt8 → A → List UInt8 → Prop} {f : A → List UInt8} (hP : ∀ x a r, P x a r → hd ++ x = f a ++ r) : ∀ (ys : List A) (l r : List UInt8), RowsP hd P l ys r → l = ys.flatMap f ++ r := by
  intro ys
  induction ys with
  | nil => intro l r h; simpa using h.2.symm
  | cons a bs ih =>
    intro l r h
    obtain ⟨r1, r2, e, ha, hr⟩ := h
    rw [e, hP _ _ _ ha, ih _ _ hr]
    simp
theorem ledT_eq {L : Led} (h : ledS L = true) : ledT L = ldW ++ (L.acc.flatMap accLn ++ (L.hold.flatMap hldLn ++ L.seen.flatMap ansLn)) := by
  unfold ledT
  rw [if_pos h]
  simp [body, ldW]
/-- what was read has just its text -/
theorem ledP_text {l : List UInt8} {L : Led} (h : LedP l L []) : ledT L = l ∧ ledS L = true := by
  obtain ⟨r0, r1, r2, e, h0, h1, h2, hs⟩ := h
  refine ⟨?_, hs⟩
  rw [ledT_eq hs, e, rows_text (P := AccP) (f := accLn) (fun x a r => acc_line) _ _ _ h0, rows_text (P := HldP) (f := hldLn) (fun x a r => hld_line) _ _ _ h1, rows_text (P := SnP) (f := ansLn) (fun x a r => sn_line) _ _ _ h2]
  simp
theorem TxP.of {x r : List UInt8} (h : ∀ b ∈ x, sepB b = false) (hr : ∀ c, r.head? = some c → sepB c = true) : TxP (32 :: (x ++ r)) x r := by
  obtain ⟨e1, e2⟩ := word_app h hr
  exact ⟨_, rfl, e1.symm, e2.symm⟩
theorem NuP.of {n : Int} {r : List UInt8} (h0 : -99999999999999 ≤ n) (h1 : n ≤ 99999999999999) (hr : ∀ c, r.head? = some c → sepB c = true) : NuP (32 :: (itoa n ++ r)) n r := by
  obtain ⟨e1, e2⟩ := word_app (itoa_sep (n := n) (by omega) (by omega)) hr
  exact ⟨_, rfl, ⟨⟨h0, h1⟩, e1.symm⟩, e2.symm⟩
theorem hd32 (r : List UInt8) : ∀ c, (32 :: r).head? = some c → sepB c = true := fun c h => by simp at h; subst h; decide
theorem hd10 (r : List UInt8) : ∀ c, (10 :: r).head? = some c → sepB c = true := fun c h => by simp at h; subst h; decide
theorem acc_of {a : Acc} (r : List UInt8) (hn : nameB a.name = true) (hc : curB a.cur = true) (hl : -1 ≤ a.limit ∧ a.limit ≤ 1000000000000) (hp : -1000000000000 ≤ a.posted ∧ a.posted ≤ 1000000000000) : ∃ x, accLn a ++ r = acW ++ x ∧ AccP x a r :=
  ⟨_, accLn_eq a r, a.name.data.toList, a.cur.data.toList, _, _, _, _, TxP.of (name_sep hn) (hd32 _), TxP.of (cur_sep hc) (hd32 _), NuP.of (by omega) (by omega) (hd32 _), NuP.of (by omega) (by omega) (hd10 _), rfl, rfl, rfl⟩
theorem hld_of {a : Hld} (r : List UInt8) (hf : nameB a.fr = true) (ht : nameB a.to = true) (hi : 1 ≤ a.id ∧ a.id ≤ 1000000000) (hp : 1 ≤ a.amount ∧ a.amount ≤ 1000000000000) : ∃ x, hldLn a ++ r = hoW ++ x ∧ HldP x a r :=
  ⟨_, hldLn_eq a r, a.fr.data.toList, a.to.data.toList, _, _, _, _, NuP.of (by omega) (by omega) (hd32 _), TxP.of (name_sep hf) (hd32 _), TxP.of (name_sep ht) (hd32 _), NuP.of (by omega) (by omega) (hd10 _), rfl, rfl, rfl⟩
theorem sn_of {a : Sn} (r : List UInt8) (hi : 1 ≤ a.id ∧ a.id ≤ 1000000000) (hp : 0 ≤ a.code ∧ a.code ≤ 9) : ∃ x, ansLn a ++ r = seW ++ x ∧ SnP x a r :=
  ⟨_, ansLn_eq a r, _, _, NuP.of (by omega) (by omega) (hd32 _), NuP.of (by omega) (by omega) (hd10 _), rfl⟩
theorem rows_of {A : Type} {hd : List UInt8} {P : List UInt8 → A → List UInt8 → Prop} {f : A → List UInt8} : ∀ (ys : List A) (r : List UInt8), (∀ a ∈ ys, ∀ s, ∃ x, f a ++ s = hd ++ x ∧ P x a s) → Lib.hasPrefix r hd = false → RowsP hd P (ys.flatMap f ++ r) ys r := by
  intro ys
  induction ys with
  | nil => intro r _ h; exact ⟨by simpa using h, by simp⟩
  | cons a bs ih =>
    intro r hP h
    obtain ⟨x, e, ha⟩ := hP a (List.mem_cons_self ..) (bs.flatMap f ++ r)
    exact ⟨x, _, by rw [← e]; simp, ha, ih r (fun b hb => hP b (List.mem_cons_of_mem _ hb)) h⟩
theorem pre_ne {c d : UInt8} {l hd : List UInt8} (h : c ≠ d) : Lib.hasPrefix (c :: l) (d :: hd) = false := by
  simp [Lib.hasPrefix, List.isPrefixOf]
  intro e
  exact absurd e.symm h
theorem seen_head (ys : List Sn) {d : UInt8} {hd : List UInt8} (h : (115 : UInt8) ≠ d) : Lib.hasPrefix (ys.flatMap ansLn) (d :: hd) = false := by
  cases ys with
  | nil => simp [Lib.hasPrefix]
  | cons a bs =>
    rw [List.flatMap_cons, ansLn_eq]
    exact pre_ne h
theorem hold_head (zs : List Hld) (ys : List Sn) : Lib.hasPrefix (zs.flatMap hldLn ++ ys.flatMap ansLn) acW = false := by
  cases zs with
  | nil => exact seen_head ys (by decide)
  | cons a bs =>
    rw [List.flatMap_cons, List.append_assoc, hldLn_eq]
    exact pre_ne (by decide)
theorem acc_nm {L : Led} (h : ledS L = true) {k : Nat} (hk : k < L.acc.length) : nameB L.acc[k].name = true ∧ curB L.acc[k].cur = true := by
  have h1 := allTo_get (led_parts h).2.1 hk
  rw [accI_at hk] at h1
  simp only [Bool.and_eq_true] at h1
  exact ⟨h1.1.1.1.2, h1.1.1.2⟩
theorem idx_nm {L : Led} (h : ledS L = true) {nm : ByteArray} {i : Nat} (hi : idxA L.acc nm = some i) : nameB nm = true := by
  obtain ⟨hl, e, _⟩ := idxA_lt hi
  rw [← e]
  exact (acc_nm h hl).1
theorem hld_nm {L : Led} (h : ledS L = true) {k : Nat} (hk : k < L.hold.length) : nameB L.hold[k].fr = true ∧ nameB L.hold[k].to = true := by
  have h1 := allTo_get (led_parts h).2.2.2 hk
  rw [hldI_at hk] at h1
  simp only [Bool.and_eq_true] at h1
  have hp := h1.2
  unfold pairI at hp
  cases e1 : idxA L.acc L.hold[k].fr with
  | none => rw [e1] at hp; simp at hp
  | some i =>
    cases e2 : idxA L.acc L.hold[k].to with
    | none => rw [e1, e2] at hp; simp at hp
    | some j => exact ⟨idx_nm h e1, idx_nm h e2⟩
/-- a right ledger is read out of its text -/
theorem text_ledP {L : Led} (h : ledS L = true) : LedP (ledT L) L [] := by
  refine ⟨_, L.hold.flatMap hldLn ++ L.seen.flatMap ansLn, L.seen.flatMap ansLn, ledT_eq h, rows_of _ _ (fun a ha s => ?_) (hold_head _ _), rows_of _ _ (fun a ha s => ?_) (seen_head _ (by decide)), ?_, h⟩
  · obtain ⟨k, hk, rfl⟩ := List.mem_iff_getElem.1 ha
    obtain ⟨h1, h2⟩ := acc_nm h hk
    obtain ⟨_, _, h3, h4⟩ := acc_sm h hk
    exact acc_of s h1 h2 h3 h4
  · obtain ⟨k, hk, rfl⟩ := List.mem_iff_getElem.1 ha
    obtain ⟨h1, h2⟩ := hld_nm h hk
    obtain ⟨_, _, h3, h4⟩ := hld_sm h hk
    exact hld_of s h1 h2 h3 h4
  · have := rows_of (hd := seW) (P := SnP) (f := ansLn) L.seen [] (fun a ha s => by
      obtain ⟨k, hk, rfl⟩ := List.mem_iff_getElem.1 ha
      obtain ⟨h3, h4⟩ := ans_sm h hk
      exact sn_of s h3 h4) (by decide)
    simpa using this
end Go.Proofs.YteaopalhbnhbaaaGreatDoor
/- The model's reading of a ledger's text: the plain mathematics. -/
namespace Go.Proofs.YteaopalhbnhbaaaGreatDoor
open Go.ChangeShapes Go.WideShapes Go.ChangeAt Go.RowKit Go.Lib
set_option linter.unusedVariables false
set_option maxRecDepth 100000
/-- what a line's words make of a ledger -/
def mStep (L : Led) (ws : List (List UInt8)) : Led :=
  if ws.getD 0 [] = acW ∧ ws.length = 5 then ⟨L.acc ++ [⟨bs (ws.getD 1 []), bs (ws.getD 2 []), numV (ws.getD 3 []), numV (ws.getD 4 [])⟩], L.hold, L.seen⟩
  else if ws.getD 0 [] = hoW ∧ ws.length = 5 then ⟨L.acc, L.hold ++ [⟨numV (ws.getD 1 []), bs (ws.getD 2 []), bs (ws.getD 3 []), numV (ws.getD 4 [])⟩], L.seen⟩
  else if ws.getD 0 [] = seW ∧ ws.length = 3 then ⟨L.acc, L.hold, L.seen ++ [⟨numV (ws.getD 1 []), numV (ws.getD 2 [])⟩]⟩
  else L
/-- line by line; none where the last line is not ended -/
def mRd : Nat → List UInt8 → Led → Option Led
  | 0, _, L => some L
  | n + 1, l, L => if l = [] then some L else match l.dropWhile (fun b => b != 10) with
    | [] => none
    | _ :: r => mRd n r (mStep L (wordsL (l.takeWhile (fun b => b != 10))))
theorem mRd_nil (n : Nat) (L : Led) : mRd n [] L = some L := by cases n <;> rfl
theorem cut_10 {a r : List UInt8} (h : ∀ b ∈ a, b ≠ 10) : (a ++ 10 :: r).takeWhile (fun b => b != 10) = a ∧ (a ++ 10 :: r).dropWhile (fun b => b != 10) = 10 :: r := by
  induction a with
  | nil => simp
  | cons c cs ih =>
    have hc := h c (List.mem_cons_self ..)
    obtain ⟨e1, e2⟩ := ih (fun b hb => h b (List.mem_cons_of_mem _ hb))
    rw [List.cons_append, List.takeWhile_cons_of_pos (by simpa using hc), List.dropWhile_cons_of_pos (by simpa using hc), e1, e2]
    exact ⟨rfl, rfl⟩
theorem no_10 {l : List UInt8} (h : ∀ b ∈ l, b ≠ 10) : l.dropWhile (fun b => b != 10) = [] := by
  induction l with
  | nil => rfl
  | cons c cs ih =>
    rw [List.dropWhile_cons_of_pos (by simpa using h c (List.mem_cons_self ..))]
    exact ih (fun b hb => h b (List.mem_cons_of_mem _ hb))
theorem mRd_line {a r : List UInt8} (h : ∀ b ∈ a, b ≠ 10) (n : Nat) (L : Led) (hn : (a ++ 10 :: r).length ≤ n) : ∃ m, r.length ≤ m ∧ mRd n (a ++ 10 :: r) L = mRd m r (mStep L (wordsL a)) := by
  obtain ⟨e1, e2⟩ := cut_10 (r := r) h
  simp only [List.length_append, List.length_cons] at hn
  obtain ⟨m, rfl⟩ : ∃ m, n = m + 1 := ⟨n - 1, by omega⟩
  refine ⟨m, by omega, ?_⟩
  rw [mRd, if_neg (by simp), e1, e2]
theorem mRd_bad {l : List UInt8} (h : ∀ b ∈ l, b ≠ 10) (h0 : l ≠ []) (n : Nat) (L : Led) (hn : l.length ≤ n) : mRd n l L = none := by
  obtain ⟨m, rfl⟩ : ∃ m, n = m + 1 := ⟨n - 1, by have : 0 < l.length := List.length_pos_iff.2 h0; omega⟩
  rw [mRd, if_neg h0, no_10 h]
theorem sep_10 {b : UInt8} (h : sepB b = false) : b ≠ 10 := fun e => by rw [e] at h; revert h; decide
theorem num_itoa {n : Int} (h0 : -99999999999999 ≤ n) (h1 : n ≤ 99999999999999) : numV (itoa n) = n := by
  unfold numV
  rw [if_pos (int_itoa h0 h1).1, (int_itoa h0 h1).2]
theorem no5 {a b c d e : List UInt8} (ha : ∀ x ∈ a, sepB x = false) (hb : ∀ x ∈ b, sepB x = false) (hc : ∀ x ∈ c, sepB x = false) (hd : ∀ x ∈ d, sepB x = false) (he : ∀ x ∈ e, sepB x = false) :
    wordsL (a ++ 32 :: (b ++ 32 :: (c ++ 32 :: (d ++ 32 :: e)))) = [a, b, c, d, e] ∧ ∀ x ∈ a ++ 32 :: (b ++ 32 :: (c ++ 32 :: (d ++ 32 :: e))), x ≠ 10 := by
  refine ⟨?_, ?_⟩
  · rw [wordsL_cut _ _ (fun x hx => sep_not (ha x hx)), wordsL_cut _ _ (fun x hx => sep_not (hb x hx)), wordsL_cut _ _ (fun x hx => sep_not (hc x hx)), wordsL_cut _ _ (fun x hx => sep_not (hd x hx)), wordsL_none _ (fun x hx => sep_not (he x hx))]
  · intro x hx
    simp only [List.mem_append, List.mem_cons] at hx
    rcases hx with h | rfl | h | rfl | h | rfl | h | rfl | h
    · exact sep_10 (ha x h)
    · decide
    · exact sep_10 (hb x h)
    · decide
    · exact sep_10 (hc x h)
    · decide
    · exact sep_10 (hd x h)
    · decide
    · exact sep_10 (he x h)
theorem no3 {a b c : List UInt8} (ha : ∀ x ∈ a, sepB x = false) (hb : ∀ x ∈ b, sepB x = false) (hc : ∀ x ∈ c, sepB x = false) :
    wordsL (a ++ 32 :: (b ++ 32 :: c)) = [a, b, c] ∧ ∀ x ∈ a ++ 32 :: (b ++ 32 :: c), x ≠ 10 := by
  refine ⟨?_, ?_⟩
  · rw [wordsL_cut _ _ (fun x hx => sep_not (ha x hx)), wordsL_cut _ _ (fun x hx => sep_not (hb x hx)), wordsL_none _ (fun x hx => sep_not (hc x hx))]
  · intro x hx
    simp only [List.mem_append, List.mem_cons] at hx
    rcases hx with h | rfl | h | rfl | h
    · exact sep_10 (ha x h)
    · decide
    · exact sep_10 (hb x h)
    · decide
    · exact sep_10 (hc x h)
theorem acW_sep : ∀ x ∈ acW, sepB x = false := by decide
theorem hoW_sep : ∀ x ∈ hoW, sepB x = false := by decide
theorem seW_sep : ∀ x ∈ seW, sepB x = false := by decide
theorem acc_rd {a : Acc} (hn : nameB a.name = true) (hc : curB a.cur = true) (hl : -1 ≤ a.limit ∧ a.limit ≤ 1000000000000) (hp : -1000000000000 ≤ a.posted ∧ a.posted ≤ 1000000000000) (r : List UInt8) (n : Nat) (D : Led) (h : (accLn a ++ r).length ≤ n) :
    ∃ m, r.length ≤ m ∧ mRd n (accLn a ++ r) D = mRd m r ⟨D.acc ++ [a], D.hold, D.seen⟩ := by
  obtain ⟨e1, e2⟩ := no5 acW_sep (name_sep hn) (cur_sep hc) (itoa_sep (n := a.limit) (by omega) (by omega)) (itoa_sep (n := a.posted) (by omega) (by omega))
  have e3 : accLn a ++ r = (acW ++ 32 :: (a.name.data.toList ++ 32 :: (a.cur.data.toList ++ 32 :: (itoa a.limit ++ 32 :: itoa a.posted)))) ++ 10 :: r := by rw [accLn_eq]; simp
  rw [e3] at h ⊢
  obtain ⟨m, hm, e⟩ := mRd_line e2 n D h
  refine ⟨m, hm, ?_⟩
  rw [e, e1]
  simp [mStep, num_itoa (n := a.limit) (by omega) (by omega), num_itoa (n := a.posted) (by omega) (by omega), (bs_of (r := a.name) rfl).symm, (bs_of (r := a.cur) rfl).symm]
theorem hld_rd {a : Hld} (hf : nameB a.fr = true) (ht : nameB a.to = true) (hi : 1 ≤ a.id ∧ a.id ≤ 1000000000) (hp : 1 ≤ a.amount ∧ a.amount ≤ 1000000000000) (r : List UInt8) (n : Nat) (D : Led) (h : (hldLn a ++ r).length ≤ n) :
    ∃ m, r.length ≤ m ∧ mRd n (hldLn a ++ r) D = mRd m r ⟨D.acc, D.hold ++ [a], D.seen⟩ := by
  obtain ⟨e1, e2⟩ := no5 hoW_sep (itoa_sep (n := a.id) (by omega) (by omega)) (name_sep hf) (name_sep ht) (itoa_sep (n := a.amount) (by omega) (by omega))
  have e3 : hldLn a ++ r = (hoW ++ 32 :: (itoa a.id ++ 32 :: (a.fr.data.toList ++ 32 :: (a.to.data.toList ++ 32 :: itoa a.amount)))) ++ 10 :: r := by rw [hldLn_eq]; simp
  rw [e3] at h ⊢
  obtain ⟨m, hm, e⟩ := mRd_line e2 n D h
  refine ⟨m, hm, ?_⟩
  rw [e, e1]
  have hne : hoW ≠ acW := by decide
  simp [mStep, hne, num_itoa (n := a.id) (by omega) (by omega), num_itoa (n := a.amount) (by omega) (by omega), (bs_of (r := a.fr) rfl).symm, (bs_of (r := a.to) rfl).symm]
theorem sn_rd {a : Sn} (hi : 1 ≤ a.id ∧ a.id ≤ 1000000000) (hp : 0 ≤ a.code ∧ a.code ≤ 9) (r : List UInt8) (n : Nat) (D : Led) (h : (ansLn a ++ r).length ≤ n) :
    ∃ m, r.length ≤ m ∧ mRd n (ansLn a ++ r) D = mRd m r ⟨D.acc, D.hold, D.seen ++ [a]⟩ := by
  obtain ⟨e1, e2⟩ := no3 seW_sep (itoa_sep (n := a.id) (by omega) (by omega)) (itoa_sep (n := a.code) (by omega) (by omega))
  have e3 : ansLn a ++ r = (seW ++ 32 :: (itoa a.id ++ 32 :: itoa a.code)) ++ 10 :: r := by rw [ansLn_eq]; simp
  rw [e3] at h ⊢
  obtain ⟨m, hm, e⟩ := mRd_line e2 n D h
  refine ⟨m, hm, ?_⟩
  rw [e, e1]
  simp [mStep, num_itoa (n := a.id) (by omega) (by omega), num_itoa (n := a.code) (by omega) (by omega)]
theorem rows_rd {A : Type} {f : A → List UInt8} {up : Led → List A → Led} (h0 : ∀ D, up D [] = D) (h1 : ∀ D a ys, up D (a :: ys) = up (up D [a]) ys) : ∀ (ys : List A) (r : List UInt8) (n : Nat) (D : Led), (∀ a ∈ ys, ∀ r n D, (f a ++ r).length ≤ n → ∃ m, r.length ≤ m ∧ mRd n (f a ++ r) D = mRd m r (up D [a])) → (ys.flatMap f ++ r).length ≤ n → ∃ m, r.length ≤ m ∧ mRd n (ys.flatMap f ++ r) D = mRd m r (up D ys) := by
  intro ys
  induction ys with
  | nil => intro r n D _ hn; exact ⟨n, by simpa using hn, by rw [h0]; simp⟩
  | cons a bs ih =>
    intro r n D hP hn
    rw [List.flatMap_cons, List.append_assoc] at hn ⊢
    obtain ⟨m, hm, e⟩ := hP a (List.mem_cons_self ..) _ n D hn
    obtain ⟨k, hk, e'⟩ := ih r m (up D [a]) (fun b hb => hP b (List.mem_cons_of_mem _ hb)) hm
    exact ⟨k, hk, by rw [e, e', h1 D a bs]⟩
/-- the model reads a right ledger out of its text -/
theorem mRd_text {L : Led} (h : ledS L = true) (n : Nat) (hn : (ledT L).length ≤ n) : mRd n (ledT L) nilL = some L := by
  rw [ledT_eq h] at hn ⊢
  have e0 : ldW ++ (L.acc.flatMap accLn ++ (L.hold.flatMap hldLn ++ L.seen.flatMap ansLn)) = [108, 101, 100, 103, 101, 114] ++ 10 :: (L.acc.flatMap accLn ++ (L.hold.flatMap hldLn ++ (L.seen.flatMap ansLn ++ []))) := by simp [ldW]
  rw [e0] at hn ⊢
  obtain ⟨m, hm, e⟩ := mRd_line (by decide) n nilL hn
  rw [e, show mStep nilL (wordsL [108, 101, 100, 103, 101, 114]) = nilL from rfl]
  obtain ⟨m1, hm1, e1⟩ := rows_rd (f := accLn) (up := fun D ys => ⟨D.acc ++ ys, D.hold, D.seen⟩) (fun D => by simp) (fun D a ys => by simp) L.acc _ m nilL (fun a ha r n D q => by
    obtain ⟨k, hk, rfl⟩ := List.mem_iff_getElem.1 ha
    obtain ⟨h1, h2⟩ := acc_nm h hk
    obtain ⟨_, _, h3, h4⟩ := acc_sm h hk
    exact acc_rd h1 h2 h3 h4 r n D q) hm
  rw [e1]
  obtain ⟨m2, hm2, e2⟩ := rows_rd (f := hldLn) (up := fun D ys => ⟨D.acc, D.hold ++ ys, D.seen⟩) (fun D => by simp) (fun D a ys => by simp) L.hold _ m1 ⟨nilL.acc ++ L.acc, nilL.hold, nilL.seen⟩ (fun a ha r n D q => by
    obtain ⟨k, hk, rfl⟩ := List.mem_iff_getElem.1 ha
    obtain ⟨h1, h2⟩ := hld_nm h hk
    obtain ⟨_, _, h3, h4⟩ := hld_sm h hk
    exact hld_rd h1 h2 h3 h4 r n D q) hm1
  rw [e2]
  obtain ⟨m3, hm3, e3⟩ := rows_rd (f := ansLn) (up := fun D ys => ⟨D.acc, D.hold, D.seen ++ ys⟩) (fun D => by simp) (fun D a ys => by simp) L.seen [] m2 ⟨nilL.acc ++ L.acc, nilL.hold ++ L.hold, nilL.seen⟩ (fun a ha r n D q => by
    obtain ⟨k, hk, rfl⟩ := List.mem_iff_getElem.1 ha
    obtain ⟨h3, h4⟩ := ans_sm h hk
    exact sn_rd h3 h4 r n D q) hm2
  rw [e3, mRd_nil]
  simp [nilL]
end Go.Proofs.YteaopalhbnhbaaaGreatDoor
