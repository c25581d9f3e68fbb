/- Paths as data: a slot and all above it, the way from one slot to another one. -/
import Derived.Test.YtfkadhkgpfembaaPTo
namespace Go.Proofs.Ytfkadhkgpfembaa
set_option linter.unusedVariables false
def upL (l : List Slt) (id : Int) : Int := match l.find? (fun s => s.id == id) with | some s => s.up | none => 0
/-- a slot of the list -/
def InL (l : List Slt) (id : Int) : Prop := ∃ i, ∃ h : i < l.length, posL l id = (i : Int) ∧ l[i].id = id
theorem inL_or (l : List Slt) (id : Int) : InL l id ∨ posL l id = -1 := by
  rcases posL_cases l id with ⟨i, hi, hp, he⟩ | ⟨hp, _⟩
  · exact .inl ⟨i, hi, hp, he⟩
  · exact .inr hp
theorem upL_at {l : List Slt} {id : Int} {i : Nat} (h : i < l.length) (hp : posL l id = (i : Int)) : upL l id = l[i].up := by
  rw [upL, find_at h hp]
theorem right_slots {l : List Slt} (h : rightsB l = true) : ∀ j (hj : j < l.length), slotB (l.take j) l[j] = true := by
  simp only [rightsB, Bool.and_eq_true, decide_eq_true_eq] at h
  exact h.1.2
theorem ids_pos {l : List Slt} (h : rightsB l = true) (i : Nat) (hi : i < l.length) : 1 ≤ l[i].id ∧ l[i].id ≤ 1000000000 := by
  have := right_slots h i hi
  simp only [slotB, Bool.and_eq_true, inB, decide_eq_true_eq] at this
  exact this.1.1
theorem ids_rise {l : List Slt} (h : rightsB l = true) : ∀ k m (hk : k + m < l.length), (l[k]'(by omega)).id + (m : Int) ≤ (l[k + m]).id := by
  intro k m
  induction m with
  | zero => intro hk; simp
  | succ m ih =>
    intro hk
    have h1 := ih (by omega)
    have h2 := right_slots h (k + m + 1) hk
    rw [slotB_succ (m := k + m) hk] at h2
    simp only [Bool.and_eq_true, decide_eq_true_eq] at h2
    have := h2.2.1
    show (l[k]'(by omega)).id + ((m + 1 : Nat) : Int) ≤ (l[k + m + 1]).id
    omega
theorem InL.pos {l : List Slt} (h : rightsB l = true) {id : Int} (hi : InL l id) : 1 ≤ id ∧ id ≤ 1000000000 := by
  obtain ⟨i, hl, _, rfl⟩ := hi
  exact ids_pos h i hl
theorem InL.mem {l : List Slt} {i : Nat} (hi : i < l.length) : InL l l[i].id := by
  rcases posL_cases l l[i].id with ⟨j, hj, hp, he⟩ | ⟨_, hn⟩
  · exact ⟨j, hj, hp, he⟩
  · exact absurd rfl (hn i hi)
theorem InL.up {l : List Slt} (h : rightsB l = true) {id : Int} (hi : InL l id) : upL l id < id ∧ ((upL l id = 0 ∧ ∀ b, InL l b → id ≤ b) ∨ InL l (upL l id)) := by
  obtain ⟨i, hl, hp, rfl⟩ := hi
  rw [upL_at hl hp]
  refine ⟨up_lt h i hl, ?_⟩
  have h2 := right_slots h i hl
  cases i with
  | zero =>
    left
    rw [slotB_zero hl] at h2
    simp only [Bool.and_eq_true, beq_iff_eq] at h2
    refine ⟨h2.2, fun b hb => ?_⟩
    obtain ⟨j, hj, _, rfl⟩ := hb
    have := ids_rise h 0 j (by omega)
    simp only [Nat.zero_add] at this
    omega
  | succ m =>
    right
    rw [slotB_succ hl] at h2
    simp only [Bool.and_eq_true, decide_eq_true_eq] at h2
    rcases posL_cases (l.take (m + 1)) (l[m + 1]).up with ⟨k, hk, _, he⟩ | ⟨hp', _⟩
    · have hk2 : k < l.length := by simp at hk; omega
      have e : (l.take (m + 1))[k] = l[k] := by simp
      rw [e] at he
      rw [← he]
      exact InL.mem hk2
    · omega
/-- of two unlike slots the greater one is not the first -/
theorem InL.up_in {l : List Slt} (h : rightsB l = true) {a b : Int} (ha : InL l a) (hb : InL l b) (hlt : b < a) : InL l (upL l a) := by
  rcases (ha.up h).2 with ⟨_, h2⟩ | h2
  · have := h2 b hb; omega
  · exact h2
def wayF (l : List Slt) : Nat → Int → Int → List Int
  | 0, a, _ => [a]
  | n + 1, a, b => if b < a then a :: wayF l n (upL l a) b else if a < b then wayF l n a (upL l b) ++ [b] else [a]
theorem wayF_ne (l : List Slt) : ∀ n a b, wayF l n a b ≠ [] := by
  intro n
  induction n with
  | zero => intro a b; simp [wayF]
  | succ n ih => intro a b; simp only [wayF]; split; · simp
                 · split
                   · simp
                   · simp
theorem wayF_len (l : List Slt) : ∀ n a b, (wayF l n a b).length ≤ n + 1 := by
  intro n
  induction n with
  | zero => intro a b; simp [wayF]
  | succ n ih =>
    intro a b
    simp only [wayF]
    split
    · simp only [List.length_cons]; have := ih (upL l a) b; omega
    · split
      · simp only [List.length_append, List.length_cons, List.length_nil]; have := ih a (upL l b); omega
      · simp
/-- a slot and all above it -/
def chF (l : List Slt) : Nat → Int → List Int
  | 0, _ => []
  | n + 1, id => if id = 0 then [] else id :: chF l n (upL l id)
theorem chF_more {l : List Slt} (h : rightsB l = true) : ∀ n m id, InL l id ∨ id = 0 → id.toNat ≤ n → id.toNat ≤ m → chF l n id = chF l m id := by
  intro n
  induction n with
  | zero =>
    intro m id hi hn hm
    rcases hi with hi | rfl
    · have := hi.pos h; omega
    · cases m <;> simp [chF]
  | succ n ih =>
    intro m id hi hn hm
    rcases hi with hi | rfl
    · have hp := hi.pos h
      obtain ⟨m', rfl⟩ : ∃ m', m = m' + 1 := ⟨m - 1, by omega⟩
      have hu := hi.up h
      simp only [chF]
      rw [if_neg (by omega), if_neg (by omega)]
      have hz : InL l (upL l id) ∨ upL l id = 0 := by rcases hu.2 with ⟨h0, _⟩ | h0; exact .inr h0; exact .inl h0
      rw [ih m' _ hz (by omega) (by omega)]
    · cases m <;> simp [chF]
def ch (l : List Slt) (id : Int) : List Int := chF l id.toNat id
theorem ch_zero (l : List Slt) : ch l 0 = [] := rfl
theorem ch_cons {l : List Slt} (h : rightsB l = true) {id : Int} (hi : InL l id) : ch l id = id :: ch l (upL l id) := by
  have hp := hi.pos h
  have hu := hi.up h
  have hz : InL l (upL l id) ∨ upL l id = 0 := by rcases hu.2 with ⟨h0, _⟩ | h0; exact .inr h0; exact .inl h0
  obtain ⟨m, hm⟩ : ∃ m, id.toNat = m + 1 := ⟨id.toNat - 1, by omega⟩
  show chF l id.toNat id = _
  rw [hm]
  simp only [chF]
  rw [if_neg (by omega), chF_more h m (upL l id).toNat _ hz (by omega) (Nat.le_refl _)]
  rfl
theorem ch_le {l : List Slt} (h : rightsB l = true) : ∀ n id, id.toNat ≤ n → InL l id ∨ id = 0 → ∀ x ∈ ch l id, x ≤ id := by
  intro n
  induction n with
  | zero =>
    intro id hn hi
    rcases hi with hi | rfl
    · have := hi.pos h; omega
    · intro x hx; simp [ch_zero] at hx
  | succ n ih =>
    intro id hn hi
    rcases hi with hi | rfl
    · intro x hx
      rw [ch_cons h hi] at hx
      have hu := hi.up h
      have hp := hi.pos h
      rcases List.mem_cons.1 hx with rfl | hx
      · omega
      · have := ih (upL l id) (by omega) (by rcases hu.2 with ⟨h0, _⟩ | h0; exact .inr h0; exact .inl h0) x hx
        omega
    · intro x hx; simp [ch_zero] at hx
theorem ch_len {l : List Slt} (h : rightsB l = true) : ∀ n id, id.toNat ≤ n → InL l id ∨ id = 0 → (ch l id).length ≤ id.toNat := by
  intro n
  induction n with
  | zero =>
    intro id hn hi
    rcases hi with hi | rfl
    · have := hi.pos h; omega
    · simp [ch_zero]
  | succ n ih =>
    intro id hn hi
    rcases hi with hi | rfl
    · rw [ch_cons h hi]
      have hu := hi.up h
      have hp := hi.pos h
      have := ih (upL l id) (by omega) (by rcases hu.2 with ⟨h0, _⟩ | h0; exact .inr h0; exact .inl h0)
      simp only [List.length_cons]
      omega
    · simp [ch_zero]
/-- all ways up end at the first slot -/
theorem ch_last {l : List Slt} (h : rightsB l = true) (hl : 0 < l.length) : ∀ n id, id.toNat ≤ n → InL l id → (ch l id).getLast? = some l[0].id := by
  intro n
  induction n with
  | zero => intro id hn hi; have := hi.pos h; omega
  | succ n ih =>
    intro id hn hi
    have hp := hi.pos h
    have hu := hi.up h
    rw [ch_cons h hi]
    rcases hu.2 with ⟨h0, h1⟩ | h0
    · rw [h0, ch_zero]
      have e1 := h1 _ (InL.mem hl)
      obtain ⟨i, hi', _, rfl⟩ := hi
      have e2 := ids_rise h 0 i (by omega)
      simp only [Nat.zero_add] at e2
      have : l[i].id = l[0].id := by omega
      simp [this]
    · have := ih (upL l id) (by omega) h0
      rw [List.getLast?_cons, this]; rfl
theorem way_is {l : List Slt} (h : rightsB l = true) : ∀ n a b, InL l a → InL l b → a.toNat + b.toNat ≤ n → ∀ i k, i ≤ (ch l a).length → k ≤ (ch l b).length → (ch l a).drop i = (ch l b).drop k → (i = 0 ∨ k = 0 ∨ (ch l a)[i - 1]? ≠ (ch l b)[k - 1]?) →
    (ch l a).take (i + 1) ++ ((ch l b).take k).reverse = wayF l n a b := by
  intro n
  induction n with
  | zero => intro a b ha hb hn; have := ha.pos h; have := hb.pos h; omega
  | succ n ih =>
    intro a b ha hb hn i k hi hk hd he
    have pa := ha.pos h
    have pb := hb.pos h
    simp only [wayF]
    by_cases h1 : b < a
    · rw [if_pos h1]
      have hin := ha.up_in h hb h1
      have hua := (ha.up h).1
      have hpu := hin.pos h
      rw [ch_cons h ha] at hi hd he ⊢
      have hna : a ∉ ch l b := fun hm => by have := ch_le h b.toNat b (Nat.le_refl _) (.inl hb) a hm; omega
      cases i with
      | zero =>
        exfalso
        apply hna
        rw [List.drop_zero] at hd
        have : a ∈ (ch l b).drop k := by rw [← hd]; simp
        exact List.mem_of_mem_drop this
      | succ i =>
        have he' : i = 0 ∨ k = 0 ∨ (ch l (upL l a))[i - 1]? ≠ (ch l b)[k - 1]? := by
          rcases he with he | he | he
          · omega
          · exact .inr (.inl he)
          · cases i with
            | zero => exact .inl rfl
            | succ i => exact .inr (.inr (by simpa using he))
        have := ih (upL l a) b hin hb (by omega) i k (by simpa using hi) hk (by simpa using hd) he'
        rw [List.take_succ_cons, List.cons_append, this]
    · rw [if_neg h1]
      by_cases h2 : a < b
      · rw [if_pos h2]
        have hin := hb.up_in h ha h2
        have hub := (hb.up h).1
        have hpu := hin.pos h
        rw [ch_cons h hb] at hk hd he ⊢
        have hnb : b ∉ ch l a := fun hm => by have := ch_le h a.toNat a (Nat.le_refl _) (.inl ha) b hm; omega
        cases k with
        | zero =>
          exfalso
          apply hnb
          rw [List.drop_zero] at hd
          have : b ∈ (ch l a).drop i := by rw [hd]; simp
          exact List.mem_of_mem_drop this
        | succ k =>
          have he' : i = 0 ∨ k = 0 ∨ (ch l a)[i - 1]? ≠ (ch l (upL l b))[k - 1]? := by
            rcases he with he | he | he
            · exact .inl he
            · omega
            · cases k with
              | zero => exact .inr (.inl rfl)
              | succ k => exact .inr (.inr (by simpa using he))
          have := ih a (upL l b) ha hin (by omega) i k hi (by simpa using hk) (by simpa using hd) he'
          rw [List.take_succ_cons, List.reverse_cons, ← List.append_assoc, this]
      · rw [if_neg h2]
        obtain rfl : a = b := by omega
        have hl := congrArg List.length hd
        simp only [List.length_drop] at hl
        obtain rfl : i = k := by omega
        have i0 : i = 0 := by
          rcases he with he | he | he
          · exact he
          · exact he
          · exact absurd rfl he
        subst i0
        rw [ch_cons h ha]
        simp
end Go.Proofs.Ytfkadhkgpfembaa
