/- The contracts of the book's held and total. -/
import Derived.Test.YteaopalhbnhbaaaGreatDoorBookOf
namespace Go.Proofs.YteaopalhbnhbaaaGreatDoor
open Go.ChangeShapes Go.WideShapes Go.ChangeAt Go.RowKit Go.Maps
set_option linter.unusedVariables false
set_option maxRecDepth 100000
set_option maxHeartbeats 1000000 in
theorem held_any (q : Nat) (L : Led) (nm : ByteArray) (w : World) (hs : SmallH L.hold) (hB : BookAt w q L) :
    Calls Tryz.prog 75 #[.pointer (some ⟨q, 0, none⟩), .string nm] w fun e w' => e = .returned (.int .i64 (heldL nm L.hold)) ∧ Below w.heap.size w w' := by
  obtain ⟨hq, m, h, s, ch, cs, c0, c1, c2, hh, ha, hm⟩ := hB
  have HC : Hid _ := hide hh
  have HS : Hid _ := hide hs
  have hl : L.hold.length ≤ 10 := hs.1
  clear hh hs c0 c2 ha hm
  go_enter Tryz.func75, Tryz.ntmps75
  go_wp2
  go_loopw [5, 13] (fun s i wr => ∃ k : Nat, k ≤ L.hold.length ∧ i = .int .i64 (k : Int) ∧ s = .int .i64 (heldL nm (L.hold.take k)) ∧ Below w.heap.size w wr) (fun s i wr => L.hold.length - (intOf i).toNat)
  case atStart => exact ⟨0, Nat.zero_le _, rfl, rfl, Below.refl _ _⟩
  case round =>
    obtain ⟨k, hk, rfl, rfl, HB⟩ := hrel
    by_cases hlt : k < L.hold.length
    · obtain ⟨b, off, rfl, hb, d0, d1, d2, d3, _⟩ := (HC.out.below HB) k hlt
      have hlt' : (k : Int) < (L.hold.length : Int) := by omega
      have hbd := held_take nm L.hold k HS.out
      have ham := HS.out.2 (L.hold[k]) (List.getElem_mem hlt)
      obtain ⟨b0, b1⟩ := hbd
      obtain ⟨m0, m1⟩ := ham
      have hst : heldL nm (L.hold.take (k + 1)) = heldL nm (L.hold.take k) + (if (L.hold[k]).fr = nm then (L.hold[k]).amount else 0) := by
        rw [take_next L.hold k hlt, heldL_append]; simp [heldL]
      cases hq : ((L.hold[k]).fr.toList == nm.toList)
      · have hne : ¬ (L.hold[k]).fr = nm := fun e => by rw [beq_bytes.2 e] at hq; cases hq
        have HT : Hid (heldL nm (L.hold.take (k + 1)) = heldL nm (L.hold.take k)) := hide (by rw [hst, if_neg hne]; omega)
        clear hst hne
        generalize heldL nm (L.hold.take k) = x at *
        go_wp2
        exact ⟨⟨k + 1, by omega, by go_num, by rw [HT.out], below_alloc HB _⟩, by simp [intOf]; omega⟩
      · have HT : Hid (heldL nm (L.hold.take (k + 1)) = heldL nm (L.hold.take k) + (L.hold[k]).amount) := hide (by rw [hst, if_pos (beq_bytes.1 hq)])
        clear hst
        generalize heldL nm (L.hold.take k) = x at *
        go_wp2
        exact ⟨⟨k + 1, by omega, by go_num, by rw [HT.out], below_alloc HB _⟩, by simp [intOf]; omega⟩
    · have HE : Hid (L.hold.take k = L.hold) := hide (by rw [List.take_of_length_le (by omega)])
      have hk' : ¬ (k : Int) < (L.hold.length : Int) := by omega
      go_wp2
      go_ret
      exact ⟨by show Ending.returned (Value.int _ (heldL nm (L.hold.take k))) = _; rw [HE.out], HB⟩
/-- the sum over those that have come -/
def doneSum (left : Lit → Bool) (cur : ByteArray) : List Acc → Int
  | [] => 0
  | x :: xs => (if left (kn x.name) = true then 0 else if x.cur = cur then x.posted else 0) + doneSum left cur xs
theorem doneSum_start {left : Lit → Bool} {cur : ByteArray} {l : List Acc} (h : ∀ x ∈ l, left (kn x.name) = true) : doneSum left cur l = 0 := by
  induction l with
  | nil => rfl
  | cons x xs ih => simp only [doneSum, h x (by simp), if_true]; rw [ih (fun y hy => h y (by simp [hy]))]; rfl
theorem doneSum_end {left : Lit → Bool} {cur : ByteArray} {l : List Acc} (h : ∀ kl, left kl = false) : doneSum left cur l = totL cur l := by
  induction l with
  | nil => rfl
  | cons x xs ih => simp only [doneSum, totL, h, ih]; simp
theorem doneSum_congr {left left' : Lit → Bool} {cur : ByteArray} {l : List Acc} (h : ∀ x ∈ l, left (kn x.name) = left' (kn x.name)) : doneSum left cur l = doneSum left' cur l := by
  induction l with
  | nil => rfl
  | cons x xs ih => simp only [doneSum, h x (by simp)]; rw [ih (fun y hy => h y (by simp [hy]))]
def Apart (l : List Acc) : Prop := ∀ i j (hi : i < l.length) (hj : j < l.length), i < j → l[i].name ≠ l[j].name
theorem sameKey_kn {a b : ByteArray} : (kn a).sameKey (kn b) = true ↔ a = b := by
  constructor
  · intro h
    by_cases e : kn a = kn b
    · exact kn_inj e
    · rw [sameKey_ne e] at h; cases h
  · rintro rfl
    exact WideAt.sameKey_self (kn_key _)
theorem doneSum_step {left : Lit → Bool} {cur : ByteArray} : ∀ {l : List Acc} (hd : Apart l) {j : Nat} (hj : j < l.length), left (kn l[j].name) = true →
    doneSum (fun z => left z && !z.sameKey (kn l[j].name)) cur l = doneSum left cur l + (if l[j].cur = cur then l[j].posted else 0) := by
  intro l
  induction l with
  | nil => intro hd j hj; simp at hj
  | cons x xs ih =>
    intro hd j hj hl
    have hd' : Apart xs := fun a b ha hb hab => hd (a + 1) (b + 1) (by simpa using ha) (by simpa using hb) (by omega)
    cases j with
    | zero =>
      simp only [List.getElem_cons_zero] at hl ⊢
      have hself : (kn x.name).sameKey (kn x.name) = true := sameKey_kn.2 rfl
      simp only [doneSum, hl, hself, if_true, Bool.not_true, Bool.and_false, Bool.false_eq_true, if_false]
      rw [doneSum_congr (left' := left) (fun y hy => by
        obtain ⟨i, hi, rfl⟩ := List.getElem_of_mem hy
        have hne := hd 0 (i + 1) (by simp) (by simpa using hi) (by omega)
        simp only [List.getElem_cons_zero, List.getElem_cons_succ] at hne
        have : (kn xs[i].name).sameKey (kn x.name) = false := by
          rw [Bool.eq_false_iff]; intro e; exact hne (sameKey_kn.1 e).symm
        simp [this])]
      omega
    | succ i =>
      simp only [List.getElem_cons_succ] at hl ⊢
      have hi : i < xs.length := by simpa using hj
      have hne := hd 0 (i + 1) (by simp) (by simpa using hi) (by omega)
      simp only [List.getElem_cons_zero, List.getElem_cons_succ] at hne
      have : (kn x.name).sameKey (kn xs[i].name) = false := by
        rw [Bool.eq_false_iff]; intro e; exact hne (sameKey_kn.1 e)
      simp only [doneSum, this, Bool.not_false, Bool.and_true]
      rw [ih hd' hi hl]
      omega
theorem doneSum_bd {left : Lit → Bool} {cur : ByteArray} {l : List Acc} (h : ∀ x ∈ l, -1000000000000 ≤ x.posted ∧ x.posted ≤ 1000000000000) : -(1000000000000 * l.length : Int) ≤ doneSum left cur l ∧ doneSum left cur l ≤ 1000000000000 * l.length := by
  induction l with
  | nil => simp [doneSum]
  | cons x xs ih =>
    have h1 := h x (by simp)
    have h2 := ih (fun y hy => h y (by simp [hy]))
    simp only [doneSum, List.length_cons]
    split
    · omega
    · split <;> omega
theorem done_small {left : Lit → Bool} {cur : ByteArray} {l : List Acc} (h : SmallA l) : -12000000000000 ≤ doneSum left cur l ∧ doneSum left cur l ≤ 12000000000000 := by
  have h1 := doneSum_bd (left := left) (cur := cur) h.2
  have := h.1
  omega
theorem iter_no_cell {w : World} {m r n cnt : Nat} {D : DataW Unit} {left : Lit → Bool} (h : w.ranges Tryz.prog 9 ptrElem m r n D left cnt) {a : Addr} {v : Value} (hc : w.cell? a = some v) : a.block ≠ r := by
  obtain ⟨es, clock, since, seen, c0, hb, _, _, _, hr, _⟩ := h
  intro e
  unfold World.cell? at hc
  rw [e, hr] at hc
  simp at hc
theorem iter_keeps {w w' : World} {m r n cnt : Nat} {D : DataW Unit} {left : Lit → Bool} (h : w.ranges Tryz.prog 9 ptrElem m r n D left cnt) (g : w.grownBy w' (some r)) : ∀ a v, w.cell? a = some v → w'.cell? a = some v :=
  fun a v hc => g.cell hc (fun e => iter_no_cell h hc (Option.some.inj e))
set_option maxRecDepth 100000 in
set_option maxHeartbeats 2000000 in
theorem total_any (q : Nat) (L : Led) (cur : ByteArray) (w : World) (hs : SmallA L.acc) (hd : Apart L.acc) (hB : BookAt w q L) :
    Calls Tryz.prog 77 #[.pointer (some ⟨q, 0, none⟩), .string cur] w fun e w' => e = .returned (.int .i64 (totL cur L.acc)) ∧ Below w.heap.size w w' := by
  obtain ⟨hq, m, h, s, ch, cs, c0, c1, c2, hh, ha, hm⟩ := hB
  obtain ⟨D, hown, hi⟩ := hm
  have HI : Hid _ := hide hi
  have HD : Hid _ := hide hd
  have HS : Hid _ := hide hs
  clear hi hs hd c1 c2 hh ha
  go_enter Tryz.func77, Tryz.ntmps77
  go_wp2_with (first
    | (at_range; refine wpList_range_own _ rfl _ 100 rfl 9 105 law9 u64 _ m L.acc.length D rfl hown ?_; intro w0 hrg0 hg0 hs0)
    | go_in)
  go_frame
  have HB0 : Hid (Below w.heap.size w w0) := hide ((Below.refl _ _).grown hg0 (Nat.le_refl _) (fun j hj => by cases hj))
  go_loopw [5] (fun s wr => ∃ (left : Lit → Bool) (cnt : Nat), wr.ranges Tryz.prog 9 ptrElem m w.heap.size L.acc.length D left cnt ∧ Below w.heap.size w wr ∧ s = .int .i64 (doneSum left cur L.acc)) (fun s wr => wr.rangeLeft m w.heap.size)
  case atStart =>
    refine ⟨_, _, hrg0, HB0.out, ?_⟩
    rw [doneSum_start]
    intro x hx
    obtain ⟨i, hi', rfl⟩ := List.getElem_of_mem hx
    obtain ⟨p, hp, _⟩ := HI.out.at_ i hi'
    exact has_true_of_atKey hp
  case round =>
    obtain ⟨left, cnt, hrg, HB, rfl⟩ := hrel
    have hin : MapIs wr D L.acc := HI.out.kept HB.size (below_keeps HB)
    go_wp2_with (first
      | (at_next; refine wpList_next_book _ rfl _ rfl m w.heap.size L.acc.length D left cnt rfl hrg L.acc hin ?_ ?_)
      | go_in)
    · intro hl0
      have HE : Hid (doneSum left cur L.acc = totL cur L.acc) := hide (doneSum_end hl0)
      clear hl0
      go_wp2
      go_ret
      exact ⟨by rw [HE.out]; rfl, HB⟩
    · intro j hj p w1 cnt1 hlj hblk hrg1 hlt hg1 hs1 hen
      have HB1 : Hid (Below w.heap.size w w1) := hide (HB.grown hg1 HB.size (fun k hk => by cases hk; exact Nat.le_refl _))
      obtain ⟨p0, p1, p2, p3, p4⟩ := hblk.kept hg1.size (iter_keeps hrg hg1)
      have hbd := done_small (left := left) (cur := cur) HS.out
      have ham := HS.out.2 (L.acc[j]) (List.getElem_mem hj)
      obtain ⟨b0, b1⟩ := hbd
      obtain ⟨m0, m1⟩ := ham
      have hst := doneSum_step (cur := cur) HD.out hj hlj
      have HM : Hid (w1.rangeLeft m w.heap.size < wr.rangeLeft m w.heap.size) := hide (by rw [hrg1.left_eq, hrg.left_eq]; exact hlt)
      have HR : Hid _ := hide hrg1
      clear hrg1 hrg hin hblk hg1 hs1 hlt hlj hrg0 hg0 hs0 hown
      cases hq : ((L.acc[j]).cur.toList == cur.toList)
      · have hne : ¬ (L.acc[j]).cur = cur := fun e => by rw [beq_bytes.2 e] at hq; cases hq
        have HT : Hid (doneSum (fun z => left z && !z.sameKey (kn L.acc[j].name)) cur L.acc = doneSum left cur L.acc) := hide (by rw [hst, if_neg hne]; omega)
        clear hst hne
        generalize doneSum left cur L.acc = x at *
        go_wp2
        go_roundw
        case rel => exact ⟨_, cnt1, HR.out, HB1.out, by rw [HT.out]⟩
        case measure => exact HM.out
      · have HT : Hid (doneSum (fun z => left z && !z.sameKey (kn L.acc[j].name)) cur L.acc = doneSum left cur L.acc + (L.acc[j]).posted) := hide (by rw [hst, if_pos (beq_bytes.1 hq)])
        clear hst
        generalize doneSum left cur L.acc = x at *
        go_wp2
        go_roundw
        case rel => exact ⟨_, cnt1, HR.out, HB1.out, by rw [HT.out]⟩
        case measure => exact HM.out
end Go.Proofs.YteaopalhbnhbaaaGreatDoor
