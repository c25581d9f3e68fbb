/- The contract of the program's bookOf. -/
import Derived.Test.YtjjoeajnhblacaaGreatDoorGf
import Derived.Deep.RegionHeld
import Derived.Deep.CutRange
import Derived.Test.YtjjoeajnhblacaaGreatDoorGc
namespace Go.Proofs.YtjjoeajnhblacaaGreatDoor
open Go.ChangeShapes Go.WideShapes Go.ChangeAt Go.RowKit Go.Maps
set_option linter.unusedVariables false
set_option maxRecDepth 100000
def BookAt (w : World) (q : Nat) (L : Led) : Prop := q < w.heap.size ∧ ∃ m h s ch cs, w.cell? ⟨q, 0, none⟩ = some (.map (some m)) ∧ w.cell? ⟨q, 1, none⟩ = some (.slice h L.hold.length ch) ∧ w.cell? ⟨q, 2, none⟩ = some (.slice s L.seen.length cs) ∧
  HoldAt w h L.hold ∧ AnsAt w s L.seen ∧ MapHas w m L.acc
theorem BookAt.below {w w' : World} {q : Nat} {L : Led} (k : BookAt w q L) (b : Below w.heap.size w w') : BookAt w' q L := by
  obtain ⟨hq, m, h, s, ch, cs, c0, c1, c2, hh, ha, hm⟩ := k
  exact ⟨Nat.lt_of_lt_of_le hq b.size, m, h, s, ch, cs, below_keeps b _ _ c0, below_keeps b _ _ c1, below_keeps b _ _ c2, hh.below b, ha.below b, hm.below b⟩
def BookEnd (L : Led) (w : World) (e : Ending) (w' : World) : Prop := Below w.heap.size w w' ∧ ∃ q, e = .returned (.pointer (some ⟨q, 0, none⟩)) ∧ BookAt w' q L
/-- the box of the argument, read in a later world -/
def BoxIn (w : World) (va vh vs : Value) (x : World) : Prop := x.cell? ⟨w.heap.size, 1, none⟩ = some vh ∧ x.cell? ⟨w.heap.size, 2, none⟩ = some vs ∧ Hid (Below (w.heap.size + 1) (w.alloc (.cells #[va, vh, vs] 28)) x)
theorem boxIn_of {w : World} {va vh vs : Value} {x : World} (h : Below (w.heap.size + 1) (w.alloc (.cells #[va, vh, vs] 28)) x) : BoxIn w va vh vs x :=
  ⟨by rw [h.cell (by simp)]; simp, by rw [h.cell (by simp)]; simp, hide h⟩
theorem BoxIn.alloc {w : World} {va vh vs : Value} {x : World} (h : BoxIn w va vh vs x) (o : Obj) : BoxIn w va vh vs (x.alloc o) :=
  boxIn_of (h.2.2.out.alloc (by have := h.2.2.out.size; simp at this; omega) o)
theorem BoxIn.on {w : World} {va vh vs : Value} {x y : World} (h : BoxIn w va vh vs x) (b : Below x.heap.size x y) : BoxIn w va vh vs y :=
  boxIn_of (h.2.2.out.trans (b.mono (by have := h.2.2.out.size; simp at this; omega)))
theorem BoxIn.old {w : World} {va vh vs : Value} {x : World} (h : BoxIn w va vh vs x) : Below w.heap.size w x :=
  ((Below.refl w.heap.size w).alloc (Nat.le_refl _) _).trans (h.2.2.out.mono (by omega))
/-- what the first region leaves -/
def CutIs (w : World) (va vh vs : Value) (L : Led) (q : Nat) (x : World) (m : Nat) : Prop :=
  BoxIn w va vh vs x ∧ w.heap.size + 1 ≤ m ∧ q < x.heap.size ∧ x.cell? ⟨q, 0, none⟩ = some (.map (some m)) ∧ (∃ h ch, x.cell? ⟨q, 1, none⟩ = some (.slice h L.hold.length ch) ∧ HoldAt x h L.hold) ∧ (∃ s cs, x.cell? ⟨q, 2, none⟩ = some (.slice s L.seen.length cs) ∧ AnsAt x s L.seen) ∧ MapHas x m []
theorem cut_of {w : World} {va vh vs : Value} {L : Led} {x : World} {m ch cs : Nat} {h s : Option Addr} (hb : BoxIn w va vh vs (x.alloc (.cells #[.map (some m), .slice h L.hold.length ch, .slice s L.seen.length cs] 65))) (hm : w.heap.size + 1 ≤ m)
    (hh : HoldAt x h L.hold) (hs : AnsAt x s L.seen) (hp : MapHas x m []) : CutIs w va vh vs L x.heap.size (x.alloc (.cells #[.map (some m), .slice h L.hold.length ch, .slice s L.seen.length cs] 65)) m :=
  ⟨hb, hm, by simp, by simp, ⟨h, ch, by simp, hh.below ((Below.refl _ _).alloc (Nat.le_refl _) _)⟩, ⟨s, cs, by simp, hs.below ((Below.refl _ _).alloc (Nat.le_refl _) _)⟩, hp.below ((Below.refl _ _).alloc (Nat.le_refl _) _)⟩
theorem mapHas_drew {w : World} {m : Nat} {l : List Acc} (h : MapHas w m l) : MapHas w.drew m l := h.below (Below.refl _ _).drew
/-- the loop's state -/
structure MidIs (w : World) (va vh vs : Value) (L : Led) (q m : Nat) (h s : Option Addr) (ch cs : Nat) (l : List Acc) (x : World) : Prop where
  box : BoxIn w va vh vs x
  lt : q < x.heap.size
  c0 : x.cell? ⟨q, 0, none⟩ = some (.map (some m))
  c1 : x.cell? ⟨q, 1, none⟩ = some (.slice h L.hold.length ch)
  c2 : x.cell? ⟨q, 2, none⟩ = some (.slice s L.seen.length cs)
  hold : HoldAt x h L.hold
  seen : AnsAt x s L.seen
  map : MapHas x m l
def accObj (x : Acc) : Obj := .cells #[.string x.name, .string x.cur, .int .i64 x.limit, .int .i64 x.posted] 37
theorem HoldAt.keeps {w w' : World} {a : Option Addr} {l : List Hld} (h : HoldAt w a l) (hs : w.heap.size ≤ w'.heap.size) (hk : ∀ a v, w.cell? a = some v → w'.cell? a = some v) : HoldAt w' a l := fun i hi => by
  obtain ⟨b, off, e, hb, h0, h1, h2, h3, r⟩ := h i hi
  exact ⟨b, off, e, by omega, hk _ _ h0, hk _ _ h1, hk _ _ h2, hk _ _ h3, r⟩
theorem AnsAt.keeps {w w' : World} {a : Option Addr} {l : List Sn} (h : AnsAt w a l) (hs : w.heap.size ≤ w'.heap.size) (hk : ∀ a v, w.cell? a = some v → w'.cell? a = some v) : AnsAt w' a l := fun i hi => by
  obtain ⟨b, off, e, hb, h0, h1, r⟩ := h i hi
  exact ⟨b, off, e, by omega, hk _ _ h0, hk _ _ h1, r⟩
theorem blk_two (x : World) (y : Acc) : AccBlk ((x.alloc (accObj y)).alloc (accObj y)) (x.heap.size + 1) y := by
  unfold accObj
  exact ⟨by simp, by simp, by simp, by simp, by simp⟩
/-- the round's store -/
theorem mid_step {w : World} {va vh vs : Value} {L : Led} {q m : Nat} {h s : Option Addr} {ch cs : Nat} {k : Nat} {x : World} (hk : k < L.acc.length) (hl : L.acc.length ≤ 12) (hm : w.heap.size + 1 ≤ m) (M : MidIs w va vh vs L q m h s ch cs (L.acc.take k) x)
    (hd : ∀ i j (hi : i < L.acc.length) (hj : j < L.acc.length), i < j → L.acc[i].name ≠ L.acc[j].name) (hn : L.acc[k].name.size ≤ maxLen) :
    ∃ y, (Instr.mapUpdate 63 (.map (some m)) (.string L.acc[k].name) (.pointer (some ⟨x.heap.size + 1, 0, none⟩))).run Tryz.prog ((x.alloc (accObj L.acc[k])).alloc (accObj L.acc[k])).drew = .ok () y ∧ MidIs w va vh vs L q m h s ch cs (L.acc.take (k + 1)) y := by
  obtain ⟨D, ho, hi⟩ := M.map
  have hB2 : Below x.heap.size x ((x.alloc (accObj L.acc[k])).alloc (accObj L.acc[k])).drew := (((Below.refl _ _).alloc (Nat.le_refl _) _).alloc (by simp) _).drew
  have ho2 : ((x.alloc (accObj L.acc[k])).alloc (accObj L.acc[k])).drew.ownsMap Tryz.prog 9 ptrElem m (L.acc.take k).length D := ho.kept (below_grownBy hB2) (by simp)
  obtain ⟨y, hrun, ho3, hg⟩ := ho2.update (t := 63) (e := 62) law9 u64 (by unfold maxLen; rw [List.length_take]; omega) (kn_of hn) (ptr_mk (x.heap.size + 1))
  have hkeep := map_keeps ho2 hg
  have hkeep2 : ∀ a v, x.cell? a = some v → y.cell? a = some v := fun a v hc => hkeep a v (below_keeps hB2 a v hc)
  have hs2 : x.heap.size ≤ y.heap.size := Nat.le_trans hB2.size hg.size
  have hxm : x.heap.size ≤ ((x.alloc (accObj L.acc[k])).alloc (accObj L.acc[k])).drew.heap.size := hB2.size
  refine ⟨y, hrun, ⟨?_, Nat.lt_of_lt_of_le M.lt hs2, hkeep2 _ _ M.c0, hkeep2 _ _ M.c1, hkeep2 _ _ M.c2, M.hold.keeps hs2 hkeep2, M.seen.keeps hs2 hkeep2, ⟨D.put (kn L.acc[k].name) (ptrD (x.heap.size + 1)), ?_, ?_⟩⟩⟩
  · have b1 := M.box.2.2.out
    have hsz := b1.size
    simp only [World.size_alloc] at hsz
    have b2 := b1.trans (hB2.mono hsz)
    exact boxIn_of (b2.grown hg (by have := hB2.size; omega) (fun j hj => by cases hj; exact hm))
  · have e1 : (L.acc.take (k + 1)).length = (L.acc.take k).length + 1 := by simp only [List.length_take]; omega
    rw [e1]
    exact ho3
  · rw [take_next _ _ hk]
    refine mapIs_put ho.isMap hi hs2 hkeep2 (fun i hi' => ?_) ((blk_two x _).kept hg.size hkeep)
    have hik : i < k := by simp only [List.length_take] at hi'; omega
    rw [List.getElem_take]
    exact hd i k (by omega) hk hik
set_option maxRecDepth 100000 in
set_option maxHeartbeats 4000000 in
theorem bookOf_any (a h s : Option Addr) (ca ch cs : Nat) (L : Led) (w : World) (g1 : L.acc.length ≤ 12) (g2 : L.hold.length ≤ 10) (g3 : L.seen.length ≤ 40) (hL : LedAt w a h s L) (hd : ∀ i j (hi : i < L.acc.length) (hj : j < L.acc.length), i < j → L.acc[i].name ≠ L.acc[j].name) :
    Calls Tryz.prog 27 #[.agg #[.slice a L.acc.length ca, .slice h L.hold.length ch, .slice s L.seen.length cs]] w fun e w' => BookEnd L w e w' := by
  have HL : Hid _ := hide hL
  have HD : Hid _ := hide hd
  clear hL hd
  have hmm := @run_makeMap Tryz.prog
  go_enter Tryz.func27, Tryz.ntmps27
  go_upto_region 1 with fail
  go_cut [3] from 7 to 15 (fun b wx => ∃ q m, b = .pointer (some ⟨q, 0, none⟩) ∧ Hid (CutIs w (.slice a L.acc.length ca) (.slice h L.hold.length ch) (.slice s L.seen.length cs) L q wx m))
  case first =>
    go_region_held (fun x => x.cell? ⟨w.heap.size, 1, none⟩ = some (.slice h L.hold.length ch) ∧ x.cell? ⟨w.heap.size, 2, none⟩ = some (.slice s L.seen.length cs) ∧ Hid (Below (w.heap.size + 1) (w.alloc (.cells #[.slice a L.acc.length ca, .slice h L.hold.length ch, .slice s L.seen.length cs] 28)) x))
      (first | exact boxIn_of (Below.refl _ _).drew | exact BoxIn.alloc (by assumption) _ | exact BoxIn.on (by assumption) (by assumption))
      (first | (go_at_call 54; refine (cloneH_any _ _ _ _ (by omega) (HL.out.hold.below (BoxIn.old (by assumption)))).mono ?_; rintro e wh ⟨hbh, ah, caph, rfl, hah⟩) | (go_at_call 55; refine (cloneA_any _ _ _ _ (by omega) (HL.out.seen.below (BoxIn.old (by assumption)))).mono ?_; rintro e ws ⟨hbs, as', caps, rfl, has⟩))
    · have hmp := (((mapHas_made (w.alloc (.cells #[.slice a L.acc.length ca, .slice h L.hold.length ch, .slice s L.seen.length cs] 28))).below ((Below.refl _ _).drew)).below hbh).below hbs
      rw [World.size_alloc] at hmp
      have HC : Hid _ := hide (cut_of (w := w) (L := L) (x := ws) (m := w.heap.size + 1) (by assumption) (Nat.le_refl _) (hah.below hbs) has hmp)
      clear hmp
      go_wp2_with fail
      go_meet
      case rel => exact ⟨_, _, rfl, HC⟩
    · have HC : Hid _ := hide (cut_of (L := L) (x := ws) (by assumption) (by have := hbh.size; simp at this; exact this) ((hah.below ((Below.refl _ _).alloc (Nat.le_refl _) _)).below hbs) has ((mapHas_made wh).below hbs))
      go_wp2_with fail
      go_meet
      case rel => exact ⟨_, _, rfl, HC⟩
    · have HC : Hid _ := hide (cut_of (L := L) (x := ws.alloc (.map #[] 0)) (by assumption) (by have := hbh.size; have := hbs.size; simp at *; omega) ((hah.below hbs).below ((Below.refl _ _).alloc (Nat.le_refl _) _)) (has.below ((Below.refl _ _).alloc (Nat.le_refl _) _)) (mapHas_made ws))
      go_wp2_with fail
      go_meet
      case rel => exact ⟨_, _, by simp, HC⟩
  case rest =>
    obtain ⟨q, m, rfl, HC⟩ := hcut
    obtain ⟨hbox, hm, hq, c0, ⟨h', ch', c1, hh⟩, ⟨s', cs', c2, ha⟩, hmap⟩ := HC.out
    have e0 : wc.cell? ⟨w.heap.size, 0, none⟩ = some (.slice a L.acc.length ca) := by rw [hbox.2.2.out.cell (by simp)]; simp
    have HM : Hid (MidIs w (.slice a L.acc.length ca) (.slice h L.hold.length ch) (.slice s L.seen.length cs) L q m h' s' ch' cs' (L.acc.take 0) wc) := hide ⟨hbox, hq, c0, c1, c2, hh, ha, hmap⟩
    clear hbox hq c0 c1 c2 hh ha hmap HC
    go_wp2
    go_loopw [19] (fun i wr => ∃ k : Nat, k ≤ L.acc.length ∧ i = .int .i64 (k : Int) ∧ Hid (MidIs w (.slice a L.acc.length ca) (.slice h L.hold.length ch) (.slice s L.seen.length cs) L q m h' s' ch' cs' (L.acc.take k) wr)) (fun i wr => L.acc.length - (intOf i).toNat)
    case atStart => exact ⟨0, Nat.zero_le _, rfl, HM⟩
    case round =>
      clear HM e0
      obtain ⟨k, hk, rfl, HM⟩ := hrel
      by_cases hlt : k < L.acc.length
      · obtain ⟨b, off, rfl, hb, d0, d1, d2, d3, s1, s2, _, _⟩ := (HL.out.acc.below HM.out.box.old) k hlt
        have hlt' : (k : Int) < (L.acc.length : Int) := by omega
        have c0 := HM.out.c0
        have hqx := HM.out.lt
        obtain ⟨y, hrun, HM2⟩ := mid_step hlt g1 hm HM.out HD.out s1
        have HM3 : Hid _ := hide HM2
        clear HM2
        simp only [accObj] at hrun
        go_wp2_with fail
        go_region
        go_wp2
        exact ⟨⟨k + 1, by omega, by go_num, HM3⟩, by simp [intOf]; omega⟩
      · have hk' : ¬ (k : Int) < (L.acc.length : Int) := by omega
        have HE : Hid (BookEnd L w (.returned (.pointer (some ⟨q, 0, none⟩))) wr) := hide (by
          have M := HM.out
          rw [List.take_of_length_le (by omega)] at M
          exact ⟨M.box.old, q, rfl, M.lt, m, h', s', ch', cs', M.c0, M.c1, M.c2, M.hold, M.seen, M.map⟩)
        go_wp2
        go_ret
        exact HE.out
end Go.Proofs.YtjjoeajnhblacaaGreatDoor
/- The contracts of the book's held and total. -/
namespace Go.Proofs.YtjjoeajnhblacaaGreatDoor
open Go.ChangeShapes Go.WideShapes Go.ChangeAt Go.RowKit Go.Maps
set_option linter.unusedVariables false
set_option maxRecDepth 100000
set_option maxHeartbeats 1000000 in
theorem held_any (q : Nat) (L : Led) (nm : ByteArray) (w : World) (hs : SmallH L.hold) (hB : BookAt w q L) :
    Calls Tryz.prog 37 #[.pointer (some ⟨q, 0, none⟩), .string nm] w fun e w' => e = .returned (.int .i64 (heldL nm L.hold)) ∧ Below w.heap.size w w' := by
  obtain ⟨hq, m, h, s, ch, cs, c0, c1, c2, hh, ha, hm⟩ := hB
  have HC : Hid _ := hide hh
  have HS : Hid _ := hide hs
  have hl : L.hold.length ≤ 10 := hs.1
  clear hh hs c0 c2 ha hm
  go_enter Tryz.func37, Tryz.ntmps37
  go_wp2
  go_loopw [5, 13] (fun s i wr => ∃ k : Nat, k ≤ L.hold.length ∧ i = .int .i64 (k : Int) ∧ s = .int .i64 (heldL nm (L.hold.take k)) ∧ Below w.heap.size w wr) (fun s i wr => L.hold.length - (intOf i).toNat)
  case atStart => exact ⟨0, Nat.zero_le _, rfl, rfl, Below.refl _ _⟩
  case round =>
    obtain ⟨k, hk, rfl, rfl, HB⟩ := hrel
    by_cases hlt : k < L.hold.length
    · obtain ⟨b, off, rfl, hb, d0, d1, d2, d3, _⟩ := (HC.out.below HB) k hlt
      have hlt' : (k : Int) < (L.hold.length : Int) := by omega
      have hbd := held_take nm L.hold k HS.out
      have ham := HS.out.2 (L.hold[k]) (List.getElem_mem hlt)
      obtain ⟨b0, b1⟩ := hbd
      obtain ⟨m0, m1⟩ := ham
      have hst : heldL nm (L.hold.take (k + 1)) = heldL nm (L.hold.take k) + (if (L.hold[k]).fr = nm then (L.hold[k]).amount else 0) := by
        rw [take_next L.hold k hlt, heldL_append]; simp [heldL]
      cases hq : ((L.hold[k]).fr.toList == nm.toList)
      · have hne : ¬ (L.hold[k]).fr = nm := fun e => by rw [beq_bytes.2 e] at hq; cases hq
        have HT : Hid (heldL nm (L.hold.take (k + 1)) = heldL nm (L.hold.take k)) := hide (by rw [hst, if_neg hne]; omega)
        clear hst hne
        generalize heldL nm (L.hold.take k) = x at *
        go_wp2
        exact ⟨⟨k + 1, by omega, by go_num, by rw [HT.out], below_alloc HB _⟩, by simp [intOf]; omega⟩
      · have HT : Hid (heldL nm (L.hold.take (k + 1)) = heldL nm (L.hold.take k) + (L.hold[k]).amount) := hide (by rw [hst, if_pos (beq_bytes.1 hq)])
        clear hst
        generalize heldL nm (L.hold.take k) = x at *
        go_wp2
        exact ⟨⟨k + 1, by omega, by go_num, by rw [HT.out], below_alloc HB _⟩, by simp [intOf]; omega⟩
    · have HE : Hid (L.hold.take k = L.hold) := hide (by rw [List.take_of_length_le (by omega)])
      have hk' : ¬ (k : Int) < (L.hold.length : Int) := by omega
      go_wp2
      go_ret
      exact ⟨by show Ending.returned (Value.int _ (heldL nm (L.hold.take k))) = _; rw [HE.out], HB⟩
/-- the sum over those that have come -/
def doneSum (left : Lit → Bool) (cur : ByteArray) : List Acc → Int
  | [] => 0
  | x :: xs => (if left (kn x.name) = true then 0 else if x.cur = cur then x.posted else 0) + doneSum left cur xs
theorem doneSum_start {left : Lit → Bool} {cur : ByteArray} {l : List Acc} (h : ∀ x ∈ l, left (kn x.name) = true) : doneSum left cur l = 0 := by
  induction l with
  | nil => rfl
  | cons x xs ih => simp only [doneSum, h x (by simp), if_true]; rw [ih (fun y hy => h y (by simp [hy]))]; rfl
theorem doneSum_end {left : Lit → Bool} {cur : ByteArray} {l : List Acc} (h : ∀ kl, left kl = false) : doneSum left cur l = totL cur l := by
  induction l with
  | nil => rfl
  | cons x xs ih => simp only [doneSum, totL, h, ih]; simp
theorem doneSum_congr {left left' : Lit → Bool} {cur : ByteArray} {l : List Acc} (h : ∀ x ∈ l, left (kn x.name) = left' (kn x.name)) : doneSum left cur l = doneSum left' cur l := by
  induction l with
  | nil => rfl
  | cons x xs ih => simp only [doneSum, h x (by simp)]; rw [ih (fun y hy => h y (by simp [hy]))]
def Apart (l : List Acc) : Prop := ∀ i j (hi : i < l.length) (hj : j < l.length), i < j → l[i].name ≠ l[j].name
theorem sameKey_kn {a b : ByteArray} : (kn a).sameKey (kn b) = true ↔ a = b := by
  constructor
  · intro h
    by_cases e : kn a = kn b
    · exact kn_inj e
    · rw [sameKey_ne e] at h; cases h
  · rintro rfl
    exact WideAt.sameKey_self (kn_key _)
theorem doneSum_step {left : Lit → Bool} {cur : ByteArray} : ∀ {l : List Acc} (hd : Apart l) {j : Nat} (hj : j < l.length), left (kn l[j].name) = true →
    doneSum (fun z => left z && !z.sameKey (kn l[j].name)) cur l = doneSum left cur l + (if l[j].cur = cur then l[j].posted else 0) := by
  intro l
  induction l with
  | nil => intro hd j hj; simp at hj
  | cons x xs ih =>
    intro hd j hj hl
    have hd' : Apart xs := fun a b ha hb hab => hd (a + 1) (b + 1) (by simpa using ha) (by simpa using hb) (by omega)
    cases j with
    | zero =>
      simp only [List.getElem_cons_zero] at hl ⊢
      have hself : (kn x.name).sameKey (kn x.name) = true := sameKey_kn.2 rfl
      simp only [doneSum, hl, hself, if_true, Bool.not_true, Bool.and_false, Bool.false_eq_true, if_false]
      rw [doneSum_congr (left' := left) (fun y hy => by
        obtain ⟨i, hi, rfl⟩ := List.getElem_of_mem hy
        have hne := hd 0 (i + 1) (by simp) (by simpa using hi) (by omega)
        simp only [List.getElem_cons_zero, List.getElem_cons_succ] at hne
        have : (kn xs[i].name).sameKey (kn x.name) = false := by
          rw [Bool.eq_false_iff]; intro e; exact hne (sameKey_kn.1 e).symm
        simp [this])]
      omega
    | succ i =>
      simp only [List.getElem_cons_succ] at hl ⊢
      have hi : i < xs.length := by simpa using hj
      have hne := hd 0 (i + 1) (by simp) (by simpa using hi) (by omega)
      simp only [List.getElem_cons_zero, List.getElem_cons_succ] at hne
      have : (kn x.name).sameKey (kn xs[i].name) = false := by
        rw [Bool.eq_false_iff]; intro e; exact hne (sameKey_kn.1 e)
      simp only [doneSum, this, Bool.not_false, Bool.and_true]
      rw [ih hd' hi hl]
      omega
theorem doneSum_bd {left : Lit → Bool} {cur : ByteArray} {l : List Acc} (h : ∀ x ∈ l, -1000000000000 ≤ x.posted ∧ x.posted ≤ 1000000000000) : -(1000000000000 * l.length : Int) ≤ doneSum left cur l ∧ doneSum left cur l ≤ 1000000000000 * l.length := by
  induction l with
  | nil => simp [doneSum]
  | cons x xs ih =>
    have h1 := h x (by simp)
    have h2 := ih (fun y hy => h y (by simp [hy]))
    simp only [doneSum, List.length_cons]
    split
    · omega
    · split <;> omega
theorem done_small {left : Lit → Bool} {cur : ByteArray} {l : List Acc} (h : SmallA l) : -12000000000000 ≤ doneSum left cur l ∧ doneSum left cur l ≤ 12000000000000 := by
  have h1 := doneSum_bd (left := left) (cur := cur) h.2
  have := h.1
  omega
theorem iter_no_cell {w : World} {m r n cnt : Nat} {D : DataW Unit} {left : Lit → Bool} (h : w.ranges Tryz.prog 9 ptrElem m r n D left cnt) {a : Addr} {v : Value} (hc : w.cell? a = some v) : a.block ≠ r := by
  obtain ⟨es, clock, since, seen, c0, hb, _, _, _, hr, _⟩ := h
  intro e
  unfold World.cell? at hc
  rw [e, hr] at hc
  simp at hc
theorem iter_keeps {w w' : World} {m r n cnt : Nat} {D : DataW Unit} {left : Lit → Bool} (h : w.ranges Tryz.prog 9 ptrElem m r n D left cnt) (g : w.grownBy w' (some r)) : ∀ a v, w.cell? a = some v → w'.cell? a = some v :=
  fun a v hc => g.cell hc (fun e => iter_no_cell h hc (Option.some.inj e))
set_option maxRecDepth 100000 in
set_option maxHeartbeats 2000000 in
theorem total_any (q : Nat) (L : Led) (cur : ByteArray) (w : World) (hs : SmallA L.acc) (hd : Apart L.acc) (hB : BookAt w q L) :
    Calls Tryz.prog 36 #[.pointer (some ⟨q, 0, none⟩), .string cur] w fun e w' => e = .returned (.int .i64 (totL cur L.acc)) ∧ Below w.heap.size w w' := by
  obtain ⟨hq, m, h, s, ch, cs, c0, c1, c2, hh, ha, hm⟩ := hB
  obtain ⟨D, hown, hi⟩ := hm
  have HI : Hid _ := hide hi
  have HD : Hid _ := hide hd
  have HS : Hid _ := hide hs
  clear hi hs hd c1 c2 hh ha
  go_enter Tryz.func36, Tryz.ntmps36
  go_wp2_with (first
    | (at_range; refine wpList_range_own _ rfl _ 63 rfl 9 62 law9 u64 _ m L.acc.length D rfl hown ?_; intro w0 hrg0 hg0 hs0)
    | go_in)
  go_frame
  have HB0 : Hid (Below w.heap.size w w0) := hide ((Below.refl _ _).grown hg0 (Nat.le_refl _) (fun j hj => by cases hj))
  go_loopw [5] (fun s wr => ∃ (left : Lit → Bool) (cnt : Nat), wr.ranges Tryz.prog 9 ptrElem m w.heap.size L.acc.length D left cnt ∧ Below w.heap.size w wr ∧ s = .int .i64 (doneSum left cur L.acc)) (fun s wr => wr.rangeLeft m w.heap.size)
  case atStart =>
    refine ⟨_, _, hrg0, HB0.out, ?_⟩
    rw [doneSum_start]
    intro x hx
    obtain ⟨i, hi', rfl⟩ := List.getElem_of_mem hx
    obtain ⟨p, hp, _⟩ := HI.out.at_ i hi'
    exact has_true_of_atKey hp
  case round =>
    obtain ⟨left, cnt, hrg, HB, rfl⟩ := hrel
    have hin : MapIs wr D L.acc := HI.out.kept HB.size (below_keeps HB)
    go_wp2_with (first
      | (at_next; refine wpList_next_book _ rfl _ rfl m w.heap.size L.acc.length D left cnt rfl hrg L.acc hin ?_ ?_)
      | go_in)
    · intro hl0
      have HE : Hid (doneSum left cur L.acc = totL cur L.acc) := hide (doneSum_end hl0)
      clear hl0
      go_wp2
      go_ret
      exact ⟨by rw [HE.out]; rfl, HB⟩
    · intro j hj p w1 cnt1 hlj hblk hrg1 hlt hg1 hs1 hen
      have HB1 : Hid (Below w.heap.size w w1) := hide (HB.grown hg1 HB.size (fun k hk => by cases hk; exact Nat.le_refl _))
      obtain ⟨p0, p1, p2, p3, p4⟩ := hblk.kept hg1.size (iter_keeps hrg hg1)
      have hbd := done_small (left := left) (cur := cur) HS.out
      have ham := HS.out.2 (L.acc[j]) (List.getElem_mem hj)
      obtain ⟨b0, b1⟩ := hbd
      obtain ⟨m0, m1⟩ := ham
      have hst := doneSum_step (cur := cur) HD.out hj hlj
      have HM : Hid (w1.rangeLeft m w.heap.size < wr.rangeLeft m w.heap.size) := hide (by rw [hrg1.left_eq, hrg.left_eq]; exact hlt)
      have HR : Hid _ := hide hrg1
      clear hrg1 hrg hin hblk hg1 hs1 hlt hlj hrg0 hg0 hs0 hown
      cases hq : ((L.acc[j]).cur.toList == cur.toList)
      · have hne : ¬ (L.acc[j]).cur = cur := fun e => by rw [beq_bytes.2 e] at hq; cases hq
        have HT : Hid (doneSum (fun z => left z && !z.sameKey (kn L.acc[j].name)) cur L.acc = doneSum left cur L.acc) := hide (by rw [hst, if_neg hne]; omega)
        clear hst hne
        generalize doneSum left cur L.acc = x at *
        go_wp2
        go_roundw
        case rel => exact ⟨_, cnt1, HR.out, HB1.out, by rw [HT.out]⟩
        case measure => exact HM.out
      · have HT : Hid (doneSum (fun z => left z && !z.sameKey (kn L.acc[j].name)) cur L.acc = doneSum left cur L.acc + (L.acc[j]).posted) := hide (by rw [hst, if_pos (beq_bytes.1 hq)])
        clear hst
        generalize doneSum left cur L.acc = x at *
        go_wp2
        go_roundw
        case rel => exact ⟨_, cnt1, HR.out, HB1.out, by rw [HT.out]⟩
        case measure => exact HM.out
end Go.Proofs.YtjjoeajnhblacaaGreatDoor
/- A region that draws its order, reads what was there and calls what lays new blocks alone: one walk, in the order of the text, serves every order. -/
namespace Go.Proofs.YtjjoeajnhblacaaGreatDoor
open Go.ChangeShapes Go.WideShapes Go.ChangeAt Go.RowKit
set_option linter.unusedVariables false
set_option maxRecDepth 100000
theorem later_box {w wr : World} {va vh vs : Value} (o : Obj) (hsz : w.heap.size < wr.heap.size) (e0 : wr.cell? ⟨w.heap.size, 0, none⟩ = some va) (e1 : wr.cell? ⟨w.heap.size, 1, none⟩ = some vh) (e2 : wr.cell? ⟨w.heap.size, 2, none⟩ = some vs) :
    (∀ x : Later (wr.alloc o), x.w.cell? ⟨w.heap.size, 0, none⟩ = some va) ∧ (∀ x : Later (wr.alloc o), x.w.cell? ⟨w.heap.size, 1, none⟩ = some vh) ∧ (∀ x : Later (wr.alloc o), x.w.cell? ⟨w.heap.size, 2, none⟩ = some vs) := by
  have h0 : w.heap.size < (wr.alloc o).heap.size := by simp; omega
  exact ⟨fun x => (x.below.cell h0).trans ((World.cell?_alloc_past _ _ _ hsz).trans e0), fun x => (x.below.cell h0).trans ((World.cell?_alloc_past _ _ _ hsz).trans e1), fun x => (x.below.cell h0).trans ((World.cell?_alloc_past _ _ _ hsz).trans e2)⟩
theorem later_new {wr : World} {v0 v1 v2 v3 : Value} {T : TypeId} :
    (∀ x : Later (wr.alloc (.cells #[v0, v1, v2, v3] T)), x.w.cell? ⟨wr.heap.size, 0, none⟩ = some v0) ∧ (∀ x : Later (wr.alloc (.cells #[v0, v1, v2, v3] T)), x.w.cell? ⟨wr.heap.size, 1, none⟩ = some v1) ∧ (∀ x : Later (wr.alloc (.cells #[v0, v1, v2, v3] T)), x.w.cell? ⟨wr.heap.size, 2, none⟩ = some v2) := by
  have h1 : wr.heap.size < (wr.alloc (.cells #[v0, v1, v2, v3] T)).heap.size := by simp
  exact ⟨fun x => (x.below.cell h1).trans (World.cell?_alloc_at _ _ _ _ rfl), fun x => (x.below.cell h1).trans (World.cell?_alloc_at _ _ _ _ rfl), fun x => (x.below.cell h1).trans (World.cell?_alloc_at _ _ _ _ rfl)⟩
theorem later_old {wr : World} {o : Obj} {b f : Nat} {v : Value} (hb : b < wr.heap.size) (h : wr.cell? ⟨b, f, none⟩ = some v) : ∀ x : Later (wr.alloc o), x.w.cell? ⟨b, f, none⟩ = some v :=
  fun x => (x.below.cell (by simp; omega)).trans ((World.cell?_alloc_past _ _ _ hb).trans h)
end Go.Proofs.YtjjoeajnhblacaaGreatDoor
/- The contracts of the book's covers and pair, and of denied. -/
namespace Go.Proofs.YtjjoeajnhblacaaGreatDoor
open Go.ChangeShapes Go.WideShapes Go.ChangeAt Go.RowKit Go.Maps
set_option linter.unusedVariables false
set_option maxRecDepth 100000
theorem wrap64_id {n : Int} (h : -9223372036854775808 ≤ n ∧ n ≤ 9223372036854775807) : IntKind.i64.wrap n = n := by
  simp only [IntKind.wrap, IntKind.signed, IntKind.bits]; simp; omega
/-- does an account cover an amount more? -/
def covB (x : Acc) (held amt : Int) : Bool := decide (x.limit = -1) || decide (-x.limit ≤ x.posted - held - amt)
def SmallX (x : Acc) : Prop := (-1 ≤ x.limit ∧ x.limit ≤ 1000000000000) ∧ -1000000000000 ≤ x.posted ∧ x.posted ≤ 1000000000000
set_option maxHeartbeats 2000000 in
theorem covers_any (q p : Nat) (L : Led) (x : Acc) (amt : Int) (w : World) (hs : SmallH L.hold) (hx : SmallX x) (hamt : 0 ≤ amt ∧ amt ≤ 1000000000000) (hB : BookAt w q L) (hp : AccBlk w p x) :
    Calls Tryz.prog 86 #[.pointer (some ⟨q, 0, none⟩), .pointer (some ⟨p, 0, none⟩), .int .i64 amt] w fun e w' => e = .returned (.bool (covB x (heldL x.name L.hold) amt)) ∧ Below w.heap.size w w' := by
  have HS : Hid _ := hide hs
  have HB : Hid (∀ y : Later w, BookAt y.w q L) := hide (fun y => hB.below y.below)
  obtain ⟨p0, p1, p2, p3, p4⟩ := hp
  have k0 : ∀ y : Later w, y.w.cell? ⟨p, 0, none⟩ = some (.string x.name) := fun y => (y.below.cell p0).trans p1
  have k2 : ∀ y : Later w, y.w.cell? ⟨p, 2, none⟩ = some (.int .i64 x.limit) := fun y => (y.below.cell p0).trans p3
  have k3 : ∀ y : Later w, y.w.cell? ⟨p, 3, none⟩ = some (.int .i64 x.posted) := fun y => (y.below.cell p0).trans p4
  have hne : Nonempty (Later w) := later_there _
  have hbd := held_take x.name L.hold L.hold.length hs
  rw [List.take_length] at hbd
  obtain ⟨⟨x1, x2⟩, x3, x4⟩ := hx
  obtain ⟨a1, a2⟩ := hamt
  obtain ⟨b1, b2⟩ := hbd
  have w1 : IntKind.i64.wrap (x.posted - heldL x.name L.hold) = x.posted - heldL x.name L.hold := wrap64_id (by omega)
  have w2 : IntKind.i64.wrap (x.posted - heldL x.name L.hold - amt) = x.posted - heldL x.name L.hold - amt := wrap64_id (by omega)
  have w3 : IntKind.i64.wrap (-x.limit) = -x.limit := wrap64_id (by omega)
  clear hs hB p1 p2 p3 p4
  cases q1 : (x.limit == -1)
  · cases q2 : decide (-x.limit ≤ x.posted - heldL x.name L.hold - amt)
    · have HR : Hid (covB x (heldL x.name L.hold) amt = false) := hide (by unfold covB; rw [q2]; simp at q1; simp [q1])
      go_enter Tryz.func86, Tryz.ntmps86
      go_wp2_with fail
      refine wp_region_later w (by kernel_rfl) (by kernel_rfl) ((Below.refl _ _).drew) ?_
      repeat (go_big_quiet_step (first | (go_at_call 37; exact later_of (held_any _ L _ _ HS.out (HB.out _)))))
      refine wpQuiet_nil ?_
      intro _ hw'
      obtain ⟨nx, rfl⟩ := hw'
      go_wp2
      go_ret
      exact ⟨by rw [HR.out]; rfl, nx.below⟩
    · have HR : Hid (covB x (heldL x.name L.hold) amt = true) := hide (by unfold covB; rw [q2]; simp)
      go_enter Tryz.func86, Tryz.ntmps86
      go_wp2_with fail
      refine wp_region_later w (by kernel_rfl) (by kernel_rfl) ((Below.refl _ _).drew) ?_
      repeat (go_big_quiet_step (first | (go_at_call 37; exact later_of (held_any _ L _ _ HS.out (HB.out _)))))
      refine wpQuiet_nil ?_
      intro _ hw'
      obtain ⟨nx, rfl⟩ := hw'
      go_wp2
      go_ret
      exact ⟨by rw [HR.out]; rfl, nx.below⟩
  · have HR : Hid (covB x (heldL x.name L.hold) amt = true) := hide (by unfold covB; simp at q1; simp [q1])
    go_enter Tryz.func86, Tryz.ntmps86
    go_wp2_with fail
    refine wp_region_later w (by kernel_rfl) (by kernel_rfl) ((Below.refl _ _).drew) ?_
    repeat (go_big_quiet_step (first | (go_at_call 37; exact later_of (held_any _ L _ _ HS.out (HB.out _)))))
    refine wpQuiet_nil ?_
    intro _ hw'
    obtain ⟨nx, rfl⟩ := hw'
    go_wp2
    go_ret
    exact ⟨by rw [HR.out]; rfl, nx.below⟩
/-- a refusal that was denied: a new block with its code -/
def DeniedEnd (code : Int) (g : Value) (w : World) (e : Ending) (w' : World) : Prop :=
  e = .returned (.iface 91 (.pointer (some ⟨w.heap.size, 0, none⟩))) ∧ w' = w.alloc (.cells #[.int .i64 code, g] 95)
theorem denied_any (code : Int) (t : TypeId) (v : Value) (w : World) (hg : w.cell? ⟨2, 0, none⟩ = some (.iface t v)) :
    Calls Tryz.prog 93 #[.int .i64 code] w fun e w' => DeniedEnd code (.iface t v) w e w' := by
  go_enter Tryz.func93, Tryz.ntmps93
  go_wp2
  go_ret
  exact ⟨rfl, rfl⟩
end Go.Proofs.YtjjoeajnhblacaaGreatDoor
/- The contract of the pair of the book. -/
namespace Go.Proofs.YtjjoeajnhblacaaGreatDoor
open Go.ChangeShapes Go.WideShapes Go.ChangeAt Go.RowKit Go.Maps
set_option linter.unusedVariables false
set_option maxRecDepth 100000
/-- what pair tells -/
def PairEnd (L : Led) (fr tn : ByteArray) (g : Value) (w : World) (e : Ending) (w' : World) : Prop :=
  Below w.heap.size w w' ∧
  ((∃ i j, ∃ hi : i < L.acc.length, ∃ hj : j < L.acc.length, ∃ p r, L.acc[i].name = fr ∧ L.acc[j].name = tn ∧ L.acc[i].cur = L.acc[j].cur ∧ AccBlk w' p L.acc[i] ∧ AccBlk w' r L.acc[j] ∧ e = .returned (.tuple #[.pointer (some ⟨p, 0, none⟩), .pointer (some ⟨r, 0, none⟩), .nilIface])) ∨
   (((∀ i (hi : i < L.acc.length), L.acc[i].name ≠ fr) ∨ ∀ i (hi : i < L.acc.length), L.acc[i].name ≠ tn) ∧ ∃ n, n < w'.heap.size ∧ w.heap.size ≤ n ∧ w'.cell? ⟨n, 0, none⟩ = some (.int .i64 5) ∧ w'.cell? ⟨n, 1, none⟩ = some g ∧ e = .returned (.tuple #[.pointer none, .pointer none, .iface 91 (.pointer (some ⟨n, 0, none⟩))])) ∨
   (∃ i j, ∃ hi : i < L.acc.length, ∃ hj : j < L.acc.length, L.acc[i].name = fr ∧ L.acc[j].name = tn ∧ L.acc[i].cur ≠ L.acc[j].cur ∧ ∃ n, n < w'.heap.size ∧ w.heap.size ≤ n ∧ w'.cell? ⟨n, 0, none⟩ = some (.int .i64 6) ∧ w'.cell? ⟨n, 1, none⟩ = some g ∧ e = .returned (.tuple #[.pointer none, .pointer none, .iface 91 (.pointer (some ⟨n, 0, none⟩))])))
theorem new_denied (w : World) (N : Nat) (code : Int) (g : Value) : Below w.heap.size w ((w.drewN N).alloc (.cells #[.int .i64 code, g] 95)) ∧ w.heap.size < ((w.drewN N).alloc (.cells #[.int .i64 code, g] 95)).heap.size ∧ ((w.drewN N).alloc (.cells #[.int .i64 code, g] 95)).cell? ⟨w.heap.size, 0, none⟩ = some (.int .i64 code) ∧
    ((w.drewN N).alloc (.cells #[.int .i64 code, g] 95)).cell? ⟨w.heap.size, 1, none⟩ = some g := by
  have hz : (w.drewN N).heap.size = w.heap.size := by simp
  have k0 : ∀ x : World, (x.alloc (.cells #[.int .i64 code, g] 95)).cell? ⟨x.heap.size, 0, none⟩ = some (.int .i64 code) := fun x => by simp
  have k1 : ∀ x : World, (x.alloc (.cells #[.int .i64 code, g] 95)).cell? ⟨x.heap.size, 1, none⟩ = some g := fun x => by simp
  have h1 : ((w.drewN N).alloc (.cells #[.int .i64 code, g] 95)).cell? ⟨(w.drewN N).heap.size, 0, none⟩ = some (.int .i64 code) := k0 _
  have h2 : ((w.drewN N).alloc (.cells #[.int .i64 code, g] 95)).cell? ⟨(w.drewN N).heap.size, 1, none⟩ = some g := k1 _
  rw [hz] at h1 h2
  exact ⟨(drewN_below w N).alloc (by rw [hz]; exact Nat.le_refl _) _, by simp, h1, h2⟩
theorem pair_yes {L : Led} {fr tn : ByteArray} {g : Value} {w x : World} {i j p r : Nat} (hfin : Below w.heap.size w x) (hi : i < L.acc.length) (hj : j < L.acc.length) (h1 : L.acc[i].name = fr) (h2 : L.acc[j].name = tn) (h3 : L.acc[i].cur = L.acc[j].cur) (hp : AccBlk w p L.acc[i]) (hr : AccBlk w r L.acc[j]) :
    PairEnd L fr tn g w (.returned (.tuple #[.pointer (some ⟨p, 0, none⟩), .pointer (some ⟨r, 0, none⟩), .nilIface])) x :=
  ⟨hfin, .inl ⟨i, j, hi, hj, p, r, h1, h2, h3, hp.kept hfin.size (below_keeps hfin), hr.kept hfin.size (below_keeps hfin), rfl⟩⟩
theorem pair_no {L : Led} {fr tn : ByteArray} {g : Value} {w : World} {N : Nat} (h : (∀ i (hi : i < L.acc.length), L.acc[i].name ≠ fr) ∨ ∀ i (hi : i < L.acc.length), L.acc[i].name ≠ tn) :
    PairEnd L fr tn g w (.returned (.tuple #[.pointer none, .pointer none, .iface 91 (.pointer (some ⟨w.heap.size, 0, none⟩))])) ((w.drewN N).alloc (.cells #[.int .i64 5, g] 95)) := by
  obtain ⟨z1, z2, z3, z4⟩ := new_denied w N 5 g
  exact ⟨z1, .inr (.inl ⟨h, _, z2, Nat.le_refl _, z3, z4, rfl⟩)⟩
theorem pair_other {L : Led} {fr tn : ByteArray} {g : Value} {w : World} {N : Nat} {i j : Nat} (hi : i < L.acc.length) (hj : j < L.acc.length) (h1 : L.acc[i].name = fr) (h2 : L.acc[j].name = tn) (h3 : L.acc[i].cur ≠ L.acc[j].cur) :
    PairEnd L fr tn g w (.returned (.tuple #[.pointer none, .pointer none, .iface 91 (.pointer (some ⟨w.heap.size, 0, none⟩))])) ((w.drewN N).alloc (.cells #[.int .i64 6, g] 95)) := by
  obtain ⟨z1, z2, z3, z4⟩ := new_denied w N 6 g
  exact ⟨z1, .inr (.inr ⟨i, j, hi, hj, h1, h2, h3, _, z2, Nat.le_refl _, z3, z4, rfl⟩)⟩
set_option maxHeartbeats 2000000 in
theorem pair_any (q : Nat) (L : Led) (fr tn : ByteArray) (t : TypeId) (v : Value) (w : World) (s1 : fr.size ≤ maxLen) (s2 : tn.size ≤ maxLen) (hB : BookAt w q L) (hg : w.cell? ⟨2, 0, none⟩ = some (.iface t v)) :
    Calls Tryz.prog 85 #[.pointer (some ⟨q, 0, none⟩), .string fr, .string tn] w fun e w' => PairEnd L fr tn (.iface t v) w e w' := by
  have hd : ∀ x : World, ∀ code, x.cell? ⟨2, 0, none⟩ = some (.iface t v) → Calls Tryz.prog 93 #[.int .i64 code] x fun e w' => DeniedEnd code (.iface t v) x e w' := fun x code h => denied_any code t v x h
  obtain ⟨hq, m, h, s, ch, cs, c0, c1, c2, hh, ha, hm⟩ := hB
  clear c1 c2 hh ha
  rcases look_book hm s1 with ⟨i, hi, p, en1, hp, r1⟩ | ⟨no1, r1⟩
  · rcases look_book hm s2 with ⟨j, hj, r, en2, hr, r2⟩ | ⟨no2, r2⟩
    · obtain ⟨p0, p1, p2, p3, p4⟩ := hp
      obtain ⟨t0, t1, t2, t3, t4⟩ := hr
      have HP : Hid (AccBlk w p L.acc[i]) := hide ⟨p0, p1, p2, p3, p4⟩
      have HT : Hid (AccBlk w r L.acc[j]) := hide ⟨t0, t1, t2, t3, t4⟩
      have HN1 : Hid _ := hide en1
      have HN2 : Hid _ := hide en2
      have p2' : w.cell? ⟨p, 1, none⟩ = some (.string L.acc[i].cur) := p2
      have t2' : w.cell? ⟨r, 1, none⟩ = some (.string L.acc[j].cur) := t2
      clear en1 en2 hm p1 p2 p3 p4 t1 t2 t3 t4
      cases q1 : (L.acc[i].cur.toList == L.acc[j].cur.toList)
      · have q1' : (L.acc[i].cur.toList != L.acc[j].cur.toList) = true := by simp [bne, q1]
        have HQ : Hid (L.acc[i].cur ≠ L.acc[j].cur) := hide (fun e => by rw [beq_bytes.2 e] at q1; cases q1)
        go_enter Tryz.func85, Tryz.ntmps85
        go_wp2_with fail
        go_quiet (fail)
        go_wp2_with fail
        go_quiet (fail)
        go_wp2_with (first | (go_at_call 93; refine (hd _ _ (by simpa using hg)).mono ?_; rintro e w1 ⟨rfl, rfl⟩))
        go_ret3
        exact pair_other hi hj HN1.out HN2.out HQ.out
      · have q1' : (L.acc[i].cur.toList != L.acc[j].cur.toList) = false := by simp [bne, q1]
        have HQ : Hid (L.acc[i].cur = L.acc[j].cur) := hide (beq_bytes.1 q1)
        go_enter Tryz.func85, Tryz.ntmps85
        go_wp2_with fail
        go_quiet (fail)
        go_wp2_with fail
        go_quiet (fail)
        go_wp2
        go_ret3
        exact pair_yes (below_drewN (drewN_below w _) _) hi hj HN1.out HN2.out HQ.out HP.out HT.out
    · have HN : Hid _ := hide no2
      clear no2 hp en1 hm
      go_enter Tryz.func85, Tryz.ntmps85
      go_wp2_with fail
      go_quiet (fail)
      go_wp2_with (first | (go_at_call 93; refine (hd _ _ (by simpa using hg)).mono ?_; rintro e w1 ⟨rfl, rfl⟩))
      go_ret3
      exact pair_no (.inr HN.out)
  · have HN : Hid _ := hide no1
    have hr2 : ∃ u, ∀ k, (Instr.lookup 63 (.map (some m)) (.string tn) false).run Tryz.prog (w.drewN k) = .ok u (w.drewN k) := by
      rcases look_book hm s2 with ⟨j, hj, r, en2, hr, r2⟩ | ⟨no2, r2⟩
      · exact ⟨_, r2⟩
      · exact ⟨_, r2⟩
    obtain ⟨u, r2⟩ := hr2
    clear no1 hm
    go_enter Tryz.func85, Tryz.ntmps85
    go_wp2_with fail
    go_quiet (fail)
    go_wp2_with (first | (go_at_call 93; refine (hd _ _ (by simpa using hg)).mono ?_; rintro e w1 ⟨rfl, rfl⟩))
    go_ret3
    exact pair_no (.inl HN.out)
end Go.Proofs.YtjjoeajnhblacaaGreatDoor
