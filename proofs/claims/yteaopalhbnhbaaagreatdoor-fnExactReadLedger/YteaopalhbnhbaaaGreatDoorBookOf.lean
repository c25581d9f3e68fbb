/- The contract of the program's bookOf. -/
import Derived.Test.YteaopalhbnhbaaaGreatDoorBook
import Derived.Deep.RegionHeld
import Derived.Deep.CutRange
namespace Go.Proofs.YteaopalhbnhbaaaGreatDoor
open Go.ChangeShapes Go.WideShapes Go.ChangeAt Go.RowKit Go.Maps
set_option linter.unusedVariables false
set_option maxRecDepth 100000
def BookAt (w : World) (q : Nat) (L : Led) : Prop := q < w.heap.size ∧ ∃ m h s ch cs, w.cell? ⟨q, 0, none⟩ = some (.map (some m)) ∧ w.cell? ⟨q, 1, none⟩ = some (.slice h L.hold.length ch) ∧ w.cell? ⟨q, 2, none⟩ = some (.slice s L.seen.length cs) ∧
  HoldAt w h L.hold ∧ AnsAt w s L.seen ∧ MapHas w m L.acc
theorem BookAt.below {w w' : World} {q : Nat} {L : Led} (k : BookAt w q L) (b : Below w.heap.size w w') : BookAt w' q L := by
  obtain ⟨hq, m, h, s, ch, cs, c0, c1, c2, hh, ha, hm⟩ := k
  exact ⟨Nat.lt_of_lt_of_le hq b.size, m, h, s, ch, cs, below_keeps b _ _ c0, below_keeps b _ _ c1, below_keeps b _ _ c2, hh.below b, ha.below b, hm.below b⟩
def BookEnd (L : Led) (w : World) (e : Ending) (w' : World) : Prop := Below w.heap.size w w' ∧ ∃ q, e = .returned (.pointer (some ⟨q, 0, none⟩)) ∧ BookAt w' q L
/-- the box of the argument, read in a later world -/
def BoxIn (w : World) (va vh vs : Value) (x : World) : Prop := x.cell? ⟨w.heap.size, 1, none⟩ = some vh ∧ x.cell? ⟨w.heap.size, 2, none⟩ = some vs ∧ Hid (Below (w.heap.size + 1) (w.alloc (.cells #[va, vh, vs] 28)) x)
theorem boxIn_of {w : World} {va vh vs : Value} {x : World} (h : Below (w.heap.size + 1) (w.alloc (.cells #[va, vh, vs] 28)) x) : BoxIn w va vh vs x :=
  ⟨by rw [h.cell (by simp)]; simp, by rw [h.cell (by simp)]; simp, hide h⟩
theorem BoxIn.alloc {w : World} {va vh vs : Value} {x : World} (h : BoxIn w va vh vs x) (o : Obj) : BoxIn w va vh vs (x.alloc o) :=
  boxIn_of (h.2.2.out.alloc (by have := h.2.2.out.size; simp at this; omega) o)
theorem BoxIn.on {w : World} {va vh vs : Value} {x y : World} (h : BoxIn w va vh vs x) (b : Below x.heap.size x y) : BoxIn w va vh vs y :=
  boxIn_of (h.2.2.out.trans (b.mono (by have := h.2.2.out.size; simp at this; omega)))
theorem BoxIn.old {w : World} {va vh vs : Value} {x : World} (h : BoxIn w va vh vs x) : Below w.heap.size w x :=
  ((Below.refl w.heap.size w).alloc (Nat.le_refl _) _).trans (h.2.2.out.mono (by omega))
/-- what the first region leaves -/
def CutIs (w : World) (va vh vs : Value) (L : Led) (q : Nat) (x : World) (m : Nat) : Prop :=
  BoxIn w va vh vs x ∧ w.heap.size + 1 ≤ m ∧ q < x.heap.size ∧ x.cell? ⟨q, 0, none⟩ = some (.map (some m)) ∧ (∃ h ch, x.cell? ⟨q, 1, none⟩ = some (.slice h L.hold.length ch) ∧ HoldAt x h L.hold) ∧ (∃ s cs, x.cell? ⟨q, 2, none⟩ = some (.slice s L.seen.length cs) ∧ AnsAt x s L.seen) ∧ MapHas x m []
theorem cut_of {w : World} {va vh vs : Value} {L : Led} {x : World} {m ch cs : Nat} {h s : Option Addr} (hb : BoxIn w va vh vs (x.alloc (.cells #[.map (some m), .slice h L.hold.length ch, .slice s L.seen.length cs] 104))) (hm : w.heap.size + 1 ≤ m)
    (hh : HoldAt x h L.hold) (hs : AnsAt x s L.seen) (hp : MapHas x m []) : CutIs w va vh vs L x.heap.size (x.alloc (.cells #[.map (some m), .slice h L.hold.length ch, .slice s L.seen.length cs] 104)) m :=
  ⟨hb, hm, by simp, by simp, ⟨h, ch, by simp, hh.below ((Below.refl _ _).alloc (Nat.le_refl _) _)⟩, ⟨s, cs, by simp, hs.below ((Below.refl _ _).alloc (Nat.le_refl _) _)⟩, hp.below ((Below.refl _ _).alloc (Nat.le_refl _) _)⟩
theorem mapHas_drew {w : World} {m : Nat} {l : List Acc} (h : MapHas w m l) : MapHas w.drew m l := h.below (Below.refl _ _).drew
/-- the loop's state -/
structure MidIs (w : World) (va vh vs : Value) (L : Led) (q m : Nat) (h s : Option Addr) (ch cs : Nat) (l : List Acc) (x : World) : Prop where
  box : BoxIn w va vh vs x
  lt : q < x.heap.size
  c0 : x.cell? ⟨q, 0, none⟩ = some (.map (some m))
  c1 : x.cell? ⟨q, 1, none⟩ = some (.slice h L.hold.length ch)
  c2 : x.cell? ⟨q, 2, none⟩ = some (.slice s L.seen.length cs)
  hold : HoldAt x h L.hold
  seen : AnsAt x s L.seen
  map : MapHas x m l
def accObj (x : Acc) : Obj := .cells #[.string x.name, .string x.cur, .int .i64 x.limit, .int .i64 x.posted] 50
theorem HoldAt.keeps {w w' : World} {a : Option Addr} {l : List Hld} (h : HoldAt w a l) (hs : w.heap.size ≤ w'.heap.size) (hk : ∀ a v, w.cell? a = some v → w'.cell? a = some v) : HoldAt w' a l := fun i hi => by
  obtain ⟨b, off, e, hb, h0, h1, h2, h3, r⟩ := h i hi
  exact ⟨b, off, e, by omega, hk _ _ h0, hk _ _ h1, hk _ _ h2, hk _ _ h3, r⟩
theorem AnsAt.keeps {w w' : World} {a : Option Addr} {l : List Sn} (h : AnsAt w a l) (hs : w.heap.size ≤ w'.heap.size) (hk : ∀ a v, w.cell? a = some v → w'.cell? a = some v) : AnsAt w' a l := fun i hi => by
  obtain ⟨b, off, e, hb, h0, h1, r⟩ := h i hi
  exact ⟨b, off, e, by omega, hk _ _ h0, hk _ _ h1, r⟩
theorem blk_two (x : World) (y : Acc) : AccBlk ((x.alloc (accObj y)).alloc (accObj y)) (x.heap.size + 1) y := by
  unfold accObj
  exact ⟨by simp, by simp, by simp, by simp, by simp⟩
/-- the round's store -/
theorem mid_step {w : World} {va vh vs : Value} {L : Led} {q m : Nat} {h s : Option Addr} {ch cs : Nat} {k : Nat} {x : World} (hk : k < L.acc.length) (hl : L.acc.length ≤ 12) (hm : w.heap.size + 1 ≤ m) (M : MidIs w va vh vs L q m h s ch cs (L.acc.take k) x)
    (hd : ∀ i j (hi : i < L.acc.length) (hj : j < L.acc.length), i < j → L.acc[i].name ≠ L.acc[j].name) (hn : L.acc[k].name.size ≤ maxLen) :
    ∃ y, (Instr.mapUpdate 100 (.map (some m)) (.string L.acc[k].name) (.pointer (some ⟨x.heap.size + 1, 0, none⟩))).run Tryz.prog ((x.alloc (accObj L.acc[k])).alloc (accObj L.acc[k])).drew = .ok () y ∧ MidIs w va vh vs L q m h s ch cs (L.acc.take (k + 1)) y := by
  obtain ⟨D, ho, hi⟩ := M.map
  have hB2 : Below x.heap.size x ((x.alloc (accObj L.acc[k])).alloc (accObj L.acc[k])).drew := (((Below.refl _ _).alloc (Nat.le_refl _) _).alloc (by simp) _).drew
  have ho2 : ((x.alloc (accObj L.acc[k])).alloc (accObj L.acc[k])).drew.ownsMap Tryz.prog 9 ptrElem m (L.acc.take k).length D := ho.kept (below_grownBy hB2) (by simp)
  obtain ⟨y, hrun, ho3, hg⟩ := ho2.update (t := 100) (e := 105) law9 u64 (by unfold maxLen; rw [List.length_take]; omega) (kn_of hn) (ptr_mk (x.heap.size + 1))
  have hkeep := map_keeps ho2 hg
  have hkeep2 : ∀ a v, x.cell? a = some v → y.cell? a = some v := fun a v hc => hkeep a v (below_keeps hB2 a v hc)
  have hs2 : x.heap.size ≤ y.heap.size := Nat.le_trans hB2.size hg.size
  have hxm : x.heap.size ≤ ((x.alloc (accObj L.acc[k])).alloc (accObj L.acc[k])).drew.heap.size := hB2.size
  refine ⟨y, hrun, ⟨?_, Nat.lt_of_lt_of_le M.lt hs2, hkeep2 _ _ M.c0, hkeep2 _ _ M.c1, hkeep2 _ _ M.c2, M.hold.keeps hs2 hkeep2, M.seen.keeps hs2 hkeep2, ⟨D.put (kn L.acc[k].name) (ptrD (x.heap.size + 1)), ?_, ?_⟩⟩⟩
  · have b1 := M.box.2.2.out
    have hsz := b1.size
    simp only [World.size_alloc] at hsz
    have b2 := b1.trans (hB2.mono hsz)
    exact boxIn_of (b2.grown hg (by have := hB2.size; omega) (fun j hj => by cases hj; exact hm))
  · have e1 : (L.acc.take (k + 1)).length = (L.acc.take k).length + 1 := by simp only [List.length_take]; omega
    rw [e1]
    exact ho3
  · rw [take_next _ _ hk]
    refine mapIs_put ho.isMap hi hs2 hkeep2 (fun i hi' => ?_) ((blk_two x _).kept hg.size hkeep)
    have hik : i < k := by simp only [List.length_take] at hi'; omega
    rw [List.getElem_take]
    exact hd i k (by omega) hk hik
set_option maxRecDepth 100000 in
set_option maxHeartbeats 4000000 in
theorem bookOf_any (a h s : Option Addr) (ca ch cs : Nat) (L : Led) (w : World) (g1 : L.acc.length ≤ 12) (g2 : L.hold.length ≤ 10) (g3 : L.seen.length ≤ 40) (hL : LedAt w a h s L) (hd : ∀ i j (hi : i < L.acc.length) (hj : j < L.acc.length), i < j → L.acc[i].name ≠ L.acc[j].name) :
    Calls Tryz.prog 30 #[.agg #[.slice a L.acc.length ca, .slice h L.hold.length ch, .slice s L.seen.length cs]] w fun e w' => BookEnd L w e w' := by
  have HL : Hid _ := hide hL
  have HD : Hid _ := hide hd
  clear hL hd
  have hmm := @run_makeMap Tryz.prog
  go_enter Tryz.func30, Tryz.ntmps30
  go_upto_region 1 with fail
  go_cut [3] from 7 to 15 (fun b wx => ∃ q m, b = .pointer (some ⟨q, 0, none⟩) ∧ Hid (CutIs w (.slice a L.acc.length ca) (.slice h L.hold.length ch) (.slice s L.seen.length cs) L q wx m))
  case first =>
    go_region_held (fun x => x.cell? ⟨w.heap.size, 1, none⟩ = some (.slice h L.hold.length ch) ∧ x.cell? ⟨w.heap.size, 2, none⟩ = some (.slice s L.seen.length cs) ∧ Hid (Below (w.heap.size + 1) (w.alloc (.cells #[.slice a L.acc.length ca, .slice h L.hold.length ch, .slice s L.seen.length cs] 28)) x))
      (first | exact boxIn_of (Below.refl _ _).drew | exact BoxIn.alloc (by assumption) _ | exact BoxIn.on (by assumption) (by assumption))
      (first | (go_at_call 72; refine (cloneH_any _ _ _ _ (by omega) (HL.out.hold.below (BoxIn.old (by assumption)))).mono ?_; rintro e wh ⟨hbh, ah, caph, rfl, hah⟩) | (go_at_call 73; refine (cloneA_any _ _ _ _ (by omega) (HL.out.seen.below (BoxIn.old (by assumption)))).mono ?_; rintro e ws ⟨hbs, as', caps, rfl, has⟩))
    · have hmp := (((mapHas_made (w.alloc (.cells #[.slice a L.acc.length ca, .slice h L.hold.length ch, .slice s L.seen.length cs] 28))).below ((Below.refl _ _).drew)).below hbh).below hbs
      rw [World.size_alloc] at hmp
      have HC : Hid _ := hide (cut_of (w := w) (L := L) (x := ws) (m := w.heap.size + 1) (by assumption) (Nat.le_refl _) (hah.below hbs) has hmp)
      clear hmp
      go_wp2_with fail
      go_meet
      case rel => exact ⟨_, _, rfl, HC⟩
    · have HC : Hid _ := hide (cut_of (L := L) (x := ws) (by assumption) (by have := hbh.size; simp at this; exact this) ((hah.below ((Below.refl _ _).alloc (Nat.le_refl _) _)).below hbs) has ((mapHas_made wh).below hbs))
      go_wp2_with fail
      go_meet
      case rel => exact ⟨_, _, rfl, HC⟩
    · have HC : Hid _ := hide (cut_of (L := L) (x := ws.alloc (.map #[] 0)) (by assumption) (by have := hbh.size; have := hbs.size; simp at *; omega) ((hah.below hbs).below ((Below.refl _ _).alloc (Nat.le_refl _) _)) (has.below ((Below.refl _ _).alloc (Nat.le_refl _) _)) (mapHas_made ws))
      go_wp2_with fail
      go_meet
      case rel => exact ⟨_, _, by simp, HC⟩
  case rest =>
    obtain ⟨q, m, rfl, HC⟩ := hcut
    obtain ⟨hbox, hm, hq, c0, ⟨h', ch', c1, hh⟩, ⟨s', cs', c2, ha⟩, hmap⟩ := HC.out
    have e0 : wc.cell? ⟨w.heap.size, 0, none⟩ = some (.slice a L.acc.length ca) := by rw [hbox.2.2.out.cell (by simp)]; simp
    have HM : Hid (MidIs w (.slice a L.acc.length ca) (.slice h L.hold.length ch) (.slice s L.seen.length cs) L q m h' s' ch' cs' (L.acc.take 0) wc) := hide ⟨hbox, hq, c0, c1, c2, hh, ha, hmap⟩
    clear hbox hq c0 c1 c2 hh ha hmap HC
    go_wp2
    go_loopw [19] (fun i wr => ∃ k : Nat, k ≤ L.acc.length ∧ i = .int .i64 (k : Int) ∧ Hid (MidIs w (.slice a L.acc.length ca) (.slice h L.hold.length ch) (.slice s L.seen.length cs) L q m h' s' ch' cs' (L.acc.take k) wr)) (fun i wr => L.acc.length - (intOf i).toNat)
    case atStart => exact ⟨0, Nat.zero_le _, rfl, HM⟩
    case round =>
      clear HM e0
      obtain ⟨k, hk, rfl, HM⟩ := hrel
      by_cases hlt : k < L.acc.length
      · obtain ⟨b, off, rfl, hb, d0, d1, d2, d3, s1, s2, _, _⟩ := (HL.out.acc.below HM.out.box.old) k hlt
        have hlt' : (k : Int) < (L.acc.length : Int) := by omega
        have c0 := HM.out.c0
        have hqx := HM.out.lt
        obtain ⟨y, hrun, HM2⟩ := mid_step hlt g1 hm HM.out HD.out s1
        have HM3 : Hid _ := hide HM2
        clear HM2
        simp only [accObj] at hrun
        go_wp2_with fail
        go_region
        go_wp2
        exact ⟨⟨k + 1, by omega, by go_num, HM3⟩, by simp [intOf]; omega⟩
      · have hk' : ¬ (k : Int) < (L.acc.length : Int) := by omega
        have HE : Hid (BookEnd L w (.returned (.pointer (some ⟨q, 0, none⟩))) wr) := hide (by
          have M := HM.out
          rw [List.take_of_length_le (by omega)] at M
          exact ⟨M.box.old, q, rfl, M.lt, m, h', s', ch', cs', M.c0, M.c1, M.c2, M.hold, M.seen, M.map⟩)
        go_wp2
        go_ret
        exact HE.out
end Go.Proofs.YteaopalhbnhbaaaGreatDoor
