/- The model's l2HasHold and l2End: a hold taken or dropped. -/
import Derived.Test.YteaopalhbnhbaaaGreatDoorLMv
namespace Go.Proofs.YteaopalhbnhbaaaGreatDoor
open Go.ChangeShapes Go.WideShapes Go.ChangeAt Go.RowKit
set_option linter.unusedVariables false
set_option maxRecDepth 100000
set_option maxHeartbeats 1000000 in
theorem l2HasHold_any (p : LP) (D : Led) (id : Int) (w : World) (n2 : D.hold.length ≤ 1048576) (h : HoldAt w p.ha D.hold) :
    Calls Tryz.prog 102 #[ledV p D, .int .i64 id] w fun e w' => e = .returned (.bool (D.hold.any (fun h => h.id == id))) ∧ Below w.heap.size w w' := by
  obtain ⟨aa, ca, ha, ch, sa, cs⟩ := p
  have HC : Hid (HoldAt w ha D.hold) := hide h
  clear h
  unfold ledV
  simp only
  go_enter Tryz.func102, Tryz.ntmps102
  go_wp2
  go_loop [5] (fun i => ∃ k : Nat, k ≤ D.hold.length ∧ i = .int .i64 (k : Int) ∧ Hid (∀ j (hj : j < D.hold.length), j < k → D.hold[j].id ≠ id)) (fun i => D.hold.length - (intOf i).toNat)
  case atStart => exact ⟨0, Nat.zero_le _, rfl, hide (fun j _ hj => by omega)⟩
  case round =>
    obtain ⟨k, hk, rfl, HN⟩ := hrel
    by_cases hlt : k < D.hold.length
    · obtain ⟨b, off, rfl, hb, c0, _⟩ := hld_row HC.out.row k hlt
      by_cases hq : (D.hold[k]).id = id
      · have hq' : ((D.hold[k]).id == id) = true := by simp [hq]
        have HR : Hid (D.hold.any (fun h => h.id == id) = true) := hide (by rw [List.any_eq_true]; exact ⟨_, List.getElem_mem hlt, hq'⟩)
        clear hq
        go_wp2
        go_ret
        exact ⟨by rw [HR.out]; rfl, below_alloc (Below.refl _ _) _⟩
      · have hq' : ((D.hold[k]).id == id) = false := by simp [hq]
        have HS : Hid (∀ j (hj : j < D.hold.length), j < k + 1 → D.hold[j].id ≠ id) := hide (fun j hj hjk => by
          rcases Nat.lt_or_ge j k with h | h
          · exact HN.out j hj h
          · obtain rfl : j = k := by omega
            exact hq)
        clear hq
        go_wp2
        exact ⟨⟨k + 1, by omega, by go_num, HS⟩, by simp [intOf]; omega⟩
    · have HR : Hid (D.hold.any (fun h => h.id == id) = false) := hide (by
        rw [List.any_eq_false]
        intro x hx
        obtain ⟨j, hj, rfl⟩ := List.mem_iff_getElem.1 hx
        have := HN.out j hj (by omega)
        simpa using this)
      go_wp2
      go_ret
      exact ⟨by rw [HR.out]; rfl, below_alloc (Below.refl _ _) _⟩
def hz : Hld := ⟨0, ⟨#[]⟩, ⟨#[]⟩, 0⟩
/-- the holds that stay, of the first k -/
def keepH (l : List Hld) (ref : Int) (k : Nat) : List Hld := (l.take k).filter (fun h => !(h.id == ref))
def goneH (l : List Hld) (ref : Int) (k : Nat) : Option Hld := (l.take k).find? (fun h => h.id == ref)
theorem keepH_hit {l : List Hld} {ref : Int} {k : Nat} (hk : k < l.length) (h : l[k].id = ref) : keepH l ref (k + 1) = keepH l ref k := by
  unfold keepH; rw [take_next _ _ hk, List.filter_append]; simp [h]
theorem keepH_miss {l : List Hld} {ref : Int} {k : Nat} (hk : k < l.length) (h : l[k].id ≠ ref) : keepH l ref (k + 1) = keepH l ref k ++ [l[k]] := by
  unfold keepH; rw [take_next _ _ hk, List.filter_append]; simp [h]
theorem goneH_miss {l : List Hld} {ref : Int} {k : Nat} (hk : k < l.length) (h : l[k].id ≠ ref) : goneH l ref (k + 1) = goneH l ref k := by
  unfold goneH; rw [take_next _ _ hk, List.find?_append]
  have : List.find? (fun h => h.id == ref) [l[k]] = none := by simp [h]
  rw [this]; simp
theorem goneH_hit {l : List Hld} {ref : Int} {k : Nat} (hu : (l.map Hld.id).Pairwise (· < ·)) (hk : k < l.length) (h : l[k].id = ref) : goneH l ref (k + 1) = some l[k] := by
  have h0 : goneH l ref k = none := by
    unfold goneH
    rw [List.find?_eq_none]
    intro x hx
    obtain ⟨j, hj, rfl⟩ := List.mem_iff_getElem.1 hx
    simp only [List.length_take] at hj
    rw [List.pairwise_iff_getElem] at hu
    have := hu j k (by simp; omega) (by simpa using hk) (by omega)
    simp only [List.getElem_map, List.getElem_take] at this ⊢
    rw [h] at this
    simp; omega
  unfold goneH at h0 ⊢
  rw [take_next _ _ hk, List.find?_append, h0]
  simp [h]
theorem keepH_all (l : List Hld) (ref : Int) : keepH l ref l.length = l.filter (fun h => !(h.id == ref)) := by simp [keepH]
theorem goneH_all (l : List Hld) (ref : Int) : goneH l ref l.length = l.find? (fun h => h.id == ref) := by simp [goneH]
theorem keepH_len (l : List Hld) (ref : Int) (k : Nat) : (keepH l ref k).length ≤ k := by
  unfold keepH
  exact Nat.le_trans (List.length_filter_le _ _) (by simp; omega)
theorem flat_snocH (C : List Hld) (x : Hld) : C.flatMap hldCells ++ hldCells x = (C ++ [x]).flatMap hldCells := by simp
/-- a ledger whose holds are right -/
structure EnOk (D : Led) : Prop where
  up : (D.hold.map Hld.id).Pairwise (· < ·)
  ids : ∀ h ∈ D.hold, 1 ≤ h.id
  pairs : ∀ h ∈ D.hold, ∃ i j, idxA D.acc h.fr = some i ∧ idxA D.acc h.to = some j
structure EnF (p : LP) (D : Led) (c : Cm) (s M : Nat) (aa : Option Addr) (ca : Nat) (ha : Option Addr) (ch : Nat) (sa : Option Addr) (cs k : Nat) (hlt : k < D.hold.length) (a5 : Option Addr) (k5 b2 off2 : Nat) (w : World) (l0 l1 l2 l3 l4 l5 l6 l7 l8 l9 l10 : Bool) (u36 u37 u38 u39 u40 u41 u42 u43 u44 u45 : Value) (x : World) : Prop where
  pool : Pool [] w [[blk s (ledC p D)], [blk (s + 1) c.cells], [blk (s + 1 + 1) [.slice none 0 0, .slice none 0 0, .slice none 0 0]], [orow 4 accCells aa ca D.acc], [orow 4 hldCells ha ch D.hold], [orow 2 snCells sa cs D.seen], cond l10 [blk M [.slice aa D.acc.length ca, u44, .slice sa D.seen.length cs]] [blk M [.slice aa D.acc.length ca, (.slice a5 (keepH D.hold c.ref k).length k5), .slice sa D.seen.length cs]], cond l8 [row 53 4 u44 ((keepH D.hold c.ref k).length + 1) ((keepH D.hold c.ref k).flatMap hldCells ++ hldCells D.hold[k])] [row 53 4 (.slice a5 (keepH D.hold c.ref k).length k5) (keepH D.hold c.ref k).length ((keepH D.hold c.ref k).flatMap hldCells)], [blk (M + 1) (hldCells ((goneH D.hold c.ref k).getD hz))], cond l7 [blk (gOf (slA u43)) (hldCells D.hold[k])] [], []] x
  q43 : l7 = true → u43 = .slice (some ⟨gOf (slA u43), 0, none⟩) 1 1
  d8_7 : l8 = true → l7 = true
  d10_8 : l10 = true → l8 = true
  d10_1 : l10 = true → l1 = true
  p36 : l0 = true → u36 = .pointer (some ⟨M, 1, none⟩)
  p45 : l9 = true → u45 = .pointer (some ⟨M, 1, none⟩)
  p38 : l2 = true → u38 = .pointer (some ⟨s, 1, none⟩)
  p39 : l3 = true → u39 = .slice (some ⟨b2, off2, none⟩) D.hold.length p.ch
  p40 : l4 = true → u40 = .int .i64 (k : Int)
  p41 : l5 = true → u41 = .pointer (some ⟨b2, off2 + k * 4, none⟩)
  p42 : l6 = true → u42 = .agg #[.int .i64 (D.hold[k]).id, .string (D.hold[k]).fr, .string (D.hold[k]).to, .int .i64 (D.hold[k]).amount]
  p37 : l1 = true → u37 = (.slice a5 (keepH D.hold c.ref k).length k5)
theorem l2Find_at (a : Option Addr) (l : List Acc) (cap : Nat) (vh vs : Value) (nm : ByteArray) (w : World) {i : Nat} (hl : l.length ≤ 1048576) (h : AccAt w a l) (hi : idxA l nm = some i) :
    Calls Tryz.prog 63 #[.agg #[.slice a l.length cap, vh, vs], .string nm] w fun e w' => e = .returned (.int .i64 (i : Int)) ∧ Below w.heap.size w w' := by
  refine (l2Find_any a l cap vh vs nm w hl h).mono ?_
  intro e w' hf
  obtain ⟨hb, r, rfl, hr⟩ := findIs_of hf
  rcases hr with ⟨k, _, e1, rfl⟩ | ⟨e1, _⟩
  · rw [hi] at e1; cases e1; exact ⟨rfl, hb⟩
  · rw [hi] at e1; cases e1
/-- what pay leaves: where it refuses, nothing -/
def payL (q : LP) (R : Led × Int) : List Rs := if R.2 = 0 then ledL q R.1 else []
theorem Pool.pay {F : List Nat} {w x y : World} {S : List (List Rs)} (h : Pool F w S x) {i : Nat} (hi : S[i]? = some []) {q : LP} {R : Led × Int} (hb : Below x.heap.size x y) (hp : R.2 = 0 → Pool [] x [ledL q R.1] y) : Pool F w (S.set i (payL q R)) y := by
  unfold payL
  split
  · rename_i z
    have p := hp z
    refine h.new hi hb (p.get (i := 0) rfl) (fun c hc => ?_)
    rcases p.hi c (by simpa using hc) with k | k
    · cases k
    · exact k
  · exact h.new hi hb (Star.nil _) (fun c hc => by simp [fps] at hc)
structure EpF (p : LP) (D : Led) (c : Cm) (s M : Nat) (aa : Option Addr) (ca : Nat) (ha : Option Addr) (ch : Nat) (sa : Option Addr) (cs : Nat) (a9 : Option Addr) (c9 : Nat) (N : List Hld) (g : Hld) (i j : Nat) (R : Led × Int) (w : World) (l0 l1 l2 l3 l4 l5 l6 l7 l8 l9 l10 l11 l12 l13 l14 l15 l16 l17 : Bool) (u9 u10 u54 u55 u56 u57 u58 u59 u60 u61 u62 u63 u64 u65 u66 u67 u68 : Value) (q : LP) (x : World) : Prop where
  pool : Pool [] w [[blk s (ledC p D)], [blk (s + 1) c.cells], [blk (s + 1 + 1) [.slice none 0 0, .slice none 0 0, .slice none 0 0]], [orow 4 accCells aa ca D.acc], [orow 4 hldCells ha ch D.hold], [orow 2 snCells sa cs D.seen], [blk M [.slice aa D.acc.length ca, .slice a9 N.length c9, .slice sa D.seen.length cs]], [orow 4 hldCells a9 c9 N], [blk (M + 1) (hldCells g)], cond l11 (payL q R) [], cond l16 [blk (ptB u9) (ledC q R.1)] (cond l15 [blk (ptB u9) [.slice none 0 0, .slice none 0 0, .slice none 0 0]] [])] x
  q59 : l4 = true → u59 = .int .i64 (i : Int)
  q63 : l8 = true → u63 = .int .i64 (j : Int)
  q66 : l11 = true → u66 = .tuple #[ledV q R.1, .int .i64 R.2]
  qq : l11 = true → (R.2 ≠ 0 → q = ⟨aa, ca, a9, c9, sa, cs⟩) ∧ (R.2 = 0 → PlOk q R.1)
  q54 : l12 = true → u54 = u66
  q67 : l13 = true → u67 = ledV q R.1
  q68 : l14 = true → u68 = .int .i64 R.2
  z9 : l15 = true → u9 = .pointer (some ⟨ptB u9, 0, none⟩)
  q10 : l17 = true → u10 = .int .i64 R.2
  d12_11 : l12 = true → l11 = true
  d13_12 : l13 = true → l12 = true
  d13_11 : l13 = true → l11 = true
  d14_12 : l14 = true → l12 = true
  d14_11 : l14 = true → l11 = true
  d16_15 : l16 = true → l15 = true
  d16_13 : l16 = true → l13 = true
  d16_11 : l16 = true → l11 = true
  p55 : l0 = true → u55 = .agg #[.slice aa D.acc.length ca, .slice a9 N.length c9, .slice sa D.seen.length cs]
  p56 : l1 = true → u56 = .agg #[.slice p.aa D.acc.length p.ca, .slice p.ha D.hold.length p.ch, .slice p.sa D.seen.length p.cs]
  p60 : l5 = true → u60 = .agg #[.slice p.aa D.acc.length p.ca, .slice p.ha D.hold.length p.ch, .slice p.sa D.seen.length p.cs]
  p57 : l2 = true → u57 = .pointer (some ⟨M + 1, 1, none⟩)
  p58 : l3 = true → u58 = .string g.fr
  p61 : l6 = true → u61 = .pointer (some ⟨M + 1, 2, none⟩)
  p62 : l7 = true → u62 = .string g.to
  p64 : l9 = true → u64 = .pointer (some ⟨M + 1, 3, none⟩)
  p65 : l10 = true → u65 = .int .i64 g.amount
set_option maxHeartbeats 16000000 in
theorem l2End_any (p : LP) (D : Led) (c : Cm) (w : World) (n1 : SmallA D.acc) (n2 : SmallH D.hold) (n3 : D.seen.length ≤ 1048576) (hlim : ∀ x ∈ D.acc, -1 ≤ x.limit ∧ x.limit ≤ 1000000000000) (hc : EnOk D) (hpk : PlOk p D) (h : LedAt w p.aa p.ha p.sa D) :
    Calls Tryz.prog 105 #[ledV p D, c.v] w fun e w' => MoveEnd p D (endM D c) w e w' := by
  have HL : Hid _ := hide h
  have HK : Hid _ := hide hpk
  have HN1 : Hid _ := hide n1
  have HN2 : Hid _ := hide n2
  have HLI : Hid _ := hide hlim
  have HC : Hid _ := hide hc
  have hn1 : D.acc.length ≤ 12 := n1.1
  have hn2 : D.hold.length ≤ 10 := n2.1
  obtain ⟨W3, hW3⟩ : ∃ W3, W3 = ((w.alloc (.cells #[.slice p.aa D.acc.length p.ca, .slice p.ha D.hold.length p.ch, .slice p.sa D.seen.length p.cs] 28)).alloc (.cells #[.int .i64 c.id, .int .i64 c.kind, .string c.fr, .string c.to, .int .i64 c.am, .int .i64 c.ref] 83)).alloc (.cells #[.slice none 0 0, .slice none 0 0, .slice none 0 0] 28) := ⟨_, rfl⟩
  have HP0 : Hid (Pool [] w [[blk w.heap.size (ledC p D)], [blk (w.heap.size + 1) c.cells], [blk (w.heap.size + 1 + 1) [.slice none 0 0, .slice none 0 0, .slice none 0 0]], [], [], [], [], [], [], [], []] W3) := hide (by
    have p1 := (Pool.start w [[], [], [], [], [], [], [], [], [], [], []] rfl).newBlk (i := 0) rfl (ledC p D) 28
    have s1 : (w.alloc (.cells (ledC p D).toArray 28)).heap.size = w.heap.size + 1 := by simp
    have p2 := p1.newBlk (i := 1) rfl c.cells 83
    have s2 : ((w.alloc (.cells (ledC p D).toArray 28)).alloc (.cells c.cells.toArray 83)).heap.size = w.heap.size + 1 + 1 := by simp
    have p3 := p2.newBlk (i := 2) rfl [.slice none 0 0, .slice none 0 0, .slice none 0 0] 28
    rw [s2, s1] at p3
    rw [hW3]
    exact p3)
  have HW3 : Hid (_ = W3) := hide hW3.symm
  clear hW3 h hpk n1 n2 hlim hc
  unfold ledV Cm.v
  go_enter Tryz.func105, Tryz.ntmps105
  go_upto_region 1 with fail
  rw [HW3.out]
  have d0 := (HP0.out.blkAt (i := 0) rfl).c 0 _ rfl
  have d1 := (HP0.out.blkAt (i := 0) rfl).c 1 _ rfl
  have d2 := (HP0.out.blkAt (i := 0) rfl).c 2 _ rfl
  have c0 := (HP0.out.blkAt (i := 1) rfl).c 0 _ rfl
  have c1 := (HP0.out.blkAt (i := 1) rfl).c 1 _ rfl
  have c2 := (HP0.out.blkAt (i := 1) rfl).c 2 _ rfl
  have c3 := (HP0.out.blkAt (i := 1) rfl).c 3 _ rfl
  have c4 := (HP0.out.blkAt (i := 1) rfl).c 4 _ rfl
  have c5 := (HP0.out.blkAt (i := 1) rfl).c 5 _ rfl
  go_wp2_with fail
  refine (l2Copy_any p D W3 (by omega) (by omega) n3 HK.out (HL.out.below HP0.out.below)).mono ?_
  rintro e w7 ⟨⟨aa, ca, ha, ch, sa, cs⟩, rfl, hqk, hp7⟩
  have HQK : Hid _ := hide hqk
  have HP7 : Hid (Pool [] w [[blk w.heap.size (ledC p D)], [blk (w.heap.size + 1) c.cells], [blk (w.heap.size + 1 + 1) [.slice none 0 0, .slice none 0 0, .slice none 0 0]], [orow 4 accCells aa ca D.acc], [orow 4 hldCells ha ch D.hold], [orow 2 snCells sa cs D.seen], [], [], [], [], []] w7) := hide (by
    have q := HP0.out.call (i := 3) rfl (rs' := ledL ⟨aa, ca, ha, ch, sa, cs⟩ D) (hp7.cast (by simp))
    exact q.cast (by simp [ledL]))
  clear hqk hp7 HP0 d0 d1 d2 c0 c1 c2 c3 c4 c5
  unfold ledV
  go_upto_region 3 with fail
  refine name_world9 (fun W8 hW8 => ?_)
  have HP8 : Hid (Pool [] w [[blk w.heap.size (ledC p D)], [blk (w.heap.size + 1) c.cells], [blk (w.heap.size + 1 + 1) [.slice none 0 0, .slice none 0 0, .slice none 0 0]], [orow 4 accCells aa ca D.acc], [orow 4 hldCells ha ch D.hold], [orow 2 snCells sa cs D.seen], [blk w7.heap.size [.slice aa D.acc.length ca, .slice none 0 0, .slice sa D.seen.length cs]], [], [], [], []] W8) := hide (by
    rw [hW8]
    exact HP7.out.newBlk (i := 6) rfl [.slice aa D.acc.length ca, .slice none 0 0, .slice sa D.seen.length cs] 28)
  have HS8 : Hid (W8.heap.size = w7.heap.size + 1) := hide (by rw [hW8]; simp)
  clear hW8 HP7
  go_upto_region 4 with fail
  refine name_world9 (fun W9 hW9 => ?_)
  rw [HS8.out]
  have HP9 : Hid (Pool [] w [[blk w.heap.size (ledC p D)], [blk (w.heap.size + 1) c.cells], [blk (w.heap.size + 1 + 1) [.slice none 0 0, .slice none 0 0, .slice none 0 0]], [orow 4 accCells aa ca D.acc], [orow 4 hldCells ha ch D.hold], [orow 2 snCells sa cs D.seen], [blk w7.heap.size [.slice aa D.acc.length ca, (.slice none 0 0), .slice sa D.seen.length cs]], [row 53 4 (.slice none 0 0) (keepH D.hold c.ref 0).length ((keepH D.hold c.ref 0).flatMap hldCells)], [blk (w7.heap.size + 1) (hldCells ((goneH D.hold c.ref 0).getD hz))], [], []] W9) := hide (by
    rw [hW9]
    have q := (HP8.out.newBlk (i := 8) rfl (hldCells hz) 53).newNil (i := 7) rfl 53 4
    rw [HS8.out] at q
    exact q)
  clear hW9 HP8 HS8
  obtain ⟨i0, hi0, hz0, hz1, hz2⟩ := info_parts infoHld
  go_wp2_with fail
  go_loopw [8] (fun iv wr => ∃ (k : Nat) (v : Value), k ≤ D.hold.length ∧ iv = .int .i64 (k : Int) ∧ Hid (Pool [] w [[blk w.heap.size (ledC p D)], [blk (w.heap.size + 1) c.cells], [blk (w.heap.size + 1 + 1) [.slice none 0 0, .slice none 0 0, .slice none 0 0]], [orow 4 accCells aa ca D.acc], [orow 4 hldCells ha ch D.hold], [orow 2 snCells sa cs D.seen], [blk w7.heap.size [.slice aa D.acc.length ca, v, .slice sa D.seen.length cs]], [row 53 4 v (keepH D.hold c.ref k).length ((keepH D.hold c.ref k).flatMap hldCells)], [blk (w7.heap.size + 1) (hldCells ((goneH D.hold c.ref k).getD hz))], [], []] wr)) (fun iv wr => D.hold.length - (intOf iv).toNat)
  case atStart => exact ⟨0, _, Nat.zero_le _, rfl, HP9⟩
  case round =>
    obtain ⟨k, v, hk, rfl, HPr⟩ := hrel
    clear HP9
    have d1 := (HPr.out.blkAt (i := 0) rfl).c 1 _ rfl
    have c5 := (HPr.out.blkAt (i := 1) rfl).c 5 _ rfl
    by_cases hlt : k < D.hold.length
    · have hlt' : (k : Int) < (D.hold.length : Int) := by omega
      obtain ⟨b2, off2, eh, hb2, z0, z1, z2, z3⟩ := hld_row (HL.out.hold.row.below HPr.out.below) k hlt
      rw [eh] at d1
      have HEH : Hid _ := hide eh
      clear eh
      by_cases hq : (D.hold[k]).id = c.ref
      · have hq' : ((D.hold[k]).id == c.ref) = true := by simp [hq]
        have HKH : Hid (keepH D.hold c.ref (k + 1) = keepH D.hold c.ref k ∧ goneH D.hold c.ref (k + 1) = some D.hold[k]) := hide ⟨keepH_hit hlt hq, goneH_hit HC.out.up hlt hq⟩
        clear hq
        have q0 := (HPr.out.blkAt (i := 8) rfl).c 0 _ rfl
        have q1 := (HPr.out.blkAt (i := 8) rfl).c 1 _ rfl
        have q2 := (HPr.out.blkAt (i := 8) rfl).c 2 _ rfl
        have q3 := (HPr.out.blkAt (i := 8) rfl).c 3 _ rfl
        have fq0 := (HPr.out.blkAt (i := 8) rfl).f 0
        have fq1 := (HPr.out.blkAt (i := 8) rfl).f 1
        have fq2 := (HPr.out.blkAt (i := 8) rfl).f 2
        have fq3 := (HPr.out.blkAt (i := 8) rfl).f 3
        go_wp2_with fail
        go_quiet (fail)
        go_wp2
        exact ⟨⟨k + 1, v, by omega, by go_num, hide (by
          have q := ((((HPr.out.keep (drewN_below wr nq)).setBlk (i := 8) rfl 0 (.int .i64 (D.hold[k]).id) (by simp [hldCells])).setBlk (i := 8) rfl 1 (.string (D.hold[k]).fr) (by simp [hldCells])).setBlk (i := 8) rfl 2 (.string (D.hold[k]).to) (by simp [hldCells])).setBlk (i := 8) rfl 3 (.int .i64 (D.hold[k]).amount) (by simp [hldCells])
          rw [HKH.out.1, HKH.out.2]
          exact q)⟩, by simp [intOf]; omega⟩
      · have hq' : ((D.hold[k]).id == c.ref) = false := by simp [hq]
        have HKH : Hid (keepH D.hold c.ref (k + 1) = keepH D.hold c.ref k ++ [D.hold[k]] ∧ goneH D.hold c.ref (k + 1) = goneH D.hold c.ref k) := hide ⟨keepH_miss hlt hq, goneH_miss hlt hq⟩
        have hkl := keepH_len D.hold c.ref k
        clear hq
        obtain ⟨a5, k5, e5⟩ := row_shape (HPr.out.rowAt (i := 7) rfl)
        subst e5
        go_wp2_with fail
        go_quiet (fail)
        go_upto_region 9 with fail
        rename_i K0 hK0
        obtain ⟨wd, hwd⟩ : ∃ wd, wd = wr.drewN nq := ⟨_, rfl⟩
        have HPd : Hid (Pool [] w [[blk w.heap.size (ledC p D)], [blk (w.heap.size + 1) c.cells], [blk (w.heap.size + 1 + 1) [.slice none 0 0, .slice none 0 0, .slice none 0 0]], [orow 4 accCells aa ca D.acc], [orow 4 hldCells ha ch D.hold], [orow 2 snCells sa cs D.seen], [blk w7.heap.size [.slice aa D.acc.length ca, (.slice a5 (keepH D.hold c.ref k).length k5), .slice sa D.seen.length cs]], [row 53 4 (.slice a5 (keepH D.hold c.ref k).length k5) (keepH D.hold c.ref k).length ((keepH D.hold c.ref k).flatMap hldCells)], [blk (w7.heap.size + 1) (hldCells ((goneH D.hold c.ref k).getD hz))], [], []] wd) := hide (by rw [hwd]; exact HPr.out.keep (drewN_below wr nq))
        rw [← hwd]
        clear hwd HPr d1 c5 z0 z1 z2 z3
        refine wp_region_inv (by kernel_rfl) (fun L act x => ∃ l0 l1 l2 l3 l4 l5 l6 l7 l8 l9 l10 : Bool, ∃ u36 u37 u38 u39 u40 u41 u42 u43 u44 u45 : Value, L = #[l0, l1, l2, l3, l4, l5, l6, l7, l8, l9, l10] ∧ act = { tmps := #[Value.agg #[Value.slice p.aa D.acc.length p.ca, Value.slice p.ha D.hold.length p.ch, Value.slice p.sa D.seen.length p.cs], Value.agg #[Value.int IntKind.i64 c.id, Value.int IntKind.i64 c.kind, Value.string c.fr, Value.string c.to, Value.int IntKind.i64 c.am, Value.int IntKind.i64 c.ref], Value.pointer (some { block := w.heap.size, off := 0 }), Value.pointer (some { block := w.heap.size + 1, off := 0 }), Value.pointer (some { block := w.heap.size + 1 + 1, off := 0 }), Value.int IntKind.i64 0, Value.pointer (some { block := w7.heap.size, off := 0 }), Value.pointer (some { block := w7.heap.size + 1, off := 0 }), Value.int IntKind.i64 ↑k, undef, undef, Value.agg #[Value.slice p.aa D.acc.length p.ca, Value.slice p.ha D.hold.length p.ch, Value.slice p.sa D.seen.length p.cs], Value.agg #[Value.slice aa D.acc.length ca, Value.slice ha D.hold.length ch, Value.slice sa D.seen.length cs], Value.pointer (some { block := w7.heap.size, off := 1 }), Value.agg #[Value.int IntKind.i64 0, Value.string { data := #[] }, Value.string { data := #[] }, Value.int IntKind.i64 0], Value.int IntKind.i64 ↑k, Value.pointer (some { block := w.heap.size, off := 1 }), Value.slice (some { block := b2, off := off2 }) D.hold.length p.ch, Value.int IntKind.i64 ↑D.hold.length, Value.bool true, u20, u21, Value.pointer (some { block := w.heap.size, off := 1 }), Value.slice (some { block := b2, off := off2 }) D.hold.length p.ch, Value.int IntKind.i64 ↑k, Value.pointer (some { block := b2, off := off2 + k * 4 }), Value.pointer (some { block := b2, off := off2 + k * 4 }), Value.int IntKind.i64 D.hold[k].id, Value.pointer (some { block := w.heap.size + 1, off := 5 }), Value.int IntKind.i64 c.ref, Value.bool false, u31, u32, u33, u34, u35, u36, u37, u38, u39, u40, u41, u42, u43, u44, u45, undef, undef, undef, undef, undef, undef, undef, undef, undef, undef, undef, undef, undef, undef, undef, undef, undef, undef, undef, undef, undef, undef, undef, undef, undef, undef, undef, undef], defers := [] } ∧ EnF p D c w.heap.size w7.heap.size aa ca ha ch sa cs k hlt a5 k5 b2 off2 w l0 l1 l2 l3 l4 l5 l6 l7 l8 l9 l10 u36 u37 u38 u39 u40 u41 u42 u43 u44 u45 x) ?_ ?_ ?_
        rotate_left 2
        · exact ⟨false, false, false, false, false, false, false, false, false, false, false, (u36), (u37), (u38), (u39), (u40), (u41), (u42), (u43), (u44), (u45), rfl, rfl, ⟨HPd.out.drew, fun q => (by cases q), fun q => (by cases q), fun q => (by cases q), fun q => (by cases q), fun q => (by cases q), fun q => (by cases q), fun q => (by cases q), fun q => (by cases q), fun q => (by cases q), fun q => (by cases q), fun q => (by cases q), fun q => (by cases q)⟩⟩
        · rintro L act x i ⟨l0, l1, l2, l3, l4, l5, l6, l7, l8, l9, l10, u36, u37, u38, u39, u40, u41, u42, u43, u44, u45, rfl, rfl, h⟩ hi K hK
          have hi15 : i < 11 := by
            obtain ⟨_, o, ho, _⟩ := mem_ready.1 hi
            exact (Array.getElem?_eq_some_iff.1 ho).1
          have hl := (mem_ready.1 hi).1
          obtain rfl | rfl | rfl | rfl | rfl | rfl | rfl | rfl | rfl | rfl | rfl := (by omega : i = 0 ∨ i = 1 ∨ i = 2 ∨ i = 3 ∨ i = 4 ∨ i = 5 ∨ i = 6 ∨ i = 7 ∨ i = 8 ∨ i = 9 ∨ i = 10)
          · have e : l0 = false := hl
            subst e
            refine wpOp_run (v := .pointer (some ⟨w7.heap.size, 1, none⟩)) (w' := x) (by rfl) (by rfl) ?_ (hK _ _ ⟨true, l1, l2, l3, l4, l5, l6, l7, l8, l9, l10, (.pointer (some ⟨w7.heap.size, 1, none⟩)), u37, u38, u39, u40, u41, u42, u43, u44, u45, rfl, rfl, { h with p36 := fun _ => rfl }⟩)
            go_simp
          · have e : l1 = false := hl
            subst e
            have d0 : l0 = true := ready_on hi 0 (by kernel_rfl)
            subst d0
            have z10 : l10 = false := by
              cases hz : l10
              · rfl
              · exact absurd (h.d10_1 hz) (by simp)
            subst z10
            have c0 : x.cell? ⟨w7.heap.size, 1, none⟩ = some (.slice a5 (keepH D.hold c.ref k).length k5) := (h.pool.blkAt (i := 6) rfl).c 1 _ rfl
            refine wpOp_run (v := (.slice a5 (keepH D.hold c.ref k).length k5)) (w' := x) (by rfl) (by rfl) ?_ (hK _ _ ⟨true, true, l2, l3, l4, l5, l6, l7, l8, l9, false, u36, ((.slice a5 (keepH D.hold c.ref k).length k5)), u38, u39, u40, u41, u42, u43, u44, u45, rfl, rfl, { h with p37 := (fun _ => rfl), d10_1 := fun _ => rfl }⟩)
            rw [h.p36 rfl]
            go_simp
          · have e : l2 = false := hl
            subst e
            refine wpOp_run (v := .pointer (some ⟨w.heap.size, 1, none⟩)) (w' := x) (by rfl) (by rfl) ?_ (hK _ _ ⟨l0, l1, true, l3, l4, l5, l6, l7, l8, l9, l10, u36, u37, (.pointer (some ⟨w.heap.size, 1, none⟩)), u39, u40, u41, u42, u43, u44, u45, rfl, rfl, { h with p38 := fun _ => rfl }⟩)
            go_simp
          · have e : l3 = false := hl
            subst e
            have d2 : l2 = true := ready_on hi 2 (by kernel_rfl)
            subst d2
            have c0 : x.cell? ⟨w.heap.size, 1, none⟩ = some (.slice (some ⟨b2, off2, none⟩) D.hold.length p.ch) := by rw [← HEH.out]; exact (h.pool.blkAt (i := 0) rfl).c 1 _ rfl
            refine wpOp_run (v := .slice (some ⟨b2, off2, none⟩) D.hold.length p.ch) (w' := x) (by rfl) (by rfl) ?_ (hK _ _ ⟨l0, l1, true, true, l4, l5, l6, l7, l8, l9, l10, u36, u37, u38, (.slice (some ⟨b2, off2, none⟩) D.hold.length p.ch), u40, u41, u42, u43, u44, u45, rfl, rfl, { h with p39 := fun _ => rfl }⟩)
            rw [h.p38 rfl]
            go_simp
          · have e : l4 = false := hl
            subst e
            refine wpOp_run (v := .int .i64 (k : Int)) (w' := x) (by rfl) (by rfl) ?_ (hK _ _ ⟨l0, l1, l2, l3, true, l5, l6, l7, l8, l9, l10, u36, u37, u38, u39, (.int .i64 (k : Int)), u41, u42, u43, u44, u45, rfl, rfl, { h with p40 := fun _ => rfl }⟩)
            go_simp
          · have e : l5 = false := hl
            subst e
            have d3 : l3 = true := ready_on hi 3 (by kernel_rfl)
            subst d3
            have d4 : l4 = true := ready_on hi 4 (by kernel_rfl)
            subst d4
            refine wpOp_run (v := .pointer (some ⟨b2, off2 + k * 4, none⟩)) (w' := x) (by rfl) (by rfl) ?_ (hK _ _ ⟨l0, l1, l2, true, true, true, l6, l7, l8, l9, l10, u36, u37, u38, u39, u40, (.pointer (some ⟨b2, off2 + k * 4, none⟩)), u42, u43, u44, u45, rfl, rfl, { h with p41 := fun _ => rfl }⟩)
            rw [h.p39 rfl, h.p40 rfl]
            go_simp
          · have e : l6 = false := hl
            subst e
            have d5 : l5 = true := ready_on hi 5 (by kernel_rfl)
            subst d5
            obtain ⟨b3, off3, eh3, hb3, z0, z1, z2, z3⟩ := hld_row (HL.out.hold.row.below h.pool.below) k hlt
            rw [HEH.out] at eh3
            simp only [Option.some.injEq, Addr.mk.injEq, and_true] at eh3
            obtain ⟨rfl, rfl⟩ := eh3
            refine wpOp_run (v := .agg #[.int .i64 (D.hold[k]).id, .string (D.hold[k]).fr, .string (D.hold[k]).to, .int .i64 (D.hold[k]).amount]) (w' := x) (by rfl) (by rfl) ?_ (hK _ _ ⟨l0, l1, l2, l3, l4, true, true, l7, l8, l9, l10, u36, u37, u38, u39, u40, u41, (.agg #[.int .i64 (D.hold[k]).id, .string (D.hold[k]).fr, .string (D.hold[k]).to, .int .i64 (D.hold[k]).amount]), u43, u44, u45, rfl, rfl, { h with p42 := fun _ => rfl }⟩)
            rw [h.p41 rfl]
            go_simp
          · have e : l7 = false := hl
            subst e
            have d6 : l6 = true := ready_on hi 6 (by kernel_rfl)
            subst d6
            have z8 : l8 = false := by
              cases hz : l8
              · rfl
              · exact absurd (h.d8_7 hz) (by simp)
            subst z8
            refine wpOp_run (v := .slice (some ⟨x.heap.size, 0, none⟩) 1 1) (w' := x.alloc (.cells #[.int .i64 (D.hold[k]).id, .string (D.hold[k]).fr, .string (D.hold[k]).to, .int .i64 (D.hold[k]).amount] 53)) (by rfl) (by rfl) ?_ (hK _ _ ⟨l0, l1, l2, l3, l4, l5, true, true, false, l9, l10, u36, u37, u38, u39, u40, u41, u42, (.slice (some ⟨x.heap.size, 0, none⟩) 1 1), u44, u45, rfl, rfl, { h with q43 := (fun _ => rfl), pool := (h.pool.newBlk (i := 9) rfl (hldCells D.hold[k]) 53), d8_7 := fun _ => rfl }⟩)
            rw [h.p42 rfl]
            go_simp
          · have e : l8 = false := hl
            subst e
            have d1 : l1 = true := ready_on hi 1 (by kernel_rfl)
            subst d1
            have d7 : l7 = true := ready_on hi 7 (by kernel_rfl)
            subst d7
            have z10 : l10 = false := by
              cases hz : l10
              · rfl
              · exact absurd (h.d10_8 hz) (by simp)
            subst z10
            obtain ⟨v', y, hr, hp⟩ := h.pool.append (P := Tryz.prog) (i0 := 7) rfl 25 25 i0 _ 48 Tryz.underlying25 hi0 hz0 hz1 hz2 rfl (by decide) (some ⟨gOf (slA u43), 0, none⟩) 1 1 (hldCells D.hold[k]) rfl (fun e => by cases e) (blk_news (h.pool.blkAt (i := 9) rfl)) (hld_one1 _) (by unfold maxLen; omega) (by omega)
            refine wpOp_run (v := v') (w' := y) (by rfl) (by rfl) ?_ (hK _ _ ⟨l0, true, l2, l3, l4, l5, l6, true, true, l9, false, u36, u37, u38, u39, u40, u41, u42, u43, (v'), u45, rfl, rfl, { h with pool := (hp), d8_7 := fun _ => rfl, d10_8 := fun _ => rfl }⟩)
            exact exec_append rfl (h.p37 rfl) (h.q43 rfl) hr
          · have e : l9 = false := hl
            subst e
            have d0 : l0 = true := ready_on hi 0 (by kernel_rfl)
            subst d0
            have d1 : l1 = true := ready_on hi 1 (by kernel_rfl)
            subst d1
            have d2 : l2 = true := ready_on hi 2 (by kernel_rfl)
            subst d2
            have d3 : l3 = true := ready_on hi 3 (by kernel_rfl)
            subst d3
            have d4 : l4 = true := ready_on hi 4 (by kernel_rfl)
            subst d4
            have d5 : l5 = true := ready_on hi 5 (by kernel_rfl)
            subst d5
            have d6 : l6 = true := ready_on hi 6 (by kernel_rfl)
            subst d6
            have d7 : l7 = true := ready_on hi 7 (by kernel_rfl)
            subst d7
            have d8 : l8 = true := ready_on hi 8 (by kernel_rfl)
            subst d8
            refine wpOp_run (v := .pointer (some ⟨w7.heap.size, 1, none⟩)) (w' := x) (by rfl) (by rfl) ?_ (hK _ _ ⟨true, true, true, true, true, true, true, true, true, true, l10, u36, u37, u38, u39, u40, u41, u42, u43, u44, (.pointer (some ⟨w7.heap.size, 1, none⟩)), rfl, rfl, { h with p45 := fun _ => rfl }⟩)
            go_simp
          · have e : l10 = false := hl
            subst e
            have d0 : l0 = true := ready_on hi 0 (by kernel_rfl)
            subst d0
            have d1 : l1 = true := ready_on hi 1 (by kernel_rfl)
            subst d1
            have d2 : l2 = true := ready_on hi 2 (by kernel_rfl)
            subst d2
            have d3 : l3 = true := ready_on hi 3 (by kernel_rfl)
            subst d3
            have d4 : l4 = true := ready_on hi 4 (by kernel_rfl)
            subst d4
            have d5 : l5 = true := ready_on hi 5 (by kernel_rfl)
            subst d5
            have d6 : l6 = true := ready_on hi 6 (by kernel_rfl)
            subst d6
            have d7 : l7 = true := ready_on hi 7 (by kernel_rfl)
            subst d7
            have d8 : l8 = true := ready_on hi 8 (by kernel_rfl)
            subst d8
            have d9 : l9 = true := ready_on hi 9 (by kernel_rfl)
            subst d9
            obtain ⟨a6, k6, e6⟩ := row_shape (h.pool.rowAt (i := 7) rfl)
            have A := h.pool.blkAt (i := 6) rfl
            have t1 := A.c 1 _ rfl
            have f1 := A.f 1
            refine wpOp_skip (w' := x.setCell ⟨w7.heap.size, 1, none⟩ u44) (by rfl) (by rfl) ?_ (hK _ _ ⟨true, true, true, true, true, true, true, true, true, true, true, u36, u37, u38, u39, u40, u41, u42, u43, u44, u45, rfl, rfl, { h with pool := (h.pool.setBlk (i := 6) rfl 1 u44 (by simp)), d10_8 := fun _ => rfl, d10_1 := fun _ => rfl }⟩)
            rw [h.p45 rfl, e6]
            go_simp
        · rintro L act x ⟨l0, l1, l2, l3, l4, l5, l6, l7, l8, l9, l10, u36, u37, u38, u39, u40, u41, u42, u43, u44, u45, rfl, rfl, h⟩ hr
          have hall := ready_all hr rfl (by decide)
          have t0 : l0 = true := hall 0 (by decide)
          have t1 : l1 = true := hall 1 (by decide)
          have t2 : l2 = true := hall 2 (by decide)
          have t3 : l3 = true := hall 3 (by decide)
          have t4 : l4 = true := hall 4 (by decide)
          have t5 : l5 = true := hall 5 (by decide)
          have t6 : l6 = true := hall 6 (by decide)
          have t7 : l7 = true := hall 7 (by decide)
          have t8 : l8 = true := hall 8 (by decide)
          have t9 : l9 = true := hall 9 (by decide)
          have t10 : l10 = true := hall 10 (by decide)
          subst t0 t1 t2 t3 t4 t5 t6 t7 t8 t9 t10
          clear hall hr
          have hp := h.pool.drop (i := 9) rfl
          rw [flat_snocH] at hp
          have HPn : Hid (Pool [] w [[blk w.heap.size (ledC p D)], [blk (w.heap.size + 1) c.cells], [blk (w.heap.size + 1 + 1) [.slice none 0 0, .slice none 0 0, .slice none 0 0]], [orow 4 accCells aa ca D.acc], [orow 4 hldCells ha ch D.hold], [orow 2 snCells sa cs D.seen], [blk w7.heap.size [.slice aa D.acc.length ca, u44, .slice sa D.seen.length cs]], [row 53 4 u44 (keepH D.hold c.ref (k + 1)).length ((keepH D.hold c.ref (k + 1)).flatMap hldCells)], [blk (w7.heap.size + 1) (hldCells ((goneH D.hold c.ref (k + 1)).getD hz))], [], []] x) := hide (by
            have e : ((keepH D.hold c.ref k) ++ [D.hold[k]]).length = (keepH D.hold c.ref k).length + 1 := by simp
            rw [HKH.out.1, HKH.out.2, e]
            exact hp)
          clear h hp
          refine hK0 _ _ ?_
          go_wp2
          exact ⟨⟨k + 1, u44, by omega, by go_num, HPn⟩, by simp [intOf]; omega⟩
    · have hlt' : ¬ (k : Int) < (D.hold.length : Int) := by omega
      obtain rfl : k = D.hold.length := by omega
      rw [keepH_all, goneH_all] at HPr
      obtain ⟨N, hN⟩ : ∃ N, N = D.hold.filter (fun h => !(h.id == c.ref)) := ⟨_, rfl⟩
      rw [← hN] at HPr
      obtain ⟨a9, c9, e9, s9, hp9⟩ := HPr.out.toOrow hldLen (i := 7) rfl
      subst e9
      obtain ⟨O, hO⟩ : ∃ O, O = D.hold.find? (fun h => h.id == c.ref) := ⟨_, rfl⟩
      rw [← hO] at hp9
      have HPA : Hid (Pool [] w [[blk w.heap.size (ledC p D)], [blk (w.heap.size + 1) c.cells], [blk (w.heap.size + 1 + 1) [.slice none 0 0, .slice none 0 0, .slice none 0 0]], [orow 4 accCells aa ca D.acc], [orow 4 hldCells ha ch D.hold], [orow 2 snCells sa cs D.seen], [blk w7.heap.size [.slice aa D.acc.length ca, .slice a9 N.length c9, .slice sa D.seen.length cs]], [orow 4 hldCells a9 c9 N], [blk (w7.heap.size + 1) (hldCells (O.getD hz))], [], []] wr) := hide hp9
      have HNN : Hid _ := hide hN
      have HOO : Hid _ := hide hO
      have hNl : N.length ≤ 10 := by rw [hN]; exact Nat.le_trans (List.length_filter_le _ _) hn2
      clear HPr hp9 hN hO d1 c5 hk hlt
      cases O with
      | none =>
        have HM : Hid (endM D c = (D, 9)) := hide (by unfold endM; rw [← HOO.out])
        have d1 := (HPA.out.blkAt (i := 0) rfl).c 1 _ rfl
        go_upto_region 10 with fail
        have h0 := (HPA.out.blkAt (i := 8) rfl).c 0 _ rfl
        have d0 := (HPA.out.blkAt (i := 0) rfl).c 0 _ rfl
        have d1 := (HPA.out.blkAt (i := 0) rfl).c 1 _ rfl
        have d2 := (HPA.out.blkAt (i := 0) rfl).c 2 _ rfl
        have r0 := (HPA.out.blkAt (i := 2) rfl).c 0 _ rfl
        have fr0 := (HPA.out.blkAt (i := 2) rfl).f 0
        have r1 := (HPA.out.blkAt (i := 2) rfl).c 1 _ rfl
        have fr1 := (HPA.out.blkAt (i := 2) rfl).f 1
        have r2 := (HPA.out.blkAt (i := 2) rfl).c 2 _ rfl
        have fr2 := (HPA.out.blkAt (i := 2) rfl).f 2
        have HQ : Hid _ := hide (((HPA.out.setBlk (i := 2) rfl 0 (.slice p.aa D.acc.length p.ca) (by simp)).setBlk (i := 2) rfl 1 (.slice p.ha D.hold.length p.ch) (by simp)).setBlk (i := 2) rfl 2 (.slice p.sa D.seen.length p.cs) (by simp))
        go_wp2
        refine name_post9 (fun W9 hW9 => ?_)
        have hq := HQ.out
        rw [← hW9] at hq
        have z_ := hq.blkAt (i := 2) rfl
        have g0_ := z_.c 0 _ rfl
        have g1_ := z_.c 1 _ rfl
        have g2_ := z_.c 2 _ rfl
        exact bodyPost_ret (v := .tuple #[.agg #[.slice p.aa D.acc.length p.ca, .slice p.ha D.hold.length p.ch, .slice p.sa D.seen.length p.cs], .int .i64 (9)]) (by simp [results, Tryz.results105, go_sem, g0_, g1_, g2_]) rfl ⟨p, by rw [HM.out]; rfl, hq.below, fun _ => rfl, fun q => by rw [HM.out] at q; cases q⟩
      | some g =>
        have hmem : g ∈ D.hold := List.mem_of_find?_eq_some HOO.out.symm
        have hid := HC.out.ids g hmem
        have hid' : (g.id == 0) = false := by simp; omega
        have HMEM : Hid _ := hide hmem
        clear hid hmem
        have d1 := (HPA.out.blkAt (i := 0) rfl).c 1 _ rfl
        have h0 : wr.cell? ⟨w7.heap.size + 1, 0, none⟩ = some (.int .i64 g.id) := (HPA.out.blkAt (i := 8) rfl).c 0 _ rfl
        have c1 := (HPA.out.blkAt (i := 1) rfl).c 1 _ rfl
        by_cases hkd : c.kind = 5
        · have hkd' : (c.kind == 5) = true := by simp [hkd]
          have HM : Hid (endM D c = (⟨D.acc, N, D.seen⟩, 0)) := hide (by unfold endM; rw [← HOO.out, HNN.out]; simp only; rw [if_pos hkd])
          clear hkd
          have m0 := (HPA.out.blkAt (i := 6) rfl).c 0 _ rfl
          have m1 := (HPA.out.blkAt (i := 6) rfl).c 1 _ rfl
          have m2 := (HPA.out.blkAt (i := 6) rfl).c 2 _ rfl
          have r0 := (HPA.out.blkAt (i := 2) rfl).c 0 _ rfl
          have fr0 := (HPA.out.blkAt (i := 2) rfl).f 0
          have r1 := (HPA.out.blkAt (i := 2) rfl).c 1 _ rfl
          have fr1 := (HPA.out.blkAt (i := 2) rfl).f 1
          have r2 := (HPA.out.blkAt (i := 2) rfl).c 2 _ rfl
          have fr2 := (HPA.out.blkAt (i := 2) rfl).f 2
          have HQ : Hid _ := hide (((HPA.out.setBlk (i := 2) rfl 0 (.slice aa D.acc.length ca) (by simp)).setBlk (i := 2) rfl 1 (.slice a9 N.length c9) (by simp)).setBlk (i := 2) rfl 2 (.slice sa D.seen.length cs) (by simp))
          go_wp2
          refine name_post9 (fun W9 hW9 => ?_)
          have hq := HQ.out
          rw [← hW9] at hq
          have z_ := hq.blkAt (i := 2) rfl
          have g0_ := z_.c 0 _ rfl
          have g1_ := z_.c 1 _ rfl
          have g2_ := z_.c 2 _ rfl
          exact bodyPost_ret (v := .tuple #[.agg #[.slice aa D.acc.length ca, .slice a9 N.length c9, .slice sa D.seen.length cs], .int .i64 (0)]) (by simp [results, Tryz.results105, go_sem, g0_, g1_, g2_]) rfl ⟨⟨aa, ca, a9, c9, sa, cs⟩, by rw [HM.out]; rfl, hq.below, fun q => by rw [HM.out] at q; exact absurd rfl q, fun _ => by
            rw [HM.out]
            exact ⟨⟨HQK.out.a, s9, HQK.out.s⟩, (((((((hq.drop (i := 8) rfl).drop (i := 6) rfl).drop (i := 4) rfl).drop (i := 2) rfl).drop (i := 1) rfl).drop (i := 0) rfl).perm (by
              simp only [ledL, List.set_cons_succ, List.set_cons_zero, List.flatten_cons, List.flatten_nil, List.append_nil, List.nil_append, List.cons_append]
              exact List.Perm.cons _ (List.Perm.swap _ _ _)))⟩⟩
        · have hkd' : (c.kind == 5) = false := by simp [hkd]
          have HKD : Hid (¬ c.kind = 5) := hide hkd
          clear hkd
          go_upto_region 14 with fail
          rename_i K0 hK0
          clear d1 h0 c1
          obtain ⟨i, j, ei, ej⟩ := HC.out.pairs g HMEM.out
          have HEI : Hid _ := hide ei
          have HEJ : Hid _ := hide ej
          obtain ⟨hil, _⟩ := idxA_lt ei
          obtain ⟨hjl, _⟩ := idxA_lt ej
          obtain ⟨R, hR⟩ : ∃ R, R = payM ⟨D.acc, N, D.seen⟩ i j g.amount := ⟨_, rfl⟩
          have HRR : Hid _ := hide hR
          have HNS : Hid (SmallH N) := hide ⟨hNl, fun y hy => by rw [HNN.out] at hy; exact HN2.out.2 y ((List.mem_filter.1 hy).1)⟩
          have HNW : Hid (∀ y ∈ N, HldW y) := hide (fun y hy => by rw [HNN.out] at hy; exact HL.out.hold.wf y ((List.mem_filter.1 hy).1))
          have HPAY : Hid (∀ x, LedAt x aa a9 sa ⟨D.acc, N, D.seen⟩ → Calls Tryz.prog 117 #[.agg #[.slice aa D.acc.length ca, .slice a9 N.length c9, .slice sa D.seen.length cs], .int .i64 (i : Int), .int .i64 (j : Int), .int .i64 g.amount] x fun e w' => MoveEnd ⟨aa, ca, a9, c9, sa, cs⟩ ⟨D.acc, N, D.seen⟩ R x e w') := hide (fun x hx => by
            rw [hR]
            exact l2Pay_any ⟨aa, ca, a9, c9, sa, cs⟩ ⟨D.acc, N, D.seen⟩ i j g.amount x HN1.out HNS.out n3 HLI.out hil hjl (HN2.out.2 g HMEM.out) ⟨HQK.out.a, s9, HQK.out.s⟩ hx)
          clear hR ei ej
          refine wp_region_inv (by kernel_rfl) (fun L act x => ∃ l0 l1 l2 l3 l4 l5 l6 l7 l8 l9 l10 l11 l12 l13 l14 l15 l16 l17 : Bool, ∃ u9 u10 u54 u55 u56 u57 u58 u59 u60 u61 u62 u63 u64 u65 u66 u67 u68 : Value, ∃ q : LP, L = #[l0, l1, l2, l3, l4, l5, l6, l7, l8, l9, l10, l11, l12, l13, l14, l15, l16, l17] ∧ act = { tmps := #[Value.agg #[Value.slice p.aa D.acc.length p.ca, Value.slice p.ha D.hold.length p.ch, Value.slice p.sa D.seen.length p.cs], Value.agg #[Value.int IntKind.i64 c.id, Value.int IntKind.i64 c.kind, Value.string c.fr, Value.string c.to, Value.int IntKind.i64 c.am, Value.int IntKind.i64 c.ref], Value.pointer (some { block := w.heap.size, off := 0 }), Value.pointer (some { block := w.heap.size + 1, off := 0 }), Value.pointer (some { block := w.heap.size + 1 + 1, off := 0 }), Value.int IntKind.i64 0, Value.pointer (some { block := w7.heap.size, off := 0 }), Value.pointer (some { block := w7.heap.size + 1, off := 0 }), Value.int IntKind.i64 ↑D.hold.length, u9, u10, Value.agg #[Value.slice p.aa D.acc.length p.ca, Value.slice p.ha D.hold.length p.ch, Value.slice p.sa D.seen.length p.cs], Value.agg #[Value.slice aa D.acc.length ca, Value.slice ha D.hold.length ch, Value.slice sa D.seen.length cs], Value.pointer (some { block := w7.heap.size, off := 1 }), Value.agg #[Value.int IntKind.i64 0, Value.string { data := #[] }, Value.string { data := #[] }, Value.int IntKind.i64 0], Value.int IntKind.i64 ↑D.hold.length, Value.pointer (some { block := w.heap.size, off := 1 }), Value.slice p.ha D.hold.length p.ch, Value.int IntKind.i64 ↑D.hold.length, Value.bool false, u20, u21, u22, u23, u24, u25, u26, u27, u28, u29, u30, u31, u32, u33, u34, u35, u36, u37, u38, u39, u40, u41, u42, u43, u44, u45, Value.pointer (some { block := w7.heap.size + 1, off := 0 }), Value.int IntKind.i64 g.id, Value.bool false, undef, Value.pointer (some { block := w.heap.size + 1, off := 1 }), Value.int IntKind.i64 c.kind, Value.bool false, undef, u54, u55, u56, u57, u58, u59, u60, u61, u62, u63, u64, u65, u66, u67, u68, undef, undef, undef, undef, undef], defers := [] } ∧ EpF p D c w.heap.size w7.heap.size aa ca ha ch sa cs a9 c9 N g i j R w l0 l1 l2 l3 l4 l5 l6 l7 l8 l9 l10 l11 l12 l13 l14 l15 l16 l17 u9 u10 u54 u55 u56 u57 u58 u59 u60 u61 u62 u63 u64 u65 u66 u67 u68 q x) ?_ ?_ ?_
          rotate_left 2
          · exact ⟨false, false, false, false, false, false, false, false, false, false, false, false, false, false, false, false, false, false, (undef), (undef), (undef), (undef), (undef), (undef), (undef), (undef), (undef), (undef), (undef), (undef), (undef), (undef), (undef), (undef), (undef), (p), rfl, rfl, ⟨HPA.out.drew, fun q => (by cases q), fun q => (by cases q), fun q => (by cases q), fun q => (by cases q), fun q => (by cases q), fun q => (by cases q), fun q => (by cases q), fun q => (by cases q), fun q => (by cases q), fun q => (by cases q), fun q => (by cases q), fun q => (by cases q), fun q => (by cases q), fun q => (by cases q), fun q => (by cases q), fun q => (by cases q), fun q => (by cases q), fun q => (by cases q), fun q => (by cases q), fun q => (by cases q), fun q => (by cases q), fun q => (by cases q), fun q => (by cases q), fun q => (by cases q), fun q => (by cases q), fun q => (by cases q)⟩⟩
          · rintro L act x i ⟨l0, l1, l2, l3, l4, l5, l6, l7, l8, l9, l10, l11, l12, l13, l14, l15, l16, l17, u9, u10, u54, u55, u56, u57, u58, u59, u60, u61, u62, u63, u64, u65, u66, u67, u68, q, rfl, rfl, h⟩ hi K hK
            have hi15 : i < 18 := by
              obtain ⟨_, o, ho, _⟩ := mem_ready.1 hi
              exact (Array.getElem?_eq_some_iff.1 ho).1
            have hl := (mem_ready.1 hi).1
            obtain rfl | rfl | rfl | rfl | rfl | rfl | rfl | rfl | rfl | rfl | rfl | rfl | rfl | rfl | rfl | rfl | rfl | rfl := (by omega : i = 0 ∨ i = 1 ∨ i = 2 ∨ i = 3 ∨ i = 4 ∨ i = 5 ∨ i = 6 ∨ i = 7 ∨ i = 8 ∨ i = 9 ∨ i = 10 ∨ i = 11 ∨ i = 12 ∨ i = 13 ∨ i = 14 ∨ i = 15 ∨ i = 16 ∨ i = 17)
            · have e : l0 = false := hl
              subst e
              have c0 := (h.pool.blkAt (i := 6) rfl).c 0 _ rfl
              have c1 := (h.pool.blkAt (i := 6) rfl).c 1 _ rfl
              have c2 := (h.pool.blkAt (i := 6) rfl).c 2 _ rfl
              refine wpOp_run (v := .agg #[.slice aa D.acc.length ca, .slice a9 N.length c9, .slice sa D.seen.length cs]) (w' := x) (by rfl) (by rfl) ?_ (hK _ _ ⟨true, l1, l2, l3, l4, l5, l6, l7, l8, l9, l10, l11, l12, l13, l14, l15, l16, l17, u9, u10, u54, (.agg #[.slice aa D.acc.length ca, .slice a9 N.length c9, .slice sa D.seen.length cs]), u56, u57, u58, u59, u60, u61, u62, u63, u64, u65, u66, u67, u68, (q), rfl, rfl, { h with p55 := fun _ => rfl }⟩)
              go_simp
            · have e : l1 = false := hl
              subst e
              have c0 := (h.pool.blkAt (i := 0) rfl).c 0 _ rfl
              have c1 := (h.pool.blkAt (i := 0) rfl).c 1 _ rfl
              have c2 := (h.pool.blkAt (i := 0) rfl).c 2 _ rfl
              refine wpOp_run (v := .agg #[.slice p.aa D.acc.length p.ca, .slice p.ha D.hold.length p.ch, .slice p.sa D.seen.length p.cs]) (w' := x) (by rfl) (by rfl) ?_ (hK _ _ ⟨l0, true, l2, l3, l4, l5, l6, l7, l8, l9, l10, l11, l12, l13, l14, l15, l16, l17, u9, u10, u54, u55, (.agg #[.slice p.aa D.acc.length p.ca, .slice p.ha D.hold.length p.ch, .slice p.sa D.seen.length p.cs]), u57, u58, u59, u60, u61, u62, u63, u64, u65, u66, u67, u68, (q), rfl, rfl, { h with p56 := fun _ => rfl }⟩)
              go_simp
            · have e : l2 = false := hl
              subst e
              refine wpOp_run (v := .pointer (some ⟨w7.heap.size + 1, 1, none⟩)) (w' := x) (by rfl) (by rfl) ?_ (hK _ _ ⟨l0, l1, true, l3, l4, l5, l6, l7, l8, l9, l10, l11, l12, l13, l14, l15, l16, l17, u9, u10, u54, u55, u56, (.pointer (some ⟨w7.heap.size + 1, 1, none⟩)), u58, u59, u60, u61, u62, u63, u64, u65, u66, u67, u68, (q), rfl, rfl, { h with p57 := fun _ => rfl }⟩)
              go_simp
            · have e : l3 = false := hl
              subst e
              have d2 : l2 = true := ready_on hi 2 (by kernel_rfl)
              subst d2
              have c1 := (h.pool.blkAt (i := 8) rfl).c 1 _ rfl
              refine wpOp_run (v := .string g.fr) (w' := x) (by rfl) (by rfl) ?_ (hK _ _ ⟨l0, l1, true, true, l4, l5, l6, l7, l8, l9, l10, l11, l12, l13, l14, l15, l16, l17, u9, u10, u54, u55, u56, u57, (.string g.fr), u59, u60, u61, u62, u63, u64, u65, u66, u67, u68, (q), rfl, rfl, { h with p58 := fun _ => rfl }⟩)
              rw [h.p57 rfl]
              go_simp
            · have e : l4 = false := hl
              subst e
              have d1 : l1 = true := ready_on hi 1 (by kernel_rfl)
              subst d1
              have d3 : l3 = true := ready_on hi 3 (by kernel_rfl)
              subst d3
              refine wpOp_call (by rfl) (by rfl) ?_ (l2Find_at p.aa D.acc p.ca (.slice p.ha D.hold.length p.ch) (.slice p.sa D.seen.length p.cs) g.fr x (by omega) (HL.out.acc.below h.pool.below) HEI.out) ?_
              · rw [h.p56 rfl, h.p58 rfl]; go_simp
              · rintro e w' ⟨rfl, hb⟩
                exact ⟨_, rfl, hK _ _ ⟨l0, true, l2, true, true, l5, l6, l7, l8, l9, l10, l11, l12, l13, l14, l15, l16, l17, u9, u10, u54, u55, u56, u57, u58, (.int .i64 (i : Int)), u60, u61, u62, u63, u64, u65, u66, u67, u68, (q), rfl, rfl, { h with q59 := (fun _ => rfl), pool := (h.pool.keep hb) }⟩⟩
            · have e : l5 = false := hl
              subst e
              have c0 := (h.pool.blkAt (i := 0) rfl).c 0 _ rfl
              have c1 := (h.pool.blkAt (i := 0) rfl).c 1 _ rfl
              have c2 := (h.pool.blkAt (i := 0) rfl).c 2 _ rfl
              refine wpOp_run (v := .agg #[.slice p.aa D.acc.length p.ca, .slice p.ha D.hold.length p.ch, .slice p.sa D.seen.length p.cs]) (w' := x) (by rfl) (by rfl) ?_ (hK _ _ ⟨l0, l1, l2, l3, l4, true, l6, l7, l8, l9, l10, l11, l12, l13, l14, l15, l16, l17, u9, u10, u54, u55, u56, u57, u58, u59, (.agg #[.slice p.aa D.acc.length p.ca, .slice p.ha D.hold.length p.ch, .slice p.sa D.seen.length p.cs]), u61, u62, u63, u64, u65, u66, u67, u68, (q), rfl, rfl, { h with p60 := fun _ => rfl }⟩)
              go_simp
            · have e : l6 = false := hl
              subst e
              refine wpOp_run (v := .pointer (some ⟨w7.heap.size + 1, 2, none⟩)) (w' := x) (by rfl) (by rfl) ?_ (hK _ _ ⟨l0, l1, l2, l3, l4, l5, true, l7, l8, l9, l10, l11, l12, l13, l14, l15, l16, l17, u9, u10, u54, u55, u56, u57, u58, u59, u60, (.pointer (some ⟨w7.heap.size + 1, 2, none⟩)), u62, u63, u64, u65, u66, u67, u68, (q), rfl, rfl, { h with p61 := fun _ => rfl }⟩)
              go_simp
            · have e : l7 = false := hl
              subst e
              have d6 : l6 = true := ready_on hi 6 (by kernel_rfl)
              subst d6
              have c2 := (h.pool.blkAt (i := 8) rfl).c 2 _ rfl
              refine wpOp_run (v := .string g.to) (w' := x) (by rfl) (by rfl) ?_ (hK _ _ ⟨l0, l1, l2, l3, l4, l5, true, true, l8, l9, l10, l11, l12, l13, l14, l15, l16, l17, u9, u10, u54, u55, u56, u57, u58, u59, u60, u61, (.string g.to), u63, u64, u65, u66, u67, u68, (q), rfl, rfl, { h with p62 := fun _ => rfl }⟩)
              rw [h.p61 rfl]
              go_simp
            · have e : l8 = false := hl
              subst e
              have d4 : l4 = true := ready_on hi 4 (by kernel_rfl)
              subst d4
              have d5 : l5 = true := ready_on hi 5 (by kernel_rfl)
              subst d5
              have d7 : l7 = true := ready_on hi 7 (by kernel_rfl)
              subst d7
              refine wpOp_call (by rfl) (by rfl) ?_ (l2Find_at p.aa D.acc p.ca (.slice p.ha D.hold.length p.ch) (.slice p.sa D.seen.length p.cs) g.to x (by omega) (HL.out.acc.below h.pool.below) HEJ.out) ?_
              · rw [h.p60 rfl, h.p62 rfl]; go_simp
              · rintro e w' ⟨rfl, hb⟩
                exact ⟨_, rfl, hK _ _ ⟨l0, l1, l2, l3, true, true, l6, true, true, l9, l10, l11, l12, l13, l14, l15, l16, l17, u9, u10, u54, u55, u56, u57, u58, u59, u60, u61, u62, (.int .i64 (j : Int)), u64, u65, u66, u67, u68, (q), rfl, rfl, { h with q63 := (fun _ => rfl), pool := (h.pool.keep hb) }⟩⟩
            · have e : l9 = false := hl
              subst e
              refine wpOp_run (v := .pointer (some ⟨w7.heap.size + 1, 3, none⟩)) (w' := x) (by rfl) (by rfl) ?_ (hK _ _ ⟨l0, l1, l2, l3, l4, l5, l6, l7, l8, true, l10, l11, l12, l13, l14, l15, l16, l17, u9, u10, u54, u55, u56, u57, u58, u59, u60, u61, u62, u63, (.pointer (some ⟨w7.heap.size + 1, 3, none⟩)), u65, u66, u67, u68, (q), rfl, rfl, { h with p64 := fun _ => rfl }⟩)
              go_simp
            · have e : l10 = false := hl
              subst e
              have d9 : l9 = true := ready_on hi 9 (by kernel_rfl)
              subst d9
              have c3 := (h.pool.blkAt (i := 8) rfl).c 3 _ rfl
              refine wpOp_run (v := .int .i64 g.amount) (w' := x) (by rfl) (by rfl) ?_ (hK _ _ ⟨l0, l1, l2, l3, l4, l5, l6, l7, l8, true, true, l11, l12, l13, l14, l15, l16, l17, u9, u10, u54, u55, u56, u57, u58, u59, u60, u61, u62, u63, u64, (.int .i64 g.amount), u66, u67, u68, (q), rfl, rfl, { h with p65 := fun _ => rfl }⟩)
              rw [h.p64 rfl]
              go_simp
            · have e : l11 = false := hl
              subst e
              have d0 : l0 = true := ready_on hi 0 (by kernel_rfl)
              subst d0
              have d4 : l4 = true := ready_on hi 4 (by kernel_rfl)
              subst d4
              have d8 : l8 = true := ready_on hi 8 (by kernel_rfl)
              subst d8
              have d10 : l10 = true := ready_on hi 10 (by kernel_rfl)
              subst d10
              have z12 : l12 = false := by
                cases hz : l12
                · rfl
                · exact absurd (h.d12_11 hz) (by simp)
              subst z12
              have z13 : l13 = false := by
                cases hz : l13
                · rfl
                · exact absurd (h.d13_11 hz) (by simp)
              subst z13
              have z14 : l14 = false := by
                cases hz : l14
                · rfl
                · exact absurd (h.d14_11 hz) (by simp)
              subst z14
              have z16 : l16 = false := by
                cases hz : l16
                · rfl
                · exact absurd (h.d16_11 hz) (by simp)
              subst z16
              refine wpOp_call (by rfl) (by rfl) ?_ (HPAY.out x ⟨(h.pool.orowAt (i := 3) rfl).rows.acc HL.out.acc.wf, (h.pool.orowAt (i := 7) rfl).rows.hold HNW.out, (h.pool.orowAt (i := 5) rfl).rows.ans HL.out.seen.wf⟩) ?_
              · rw [h.p55 rfl, h.p65 rfl]; rw [h.q59 rfl, h.q63 rfl]; go_simp
              · rintro e w' ⟨q2, rfl, hb, hne, heq⟩
                exact ⟨_, rfl, hK _ _ ⟨true, l1, l2, l3, true, l5, l6, l7, true, l9, true, true, false, false, false, l15, false, l17, u9, u10, u54, u55, u56, u57, u58, u59, u60, u61, u62, u63, u64, u65, (.tuple #[ledV q2 R.1, .int .i64 R.2]), u67, u68, (q2), rfl, rfl, { h with q66 := (fun _ => rfl), qq := (fun _ => ⟨hne, fun z => (heq z).1⟩), q54 := (fun z => by cases z), q67 := (fun z => by cases z), pool := (h.pool.pay (i := 9) rfl hb (fun z => (heq z).2)), d12_11 := fun _ => rfl, d13_11 := fun _ => rfl, d14_11 := fun _ => rfl, d16_11 := fun _ => rfl }⟩⟩
            · have e : l12 = false := hl
              subst e
              have d11 : l11 = true := ready_on hi 11 (by kernel_rfl)
              subst d11
              have z13 : l13 = false := by
                cases hz : l13
                · rfl
                · exact absurd (h.d13_12 hz) (by simp)
              subst z13
              have z14 : l14 = false := by
                cases hz : l14
                · rfl
                · exact absurd (h.d14_12 hz) (by simp)
              subst z14
              refine wpOp_run (v := u66) (w' := x) (by rfl) (by rfl) ?_ (hK _ _ ⟨l0, l1, l2, l3, l4, l5, l6, l7, l8, l9, l10, true, true, false, false, l15, l16, l17, u9, u10, (u66), u55, u56, u57, u58, u59, u60, u61, u62, u63, u64, u65, u66, u67, u68, (q), rfl, rfl, { h with q54 := (fun _ => rfl), d12_11 := fun _ => rfl, d13_12 := fun _ => rfl, d14_12 := fun _ => rfl }⟩)
              go_simp
            · have e : l13 = false := hl
              subst e
              have d12 : l12 = true := ready_on hi 12 (by kernel_rfl)
              subst d12
              have z16 : l16 = false := by
                cases hz : l16
                · rfl
                · exact absurd (h.d16_13 hz) (by simp)
              subst z16
              refine wpOp_run (v := ledV q R.1) (w' := x) (by rfl) (by rfl) ?_ (hK _ _ ⟨l0, l1, l2, l3, l4, l5, l6, l7, l8, l9, l10, l11, true, true, l14, l15, false, l17, u9, u10, u54, u55, u56, u57, u58, u59, u60, u61, u62, u63, u64, u65, u66, (ledV q R.1), u68, (q), rfl, rfl, { h with q67 := (fun _ => rfl), d13_12 := fun _ => rfl, d13_11 := fun _ => h.d12_11 rfl, d16_13 := fun _ => rfl }⟩)
              rw [h.q54 rfl, h.q66 (h.d12_11 rfl)]
              unfold ledV
              go_simp
            · have e : l14 = false := hl
              subst e
              have d12 : l12 = true := ready_on hi 12 (by kernel_rfl)
              subst d12
              refine wpOp_run (v := .int .i64 R.2) (w' := x) (by rfl) (by rfl) ?_ (hK _ _ ⟨l0, l1, l2, l3, l4, l5, l6, l7, l8, l9, l10, l11, true, l13, true, l15, l16, l17, u9, u10, u54, u55, u56, u57, u58, u59, u60, u61, u62, u63, u64, u65, u66, u67, (.int .i64 R.2), (q), rfl, rfl, { h with q68 := (fun _ => rfl), d14_12 := fun _ => rfl, d14_11 := fun _ => h.d12_11 rfl }⟩)
              rw [h.q54 rfl, h.q66 (h.d12_11 rfl)]
              go_simp
            · have e : l15 = false := hl
              subst e
              have z16 : l16 = false := by
                cases hz : l16
                · rfl
                · exact absurd (h.d16_15 hz) (by simp)
              subst z16
              refine wpOp_run (v := .pointer (some ⟨x.heap.size, 0, none⟩)) (w' := x.alloc (.cells #[.slice none 0 0, .slice none 0 0, .slice none 0 0] 28)) (by rfl) (by rfl) ?_ (hK _ _ ⟨l0, l1, l2, l3, l4, l5, l6, l7, l8, l9, l10, l11, l12, l13, l14, true, false, l17, (.pointer (some ⟨x.heap.size, 0, none⟩)), u10, u54, u55, u56, u57, u58, u59, u60, u61, u62, u63, u64, u65, u66, u67, u68, (q), rfl, rfl, { h with z9 := (fun _ => rfl), pool := (h.pool.newBlk (i := 10) rfl [.slice none 0 0, .slice none 0 0, .slice none 0 0] 28), d16_15 := fun _ => rfl }⟩)
              go_simp
            · have e : l16 = false := hl
              subst e
              have d0 : l0 = true := ready_on hi 0 (by kernel_rfl)
              subst d0
              have d1 : l1 = true := ready_on hi 1 (by kernel_rfl)
              subst d1
              have d2 : l2 = true := ready_on hi 2 (by kernel_rfl)
              subst d2
              have d3 : l3 = true := ready_on hi 3 (by kernel_rfl)
              subst d3
              have d4 : l4 = true := ready_on hi 4 (by kernel_rfl)
              subst d4
              have d5 : l5 = true := ready_on hi 5 (by kernel_rfl)
              subst d5
              have d6 : l6 = true := ready_on hi 6 (by kernel_rfl)
              subst d6
              have d7 : l7 = true := ready_on hi 7 (by kernel_rfl)
              subst d7
              have d8 : l8 = true := ready_on hi 8 (by kernel_rfl)
              subst d8
              have d9 : l9 = true := ready_on hi 9 (by kernel_rfl)
              subst d9
              have d10 : l10 = true := ready_on hi 10 (by kernel_rfl)
              subst d10
              have d11 : l11 = true := ready_on hi 11 (by kernel_rfl)
              subst d11
              have d12 : l12 = true := ready_on hi 12 (by kernel_rfl)
              subst d12
              have d13 : l13 = true := ready_on hi 13 (by kernel_rfl)
              subst d13
              have d15 : l15 = true := ready_on hi 15 (by kernel_rfl)
              subst d15
              have A := h.pool.blkAt (i := 10) rfl
              have t0 := A.c 0 _ rfl
              have f0 := A.f 0
              have t1 := A.c 1 _ rfl
              have f1 := A.f 1
              have t2 := A.c 2 _ rfl
              have f2 := A.f 2
              refine wpOp_skip (w' := (((x.setCell ⟨ptB u9, 0, none⟩ (.slice q.aa R.1.acc.length q.ca)).setCell ⟨ptB u9, 1, none⟩ (.slice q.ha R.1.hold.length q.ch)).setCell ⟨ptB u9, 2, none⟩ (.slice q.sa R.1.seen.length q.cs))) (by rfl) (by rfl) ?_ (hK _ _ ⟨true, true, true, true, true, true, true, true, true, true, true, true, true, true, l14, true, true, l17, u9, u10, u54, u55, u56, u57, u58, u59, u60, u61, u62, u63, u64, u65, u66, u67, u68, (q), rfl, rfl, { h with pool := ((((h.pool.setBlk (i := 10) rfl 0 (.slice q.aa R.1.acc.length q.ca) (by simp)).setBlk (i := 10) rfl 1 (.slice q.ha R.1.hold.length q.ch) (by simp)).setBlk (i := 10) rfl 2 (.slice q.sa R.1.seen.length q.cs) (by simp))), d16_15 := fun _ => rfl, d16_13 := fun _ => rfl, d16_11 := fun _ => rfl }⟩)
              rw [h.z9 rfl, h.q67 rfl]
              unfold ledV
              go_simp
              rfl
            · have e : l17 = false := hl
              subst e
              have d0 : l0 = true := ready_on hi 0 (by kernel_rfl)
              subst d0
              have d1 : l1 = true := ready_on hi 1 (by kernel_rfl)
              subst d1
              have d2 : l2 = true := ready_on hi 2 (by kernel_rfl)
              subst d2
              have d3 : l3 = true := ready_on hi 3 (by kernel_rfl)
              subst d3
              have d4 : l4 = true := ready_on hi 4 (by kernel_rfl)
              subst d4
              have d5 : l5 = true := ready_on hi 5 (by kernel_rfl)
              subst d5
              have d6 : l6 = true := ready_on hi 6 (by kernel_rfl)
              subst d6
              have d7 : l7 = true := ready_on hi 7 (by kernel_rfl)
              subst d7
              have d8 : l8 = true := ready_on hi 8 (by kernel_rfl)
              subst d8
              have d9 : l9 = true := ready_on hi 9 (by kernel_rfl)
              subst d9
              have d10 : l10 = true := ready_on hi 10 (by kernel_rfl)
              subst d10
              have d11 : l11 = true := ready_on hi 11 (by kernel_rfl)
              subst d11
              have d12 : l12 = true := ready_on hi 12 (by kernel_rfl)
              subst d12
              have d13 : l13 = true := ready_on hi 13 (by kernel_rfl)
              subst d13
              have d14 : l14 = true := ready_on hi 14 (by kernel_rfl)
              subst d14
              have d15 : l15 = true := ready_on hi 15 (by kernel_rfl)
              subst d15
              have d16 : l16 = true := ready_on hi 16 (by kernel_rfl)
              subst d16
              refine wpOp_run (v := .int .i64 R.2) (w' := x) (by rfl) (by rfl) ?_ (hK _ _ ⟨true, true, true, true, true, true, true, true, true, true, true, true, true, true, true, true, true, true, u9, (.int .i64 R.2), u54, u55, u56, u57, u58, u59, u60, u61, u62, u63, u64, u65, u66, u67, u68, (q), rfl, rfl, { h with q10 := (fun _ => rfl) }⟩)
              rw [h.q68 rfl]
              go_simp
          · rintro L act x ⟨l0, l1, l2, l3, l4, l5, l6, l7, l8, l9, l10, l11, l12, l13, l14, l15, l16, l17, u9, u10, u54, u55, u56, u57, u58, u59, u60, u61, u62, u63, u64, u65, u66, u67, u68, q, rfl, rfl, h⟩ hr
            have hall := ready_all hr rfl (by decide)
            have t0 : l0 = true := hall 0 (by decide)
            have t1 : l1 = true := hall 1 (by decide)
            have t2 : l2 = true := hall 2 (by decide)
            have t3 : l3 = true := hall 3 (by decide)
            have t4 : l4 = true := hall 4 (by decide)
            have t5 : l5 = true := hall 5 (by decide)
            have t6 : l6 = true := hall 6 (by decide)
            have t7 : l7 = true := hall 7 (by decide)
            have t8 : l8 = true := hall 8 (by decide)
            have t9 : l9 = true := hall 9 (by decide)
            have t10 : l10 = true := hall 10 (by decide)
            have t11 : l11 = true := hall 11 (by decide)
            have t12 : l12 = true := hall 12 (by decide)
            have t13 : l13 = true := hall 13 (by decide)
            have t14 : l14 = true := hall 14 (by decide)
            have t15 : l15 = true := hall 15 (by decide)
            have t16 : l16 = true := hall 16 (by decide)
            have t17 : l17 = true := hall 17 (by decide)
            subst t0 t1 t2 t3 t4 t5 t6 t7 t8 t9 t10 t11 t12 t13 t14 t15 t16 t17
            clear hall hr
            have hp := h.pool
            have e9 := h.z9 rfl
            have e10 := h.q10 rfl
            have eq := h.qq rfl
            obtain ⟨B9, hB9⟩ : ∃ B9, B9 = ptB u9 := ⟨_, rfl⟩
            rw [← hB9] at hp e9
            have HEQ : Hid _ := hide eq
            have HPE : Hid (Pool [] w [[blk w.heap.size (ledC p D)], [blk (w.heap.size + 1) c.cells], [blk (w.heap.size + 1 + 1) [.slice none 0 0, .slice none 0 0, .slice none 0 0]], [orow 4 accCells aa ca D.acc], [orow 4 hldCells ha ch D.hold], [orow 2 snCells sa cs D.seen], [blk w7.heap.size [.slice aa D.acc.length ca, .slice a9 N.length c9, .slice sa D.seen.length cs]], [orow 4 hldCells a9 c9 N], [blk (w7.heap.size + 1) (hldCells g)], payL q R, [blk B9 (ledC q R.1)]] x) := hide hp
            clear h hp eq hB9
            rw [e9, e10]
            clear e9 e10
            refine hK0 _ _ ?_
            by_cases hzr : R.2 = 0
            · have hzr' : (R.2 != 0) = false := by simp [hzr]
              have HM : Hid (endM D c = (R.1, 0)) := hide (by unfold endM; rw [← HOO.out]; simp only; rw [if_neg HKD.out, HEI.out, HEJ.out]; simp only; rw [← HNN.out, ← HRR.out, if_pos hzr])
              have HZ : Hid (R.2 = 0) := hide hzr
              clear hzr
              have m0 := (HPE.out.blkAt (i := 10) rfl).c 0 _ rfl
              have m1 := (HPE.out.blkAt (i := 10) rfl).c 1 _ rfl
              have m2 := (HPE.out.blkAt (i := 10) rfl).c 2 _ rfl
              have r0 := (HPE.out.blkAt (i := 2) rfl).c 0 _ rfl
              have fr0 := (HPE.out.blkAt (i := 2) rfl).f 0
              have r1 := (HPE.out.blkAt (i := 2) rfl).c 1 _ rfl
              have fr1 := (HPE.out.blkAt (i := 2) rfl).f 1
              have r2 := (HPE.out.blkAt (i := 2) rfl).c 2 _ rfl
              have fr2 := (HPE.out.blkAt (i := 2) rfl).f 2
              have HQ : Hid _ := hide (((HPE.out.setBlk (i := 2) rfl 0 (.slice q.aa R.1.acc.length q.ca) (by simp)).setBlk (i := 2) rfl 1 (.slice q.ha R.1.hold.length q.ch) (by simp)).setBlk (i := 2) rfl 2 (.slice q.sa R.1.seen.length q.cs) (by simp))
              go_wp2
              refine name_post9 (fun W9 hW9 => ?_)
              have hq := HQ.out
              rw [← hW9] at hq
              have z_ := hq.blkAt (i := 2) rfl
              have g0_ := z_.c 0 _ rfl
              have g1_ := z_.c 1 _ rfl
              have g2_ := z_.c 2 _ rfl
              exact bodyPost_ret (v := .tuple #[.agg #[.slice q.aa R.1.acc.length q.ca, .slice q.ha R.1.hold.length q.ch, .slice q.sa R.1.seen.length q.cs], .int .i64 (0)]) (by simp [results, Tryz.results105, go_sem, g0_, g1_, g2_]) rfl ⟨q, by rw [HM.out]; rfl, hq.below, fun z => by rw [HM.out] at z; exact absurd rfl z, fun _ => by
                rw [HM.out]
                refine ⟨HEQ.out.2 HZ.out, ?_⟩
                have hq2 := ((((((((((hq.drop (i := 10) rfl).drop (i := 8) rfl).drop (i := 7) rfl).drop (i := 6) rfl).drop (i := 5) rfl).drop (i := 4) rfl).drop (i := 3) rfl).drop (i := 2) rfl).drop (i := 1) rfl).drop (i := 0) rfl)
                exact hq2.cast (by simp [payL, HZ.out])⟩
            · have hzr' : (R.2 != 0) = true := by simp [hzr]
              have HM : Hid (endM D c = (D, R.2)) := hide (by unfold endM; rw [← HOO.out]; simp only; rw [if_neg HKD.out, HEI.out, HEJ.out]; simp only; rw [← HNN.out, ← HRR.out, if_neg hzr])
              have HZ : Hid (¬ R.2 = 0) := hide hzr
              clear hzr
              have d0 := (HPE.out.blkAt (i := 0) rfl).c 0 _ rfl
              have d1 := (HPE.out.blkAt (i := 0) rfl).c 1 _ rfl
              have d2 := (HPE.out.blkAt (i := 0) rfl).c 2 _ rfl
              have r0 := (HPE.out.blkAt (i := 2) rfl).c 0 _ rfl
              have fr0 := (HPE.out.blkAt (i := 2) rfl).f 0
              have r1 := (HPE.out.blkAt (i := 2) rfl).c 1 _ rfl
              have fr1 := (HPE.out.blkAt (i := 2) rfl).f 1
              have r2 := (HPE.out.blkAt (i := 2) rfl).c 2 _ rfl
              have fr2 := (HPE.out.blkAt (i := 2) rfl).f 2
              have HQ : Hid _ := hide (((HPE.out.setBlk (i := 2) rfl 0 (.slice p.aa D.acc.length p.ca) (by simp)).setBlk (i := 2) rfl 1 (.slice p.ha D.hold.length p.ch) (by simp)).setBlk (i := 2) rfl 2 (.slice p.sa D.seen.length p.cs) (by simp))
              go_wp2
              refine name_post9 (fun W9 hW9 => ?_)
              have hq := HQ.out
              rw [← hW9] at hq
              have z_ := hq.blkAt (i := 2) rfl
              have g0_ := z_.c 0 _ rfl
              have g1_ := z_.c 1 _ rfl
              have g2_ := z_.c 2 _ rfl
              exact bodyPost_ret (v := .tuple #[.agg #[.slice p.aa D.acc.length p.ca, .slice p.ha D.hold.length p.ch, .slice p.sa D.seen.length p.cs], .int .i64 (R.2)]) (by simp [results, Tryz.results105, go_sem, g0_, g1_, g2_]) rfl ⟨p, by rw [HM.out]; rfl, hq.below, fun _ => rfl, fun z => by rw [HM.out] at z; exact absurd z HZ.out⟩
end Go.Proofs.YteaopalhbnhbaaaGreatDoor
