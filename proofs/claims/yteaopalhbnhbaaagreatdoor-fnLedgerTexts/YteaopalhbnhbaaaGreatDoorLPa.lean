/- The model's l2Pay: an amount from one account to another one. -/
import Derived.Test.YteaopalhbnhbaaaGreatDoorLSe
namespace Go.Proofs.YteaopalhbnhbaaaGreatDoor
open Go.ChangeShapes Go.WideShapes Go.ChangeAt Go.RowKit
set_option linter.unusedVariables false
set_option maxRecDepth 100000
/-- one element of an own row is turned at one cell -/
theorem own_turn {A : Type} {sz : Nat} {f : A → List Value} (hf : ∀ x, (f x).length = sz) {w : World} {g : Nat} {a : Option Addr} {cap : Nat} {l : List A} {i r : Nat} {u : Value} (h : OwnRow sz f w g a cap l) (hi : i < l.length) (p : A) (hr : r < sz) (hc : ∀ r' v, (f p)[r']? = some v → (r' = r ∧ v = u) ∨ (r' ≠ r ∧ (f l[i])[r']? = some v)) : OwnRow sz f (w.setCell ⟨g, i * sz + r, none⟩ u) g a cap (l.set i p) := by
  refine h.set hf hi hr (by simp) (fun k hk hk' r' v hv => ?_)
  by_cases e : i = k
  · subst e
    simp only [List.getElem_set_self] at hv
    rcases hc r' v hv with ⟨h1, h2⟩ | ⟨h1, h2⟩
    · exact .inl ⟨rfl, h1, h2⟩
    · exact .inr ⟨fun q => h1 q.2, h2⟩
  · rw [List.getElem_set_ne e] at hv
    exact .inr ⟨fun q => e q.1.symm, hv⟩
theorem setP_at {l : List Acc} {i : Nat} (hi : i < l.length) (d : Int) : setP l i d = l.set i (postA l[i] d) := by simp [setP, List.getElem?_eq_getElem hi]
theorem setP_len (l : List Acc) (i : Nat) (d : Int) : (setP l i d).length = l.length := by unfold setP; split <;> simp
theorem payA_len (l : List Acc) (i j : Nat) (am : Int) : (payA l i j am).length = l.length := by unfold payA; rw [setP_len, setP_len]
/-- what an account has Posted is written anew -/
theorem Pool.setPost {F : List Nat} {w x : World} {S : List (List Rs)} (h : Pool F w S x) {k i : Nat} {a : Option Addr} {cap : Nat} {l : List Acc} (hk : S[k]? = some [orow 4 accCells a cap l]) (hi : i < l.length) (d : Int) : Pool F w (S.set k [orow 4 accCells a cap (setP l i d)]) (x.setCell ⟨gOf a, i * 4 + 3, none⟩ (.int .i64 (l[i].posted + d))) := by
  have o := own_turn accLen (h.orowAt hk) hi (r := 3) (u := .int .i64 (l[i].posted + d)) (postA l[i] d) (by decide) (fun r v hv => by
    match r, hv with
    | 0, hv => simp [accCells, postA] at hv; exact .inr ⟨by omega, by simp [accCells, hv]⟩
    | 1, hv => simp [accCells, postA] at hv; exact .inr ⟨by omega, by simp [accCells, hv]⟩
    | 2, hv => simp [accCells, postA] at hv; exact .inr ⟨by omega, by simp [accCells, hv]⟩
    | 3, hv => simp [accCells, postA] at hv; exact .inl ⟨rfl, hv.symm⟩)
  rw [setP_at hi]
  have hsh := h.shpAt hk
  have hm : gOf a ∈ fps [orow 4 accCells a cap l] := by
    rcases id hsh with ⟨_, _, z⟩ | ⟨g, cur, T, rfl, _⟩
    · omega
    · rw [fps_one, orow_fp]; simp [Value.ownBlock, gOf]
  refine h.step hk ((Fr.refl _ _).set (.inl hm)) (Star.ofOwn (by have := hsh.set (gOf a) (i * 4 + 3) (.int .i64 (l[i].posted + d)); simpa using this) o) (fun b hb => .inl ?_)
  rw [fps_one] at hb ⊢
  obtain ⟨_, rfl⟩ := orow_mem hb
  rw [fps_one] at hm
  exact hm
/-- what pay tells: where it refuses the same slices; else a ledger of its own -/
def MoveEnd (p : LP) (D : Led) (R : Led × Int) (w : World) (e : Ending) (w' : World) : Prop := ∃ q : LP, e = .returned (.tuple #[ledV q R.1, .int .i64 R.2]) ∧ Below w.heap.size w w' ∧ (R.2 ≠ 0 → q = p) ∧ (R.2 = 0 → PlOk q R.1 ∧ Pool [] w [ledL q R.1] w')
theorem postA_wf {x : Acc} {d : Int} (h : AccW x) (hp : -2000000000000 ≤ x.posted ∧ x.posted ≤ 2000000000000) (hd : -1000000000000 ≤ d ∧ d ≤ 1000000000000) : AccW (postA x d) := ⟨h.1, h.2.1, h.2.2.1, by unfold I64 postA; simp only; omega⟩
theorem setP_mem {l : List Acc} {i : Nat} {d : Int} {P : Acc → Prop} (h : ∀ x ∈ l, P x) (hp : ∀ x, P x → P (postA x d)) : ∀ x ∈ setP l i d, P x := by
  intro x hx
  unfold setP at hx
  split at hx
  · exact h x hx
  · rename_i y hy
    rcases List.mem_or_eq_of_mem_set hx with q | q
    · exact h x q
    · rw [q]; exact hp _ (h y (List.mem_of_getElem? hy))
theorem setP_mem2 {l : List Acc} {i : Nat} {d : Int} {P Q : Acc → Prop} (h : ∀ x ∈ l, P x) (h1 : ∀ x, P x → Q x) (hp : ∀ x, P x → Q (postA x d)) : ∀ x ∈ setP l i d, Q x := by
  intro x hx
  unfold setP at hx
  split at hx
  · exact h1 x (h x hx)
  · rename_i y hy
    rcases List.mem_or_eq_of_mem_set hx with q | q
    · exact h1 x (h x q)
    · rw [q]; exact hp _ (h y (List.mem_of_getElem? hy))
theorem payA_wf {l : List Acc} {i j : Nat} {am : Int} (h : ∀ x ∈ l, AccW x) (hs : ∀ x ∈ l, -1000000000000 ≤ x.posted ∧ x.posted ≤ 1000000000000) (hl : ∀ x ∈ l, -1 ≤ x.limit ∧ x.limit ≤ 1000000000000) (ha : 0 ≤ am ∧ am ≤ 1000000000000) : (∀ x ∈ payA l i j am, AccW x) ∧ ∀ x ∈ payA l i j am, -1 ≤ x.limit ∧ x.limit ≤ 1000000000000 := by
  unfold payA
  constructor
  · have q := setP_mem2 (i := i) (d := -am) (P := fun x => AccW x ∧ -1000000000000 ≤ x.posted ∧ x.posted ≤ 1000000000000) (Q := fun x => AccW x ∧ -2000000000000 ≤ x.posted ∧ x.posted ≤ 2000000000000) (fun x hx => ⟨h x hx, hs x hx⟩) (fun x hx => ⟨hx.1, by omega⟩) (fun x hx => ⟨postA_wf hx.1 (by omega) (by omega), by unfold postA; simp only; omega⟩)
    exact setP_mem2 (P := fun x => AccW x ∧ -2000000000000 ≤ x.posted ∧ x.posted ≤ 2000000000000) (Q := AccW) q (fun x hx => hx.1) (fun x hx => postA_wf hx.1 hx.2 (by omega))
  · exact setP_mem (setP_mem hl (fun x hx => hx)) (fun x hx => hx)
structure PyF (p : LP) (D : Led) (s M g ca : Nat) (ha : Option Addr) (ch : Nat) (sa : Option Addr) (cs : Nat) (i : Nat) (d am : Int) (A : List Acc) (hA : i < A.length) (w : World) (l0 l1 l2 l3 l4 l5 l6 l7 l8 l9 l10 l11 l12 l13 : Bool) (u13 u14 u15 u16 u17 u18 u19 u20 u21 u22 u23 u24 u25 : Value) (x : World) : Prop where
  pool : Pool [] w [[blk s (ledC p D)], [blk (s + 1) [.slice none 0 0, .slice none 0 0, .slice none 0 0]], [blk M [.slice (some ⟨g, 0, none⟩) D.acc.length ca, .slice ha D.hold.length ch, .slice sa D.seen.length cs]], cond l13 [orow 4 accCells (some ⟨g, 0, none⟩) ca (setP A i d)] [orow 4 accCells (some ⟨g, 0, none⟩) ca A], [orow 4 hldCells ha ch D.hold], [orow 2 snCells sa cs D.seen]] x
  d13_8 : l13 = true → l8 = true
  p13 : l0 = true → u13 = .pointer (some ⟨M, 0, none⟩)
  p16 : l3 = true → u16 = .pointer (some ⟨M, 0, none⟩)
  p14 : l1 = true → u14 = .slice (some ⟨g, 0, none⟩) D.acc.length ca
  p17 : l4 = true → u17 = .slice (some ⟨g, 0, none⟩) D.acc.length ca
  p15 : l2 = true → u15 = .int .i64 (i : Int)
  p18 : l5 = true → u18 = .int .i64 (i : Int)
  p19 : l6 = true → u19 = .pointer (some ⟨g, i * 4, none⟩)
  p24 : l11 = true → u24 = .pointer (some ⟨g, i * 4, none⟩)
  p20 : l7 = true → u20 = .pointer (some ⟨g, i * 4 + 3, none⟩)
  p25 : l12 = true → u25 = .pointer (some ⟨g, i * 4 + 3, none⟩)
  p22 : l9 = true → u22 = .int .i64 am
  p21 : l8 = true → u21 = .int .i64 (A[i].posted)
  p23 : l10 = true → u23 = .int .i64 (A[i].posted + d)
structure PzF (p : LP) (D : Led) (s M g ca : Nat) (ha : Option Addr) (ch : Nat) (sa : Option Addr) (cs : Nat) (j : Nat) (d am : Int) (A : List Acc) (hA : j < A.length) (w : World) (l0 l1 l2 l3 l4 l5 l6 l7 l8 l9 l10 l11 l12 l13 : Bool) (u26 u27 u28 u29 u30 u31 u32 u33 u34 u35 u36 u37 u38 : Value) (x : World) : Prop where
  pool : Pool [] w [[blk s (ledC p D)], [blk (s + 1) [.slice none 0 0, .slice none 0 0, .slice none 0 0]], [blk M [.slice (some ⟨g, 0, none⟩) D.acc.length ca, .slice ha D.hold.length ch, .slice sa D.seen.length cs]], cond l13 [orow 4 accCells (some ⟨g, 0, none⟩) ca (setP A j d)] [orow 4 accCells (some ⟨g, 0, none⟩) ca A], [orow 4 hldCells ha ch D.hold], [orow 2 snCells sa cs D.seen]] x
  d13_8 : l13 = true → l8 = true
  p26 : l0 = true → u26 = .pointer (some ⟨M, 0, none⟩)
  p29 : l3 = true → u29 = .pointer (some ⟨M, 0, none⟩)
  p27 : l1 = true → u27 = .slice (some ⟨g, 0, none⟩) D.acc.length ca
  p30 : l4 = true → u30 = .slice (some ⟨g, 0, none⟩) D.acc.length ca
  p28 : l2 = true → u28 = .int .i64 (j : Int)
  p31 : l5 = true → u31 = .int .i64 (j : Int)
  p32 : l6 = true → u32 = .pointer (some ⟨g, j * 4, none⟩)
  p37 : l11 = true → u37 = .pointer (some ⟨g, j * 4, none⟩)
  p33 : l7 = true → u33 = .pointer (some ⟨g, j * 4 + 3, none⟩)
  p38 : l12 = true → u38 = .pointer (some ⟨g, j * 4 + 3, none⟩)
  p35 : l9 = true → u35 = .int .i64 am
  p34 : l8 = true → u34 = .int .i64 (A[j].posted)
  p36 : l10 = true → u36 = .int .i64 (A[j].posted + d)
set_option maxHeartbeats 8000000 in
theorem l2Pay_any (p : LP) (D : Led) (i j : Nat) (am : Int) (w : World) (n1 : SmallA D.acc) (n2 : SmallH D.hold) (n3 : D.seen.length ≤ 1048576) (hlim : ∀ x ∈ D.acc, -1 ≤ x.limit ∧ x.limit ≤ 1000000000000) (hi : i < D.acc.length) (hj : j < D.acc.length) (ham : 0 ≤ am ∧ am ≤ 1000000000000) (hpk : PlOk p D) (h : LedAt w p.aa p.ha p.sa D) :
    Calls Tryz.prog 117 #[ledV p D, .int .i64 (i : Int), .int .i64 (j : Int), .int .i64 am] w fun e w' => MoveEnd p D (payM D i j am) w e w' := by
  have HL : Hid _ := hide h
  have HK : Hid _ := hide hpk
  have HN1 : Hid _ := hide n1
  have HN2 : Hid _ := hide n2
  have HLI : Hid _ := hide hlim
  have hn1 : D.acc.length ≤ 12 := n1.1
  have hn2 : D.hold.length ≤ 10 := n2.1
  obtain ⟨am0, am1⟩ := ham
  obtain ⟨W2, hW2⟩ : ∃ W2, W2 = (w.alloc (.cells #[.slice p.aa D.acc.length p.ca, .slice p.ha D.hold.length p.ch, .slice p.sa D.seen.length p.cs] 28)).alloc (.cells #[.slice none 0 0, .slice none 0 0, .slice none 0 0] 28) := ⟨_, rfl⟩
  have HP0 : Hid (Pool [] w [[blk w.heap.size (ledC p D)], [blk (w.heap.size + 1) [.slice none 0 0, .slice none 0 0, .slice none 0 0]], [], [], [], []] W2) := hide (by
    have p1 := (Pool.start w [[], [], [], [], [], []] rfl).newBlk (i := 0) rfl (ledC p D) 28
    have s1 : (w.alloc (.cells (ledC p D).toArray 28)).heap.size = w.heap.size + 1 := by simp
    have p2 := p1.newBlk (i := 1) rfl [.slice none 0 0, .slice none 0 0, .slice none 0 0] 28
    rw [s1] at p2
    rw [hW2]
    exact p2)
  have HW2 : Hid (_ = W2) := hide hW2.symm
  clear hW2 h hpk n1 n2 hlim
  unfold ledV
  go_enter Tryz.func117, Tryz.ntmps117
  go_upto_region 1 with fail
  rw [HW2.out]
  have d0 := (HP0.out.blkAt (i := 0) rfl).c 0 _ rfl
  have d1 := (HP0.out.blkAt (i := 0) rfl).c 1 _ rfl
  have d2 := (HP0.out.blkAt (i := 0) rfl).c 2 _ rfl
  go_wp2_with fail
  refine (l2Copy_any p D W2 (by omega) (by omega) n3 HK.out (HL.out.below HP0.out.below)).mono ?_
  rintro e w3 ⟨⟨aa, ca, ha, ch, sa, cs⟩, rfl, hqk, hp3⟩
  have HQK : Hid _ := hide hqk
  have HP3 : Hid (Pool [] w [[blk w.heap.size (ledC p D)], [blk (w.heap.size + 1) [.slice none 0 0, .slice none 0 0, .slice none 0 0]], [], [orow 4 accCells aa ca D.acc], [orow 4 hldCells ha ch D.hold], [orow 2 snCells sa cs D.seen]] w3) := hide (by
    have q := HP0.out.call (i := 3) rfl (rs' := ledL ⟨aa, ca, ha, ch, sa, cs⟩ D) (hp3.cast (by simp))
    exact q.cast (by simp [ledL]))
  clear hqk hp3 HP0 d0 d1 d2
  obtain ⟨g, rfl⟩ : ∃ g, aa = some ⟨g, 0, none⟩ := ⟨_, ((HP3.out.orowAt (i := 3) rfl).own (by omega)).1⟩
  have HM : Hid (ledC ⟨some ⟨g, 0, none⟩, ca, ha, ch, sa, cs⟩ D = [.slice (some ⟨g, 0, none⟩) D.acc.length ca, .slice ha D.hold.length ch, .slice sa D.seen.length cs]) := hide rfl
  unfold ledV
  go_upto_region 2 with fail
  refine name_world9 (fun W4 hW4 => ?_)
  have HP4 : Hid (Pool [] w [[blk w.heap.size (ledC p D)], [blk (w.heap.size + 1) [.slice none 0 0, .slice none 0 0, .slice none 0 0]], [blk w3.heap.size [.slice (some ⟨g, 0, none⟩) D.acc.length ca, .slice ha D.hold.length ch, .slice sa D.seen.length cs]], [orow 4 accCells (some ⟨g, 0, none⟩) ca D.acc], [orow 4 hldCells ha ch D.hold], [orow 2 snCells sa cs D.seen]] W4) := hide (by rw [hW4]; exact HP3.out.newBlk (i := 2) rfl [.slice (some ⟨g, 0, none⟩) D.acc.length ca, .slice ha D.hold.length ch, .slice sa D.seen.length cs] 28)
  clear hW4 HP3 HM
  have hi' : (i : Int) < (D.acc.length : Int) := by omega
  have hj' : (j : Int) < (D.acc.length : Int) := by omega
  rename_i K0 hK0
  have hA2 : i < D.acc.length := hi
  have Hb2 : Hid (-1000000000000 ≤ (D.acc)[i].posted ∧ (D.acc)[i].posted ≤ 1000000000000) := hide (HN1.out.2 _ (List.getElem_mem hi))
  refine wp_region_inv (by kernel_rfl) (fun L act x => ∃ l0 l1 l2 l3 l4 l5 l6 l7 l8 l9 l10 l11 l12 l13 : Bool, ∃ u13 u14 u15 u16 u17 u18 u19 u20 u21 u22 u23 u24 u25 : Value, L = #[l0, l1, l2, l3, l4, l5, l6, l7, l8, l9, l10, l11, l12, l13] ∧ act = { tmps := #[Value.agg #[Value.slice p.aa D.acc.length p.ca, Value.slice p.ha D.hold.length p.ch, Value.slice p.sa D.seen.length p.cs], Value.int IntKind.i64 ↑i, Value.int IntKind.i64 ↑j, Value.int IntKind.i64 am, Value.pointer (some { block := w.heap.size, off := 0 }), undef, undef, undef, Value.pointer (some { block := w.heap.size + 1, off := 0 }), Value.int IntKind.i64 0, Value.pointer (some { block := w3.heap.size, off := 0 }), Value.agg #[Value.slice p.aa D.acc.length p.ca, Value.slice p.ha D.hold.length p.ch, Value.slice p.sa D.seen.length p.cs], Value.agg #[Value.slice (some { block := g, off := 0 }) D.acc.length ca, Value.slice ha D.hold.length ch, Value.slice sa D.seen.length cs], u13, u14, u15, u16, u17, u18, u19, u20, u21, u22, u23, u24, u25, undef, undef, undef, undef, undef, undef, undef, undef, undef, undef, undef, undef, undef, undef, undef, undef, undef, undef, undef, undef, undef, undef, undef, undef, undef, undef, undef, undef, undef, undef, undef, undef, undef, undef, undef, undef, undef, undef], defers := [] } ∧ PyF p D w.heap.size w3.heap.size g ca ha ch sa cs i (-am) am (D.acc) hA2 w l0 l1 l2 l3 l4 l5 l6 l7 l8 l9 l10 l11 l12 l13 u13 u14 u15 u16 u17 u18 u19 u20 u21 u22 u23 u24 u25 x) ?_ ?_ ?_
  rotate_left 2
  · exact ⟨false, false, false, false, false, false, false, false, false, false, false, false, false, false, (undef), (undef), (undef), (undef), (undef), (undef), (undef), (undef), (undef), (undef), (undef), (undef), (undef), rfl, rfl, ⟨HP4.out.drew, fun q => (by cases q), fun q => (by cases q), fun q => (by cases q), fun q => (by cases q), fun q => (by cases q), fun q => (by cases q), fun q => (by cases q), fun q => (by cases q), fun q => (by cases q), fun q => (by cases q), fun q => (by cases q), fun q => (by cases q), fun q => (by cases q), fun q => (by cases q)⟩⟩
  · rintro L act x i ⟨l0, l1, l2, l3, l4, l5, l6, l7, l8, l9, l10, l11, l12, l13, u13, u14, u15, u16, u17, u18, u19, u20, u21, u22, u23, u24, u25, rfl, rfl, h⟩ hi K hK
    have hi15 : i < 14 := by
      obtain ⟨_, o, ho, _⟩ := mem_ready.1 hi
      exact (Array.getElem?_eq_some_iff.1 ho).1
    have hl := (mem_ready.1 hi).1
    obtain rfl | rfl | rfl | rfl | rfl | rfl | rfl | rfl | rfl | rfl | rfl | rfl | rfl | rfl := (by omega : i = 0 ∨ i = 1 ∨ i = 2 ∨ i = 3 ∨ i = 4 ∨ i = 5 ∨ i = 6 ∨ i = 7 ∨ i = 8 ∨ i = 9 ∨ i = 10 ∨ i = 11 ∨ i = 12 ∨ i = 13)
    · have e : l0 = false := hl
      subst e
      refine wpOp_run (v := .pointer (some ⟨w3.heap.size, 0, none⟩)) (w' := x) (by rfl) (by rfl) ?_ (hK _ _ ⟨true, l1, l2, l3, l4, l5, l6, l7, l8, l9, l10, l11, l12, l13, (.pointer (some ⟨w3.heap.size, 0, none⟩)), u14, u15, u16, u17, u18, u19, u20, u21, u22, u23, u24, u25, rfl, rfl, { h with p13 := fun _ => rfl }⟩)
      go_simp
    · have e : l1 = false := hl
      subst e
      have d0 : l0 = true := ready_on hi 0 (by kernel_rfl)
      subst d0
      have c0 : x.cell? ⟨w3.heap.size, 0, none⟩ = some (.slice (some ⟨g, 0, none⟩) D.acc.length ca) := (h.pool.blkAt (i := 2) rfl).c 0 _ rfl
      refine wpOp_run (v := .slice (some ⟨g, 0, none⟩) D.acc.length ca) (w' := x) (by rfl) (by rfl) ?_ (hK _ _ ⟨true, true, l2, l3, l4, l5, l6, l7, l8, l9, l10, l11, l12, l13, u13, (.slice (some ⟨g, 0, none⟩) D.acc.length ca), u15, u16, u17, u18, u19, u20, u21, u22, u23, u24, u25, rfl, rfl, { h with p14 := fun _ => rfl }⟩)
      rw [h.p13 rfl]
      go_simp
    · have e : l2 = false := hl
      subst e
      refine wpOp_run (v := .int .i64 (i : Int)) (w' := x) (by rfl) (by rfl) ?_ (hK _ _ ⟨l0, l1, true, l3, l4, l5, l6, l7, l8, l9, l10, l11, l12, l13, u13, u14, (.int .i64 (i : Int)), u16, u17, u18, u19, u20, u21, u22, u23, u24, u25, rfl, rfl, { h with p15 := fun _ => rfl }⟩)
      go_simp
    · have e : l3 = false := hl
      subst e
      refine wpOp_run (v := .pointer (some ⟨w3.heap.size, 0, none⟩)) (w' := x) (by rfl) (by rfl) ?_ (hK _ _ ⟨l0, l1, l2, true, l4, l5, l6, l7, l8, l9, l10, l11, l12, l13, u13, u14, u15, (.pointer (some ⟨w3.heap.size, 0, none⟩)), u17, u18, u19, u20, u21, u22, u23, u24, u25, rfl, rfl, { h with p16 := fun _ => rfl }⟩)
      go_simp
    · have e : l4 = false := hl
      subst e
      have d3 : l3 = true := ready_on hi 3 (by kernel_rfl)
      subst d3
      have c0 : x.cell? ⟨w3.heap.size, 0, none⟩ = some (.slice (some ⟨g, 0, none⟩) D.acc.length ca) := (h.pool.blkAt (i := 2) rfl).c 0 _ rfl
      refine wpOp_run (v := .slice (some ⟨g, 0, none⟩) D.acc.length ca) (w' := x) (by rfl) (by rfl) ?_ (hK _ _ ⟨l0, l1, l2, true, true, l5, l6, l7, l8, l9, l10, l11, l12, l13, u13, u14, u15, u16, (.slice (some ⟨g, 0, none⟩) D.acc.length ca), u18, u19, u20, u21, u22, u23, u24, u25, rfl, rfl, { h with p17 := fun _ => rfl }⟩)
      rw [h.p16 rfl]
      go_simp
    · have e : l5 = false := hl
      subst e
      refine wpOp_run (v := .int .i64 (i : Int)) (w' := x) (by rfl) (by rfl) ?_ (hK _ _ ⟨l0, l1, l2, l3, l4, true, l6, l7, l8, l9, l10, l11, l12, l13, u13, u14, u15, u16, u17, (.int .i64 (i : Int)), u19, u20, u21, u22, u23, u24, u25, rfl, rfl, { h with p18 := fun _ => rfl }⟩)
      go_simp
    · have e : l6 = false := hl
      subst e
      have d4 : l4 = true := ready_on hi 4 (by kernel_rfl)
      subst d4
      have d5 : l5 = true := ready_on hi 5 (by kernel_rfl)
      subst d5
      refine wpOp_run (v := .pointer (some ⟨g, i * 4, none⟩)) (w' := x) (by rfl) (by rfl) ?_ (hK _ _ ⟨l0, l1, l2, l3, true, true, true, l7, l8, l9, l10, l11, l12, l13, u13, u14, u15, u16, u17, u18, (.pointer (some ⟨g, i * 4, none⟩)), u20, u21, u22, u23, u24, u25, rfl, rfl, { h with p19 := fun _ => rfl }⟩)
      rw [h.p17 rfl, h.p18 rfl]
      go_simp
    · have e : l7 = false := hl
      subst e
      have d6 : l6 = true := ready_on hi 6 (by kernel_rfl)
      subst d6
      refine wpOp_run (v := .pointer (some ⟨g, i * 4 + 3, none⟩)) (w' := x) (by rfl) (by rfl) ?_ (hK _ _ ⟨l0, l1, l2, l3, l4, l5, true, true, l8, l9, l10, l11, l12, l13, u13, u14, u15, u16, u17, u18, u19, (.pointer (some ⟨g, i * 4 + 3, none⟩)), u21, u22, u23, u24, u25, rfl, rfl, { h with p20 := fun _ => rfl }⟩)
      rw [h.p19 rfl]
      go_simp
    · have e : l8 = false := hl
      subst e
      have d7 : l7 = true := ready_on hi 7 (by kernel_rfl)
      subst d7
      have z13 : l13 = false := by
        cases hz : l13
        · rfl
        · exact absurd (h.d13_8 hz) (by simp)
      subst z13
      have o := (h.pool.orowAt (i := 3) rfl)
      obtain ⟨b, off, ea, hb, c0, c1, c2, c3⟩ := acc_row o.rows i hA2
      simp only [Option.some.injEq, Addr.mk.injEq, and_true] at ea
      obtain ⟨rfl, rfl⟩ := ea
      rw [Nat.zero_add] at c3
      refine wpOp_run (v := .int .i64 ((D.acc)[i].posted)) (w' := x) (by rfl) (by rfl) ?_ (hK _ _ ⟨l0, l1, l2, l3, l4, l5, l6, true, true, l9, l10, l11, l12, false, u13, u14, u15, u16, u17, u18, u19, u20, (.int .i64 ((D.acc)[i].posted)), u22, u23, u24, u25, rfl, rfl, { h with p21 := (fun _ => rfl), d13_8 := fun _ => rfl }⟩)
      rw [h.p20 rfl]
      go_simp
    · have e : l9 = false := hl
      subst e
      refine wpOp_run (v := .int .i64 am) (w' := x) (by rfl) (by rfl) ?_ (hK _ _ ⟨l0, l1, l2, l3, l4, l5, l6, l7, l8, true, l10, l11, l12, l13, u13, u14, u15, u16, u17, u18, u19, u20, u21, (.int .i64 am), u23, u24, u25, rfl, rfl, { h with p22 := fun _ => rfl }⟩)
      go_simp
    · have e : l10 = false := hl
      subst e
      have d8 : l8 = true := ready_on hi 8 (by kernel_rfl)
      subst d8
      have d9 : l9 = true := ready_on hi 9 (by kernel_rfl)
      subst d9
      have b0 := Hb2.out
      refine wpOp_run (v := .int .i64 ((D.acc)[i].posted + (-am))) (w' := x) (by rfl) (by rfl) ?_ (hK _ _ ⟨l0, l1, l2, l3, l4, l5, l6, l7, true, true, true, l11, l12, l13, u13, u14, u15, u16, u17, u18, u19, u20, u21, u22, (.int .i64 ((D.acc)[i].posted + (-am))), u24, u25, rfl, rfl, { h with p23 := (fun _ => rfl) }⟩)
      rw [h.p21 rfl, h.p22 rfl]
      go_simp
      simp [IntKind.wrap, IntKind.bits, IntKind.signed]
      omega
    · have e : l11 = false := hl
      subst e
      have d0 : l0 = true := ready_on hi 0 (by kernel_rfl)
      subst d0
      have d1 : l1 = true := ready_on hi 1 (by kernel_rfl)
      subst d1
      have d2 : l2 = true := ready_on hi 2 (by kernel_rfl)
      subst d2
      have d3 : l3 = true := ready_on hi 3 (by kernel_rfl)
      subst d3
      have d4 : l4 = true := ready_on hi 4 (by kernel_rfl)
      subst d4
      have d5 : l5 = true := ready_on hi 5 (by kernel_rfl)
      subst d5
      have d6 : l6 = true := ready_on hi 6 (by kernel_rfl)
      subst d6
      have d7 : l7 = true := ready_on hi 7 (by kernel_rfl)
      subst d7
      have d8 : l8 = true := ready_on hi 8 (by kernel_rfl)
      subst d8
      have d9 : l9 = true := ready_on hi 9 (by kernel_rfl)
      subst d9
      have d10 : l10 = true := ready_on hi 10 (by kernel_rfl)
      subst d10
      refine wpOp_run (v := .pointer (some ⟨g, i * 4, none⟩)) (w' := x) (by rfl) (by rfl) ?_ (hK _ _ ⟨true, true, true, true, true, true, true, true, true, true, true, true, l12, l13, u13, u14, u15, u16, u17, u18, u19, u20, u21, u22, u23, (.pointer (some ⟨g, i * 4, none⟩)), u25, rfl, rfl, { h with p24 := fun _ => rfl }⟩)
      rw [h.p14 rfl, h.p15 rfl]
      go_simp
    · have e : l12 = false := hl
      subst e
      have d0 : l0 = true := ready_on hi 0 (by kernel_rfl)
      subst d0
      have d1 : l1 = true := ready_on hi 1 (by kernel_rfl)
      subst d1
      have d2 : l2 = true := ready_on hi 2 (by kernel_rfl)
      subst d2
      have d3 : l3 = true := ready_on hi 3 (by kernel_rfl)
      subst d3
      have d4 : l4 = true := ready_on hi 4 (by kernel_rfl)
      subst d4
      have d5 : l5 = true := ready_on hi 5 (by kernel_rfl)
      subst d5
      have d6 : l6 = true := ready_on hi 6 (by kernel_rfl)
      subst d6
      have d7 : l7 = true := ready_on hi 7 (by kernel_rfl)
      subst d7
      have d8 : l8 = true := ready_on hi 8 (by kernel_rfl)
      subst d8
      have d9 : l9 = true := ready_on hi 9 (by kernel_rfl)
      subst d9
      have d10 : l10 = true := ready_on hi 10 (by kernel_rfl)
      subst d10
      have d11 : l11 = true := ready_on hi 11 (by kernel_rfl)
      subst d11
      refine wpOp_run (v := .pointer (some ⟨g, i * 4 + 3, none⟩)) (w' := x) (by rfl) (by rfl) ?_ (hK _ _ ⟨true, true, true, true, true, true, true, true, true, true, true, true, true, l13, u13, u14, u15, u16, u17, u18, u19, u20, u21, u22, u23, u24, (.pointer (some ⟨g, i * 4 + 3, none⟩)), rfl, rfl, { h with p25 := fun _ => rfl }⟩)
      rw [h.p24 rfl]
      go_simp
    · have e : l13 = false := hl
      subst e
      have d0 : l0 = true := ready_on hi 0 (by kernel_rfl)
      subst d0
      have d1 : l1 = true := ready_on hi 1 (by kernel_rfl)
      subst d1
      have d2 : l2 = true := ready_on hi 2 (by kernel_rfl)
      subst d2
      have d3 : l3 = true := ready_on hi 3 (by kernel_rfl)
      subst d3
      have d4 : l4 = true := ready_on hi 4 (by kernel_rfl)
      subst d4
      have d5 : l5 = true := ready_on hi 5 (by kernel_rfl)
      subst d5
      have d6 : l6 = true := ready_on hi 6 (by kernel_rfl)
      subst d6
      have d7 : l7 = true := ready_on hi 7 (by kernel_rfl)
      subst d7
      have d8 : l8 = true := ready_on hi 8 (by kernel_rfl)
      subst d8
      have d9 : l9 = true := ready_on hi 9 (by kernel_rfl)
      subst d9
      have d10 : l10 = true := ready_on hi 10 (by kernel_rfl)
      subst d10
      have d12 : l12 = true := ready_on hi 12 (by kernel_rfl)
      subst d12
      have o := (h.pool.orowAt (i := 3) rfl)
      have fz : x.frozen? ⟨g, i * 4 + 3, none⟩ = false := (o.own (by omega)).2 (i * 4 + 3)
      obtain ⟨b, off, ea, hb, c0, c1, c2, c3⟩ := acc_row o.rows i hA2
      simp only [Option.some.injEq, Addr.mk.injEq, and_true] at ea
      obtain ⟨rfl, rfl⟩ := ea
      rw [Nat.zero_add] at c3
      refine wpOp_skip (w' := x.setCell ⟨g, i * 4 + 3, none⟩ (.int .i64 ((D.acc)[i].posted + (-am)))) (by rfl) (by rfl) ?_ (hK _ _ ⟨true, true, true, true, true, true, true, true, true, true, true, l11, true, true, u13, u14, u15, u16, u17, u18, u19, u20, u21, u22, u23, u24, u25, rfl, rfl, { h with pool := (h.pool.setPost (i := i) (k := 3) rfl hA2 (-am)), d13_8 := fun _ => rfl }⟩)
      rw [h.p25 rfl, h.p23 rfl]
      go_simp
  · rintro L act x ⟨l0, l1, l2, l3, l4, l5, l6, l7, l8, l9, l10, l11, l12, l13, u13, u14, u15, u16, u17, u18, u19, u20, u21, u22, u23, u24, u25, rfl, rfl, h⟩ hr
    have hall := ready_all hr rfl (by decide)
    have t0 : l0 = true := hall 0 (by decide)
    have t1 : l1 = true := hall 1 (by decide)
    have t2 : l2 = true := hall 2 (by decide)
    have t3 : l3 = true := hall 3 (by decide)
    have t4 : l4 = true := hall 4 (by decide)
    have t5 : l5 = true := hall 5 (by decide)
    have t6 : l6 = true := hall 6 (by decide)
    have t7 : l7 = true := hall 7 (by decide)
    have t8 : l8 = true := hall 8 (by decide)
    have t9 : l9 = true := hall 9 (by decide)
    have t10 : l10 = true := hall 10 (by decide)
    have t11 : l11 = true := hall 11 (by decide)
    have t12 : l12 = true := hall 12 (by decide)
    have t13 : l13 = true := hall 13 (by decide)
    subst t0 t1 t2 t3 t4 t5 t6 t7 t8 t9 t10 t11 t12 t13
    clear hall hr
    have HP6 : Hid (Pool [] w [[blk w.heap.size (ledC p D)], [blk (w.heap.size + 1) [.slice none 0 0, .slice none 0 0, .slice none 0 0]], [blk w3.heap.size [.slice (some ⟨g, 0, none⟩) D.acc.length ca, .slice ha D.hold.length ch, .slice sa D.seen.length cs]], [orow 4 accCells (some ⟨g, 0, none⟩) ca (setP D.acc i (-am))], [orow 4 hldCells ha ch D.hold], [orow 2 snCells sa cs D.seen]] x) := hide h.pool
    clear h
    refine hK0 _ _ ?_
    obtain ⟨A1, hA1⟩ : ∃ A1, A1 = setP D.acc i (-am) := ⟨_, rfl⟩
    have HA1 : Hid _ := hide hA1
    have hA3 : j < A1.length := by rw [hA1, setP_len]; exact hj
    have Hb3 : Hid (-2000000000000 ≤ A1[j].posted ∧ A1[j].posted ≤ 2000000000000) := hide (by
      have q1 := HN1.out.2 _ (List.getElem_mem hi)
      have q2 := HN1.out.2 _ (List.getElem_mem hj)
      subst hA1
      have q3 := setP_mem2 (i := i) (d := -am) (P := fun x => -1000000000000 ≤ x.posted ∧ x.posted ≤ 1000000000000) (Q := fun x => -2000000000000 ≤ x.posted ∧ x.posted ≤ 2000000000000) HN1.out.2 (fun x hx => by omega) (fun x hx => by unfold postA; simp only; omega)
      exact q3 _ (List.getElem_mem hA3))
    rw [← hA1] at HP6
    clear hA1
    go_upto_region 3 with fail
    dsimp only
    rename_i K0 hK0
    refine wp_region_inv (by kernel_rfl) (fun L act x => ∃ l0 l1 l2 l3 l4 l5 l6 l7 l8 l9 l10 l11 l12 l13 : Bool, ∃ u26 u27 u28 u29 u30 u31 u32 u33 u34 u35 u36 u37 u38 : Value, L = #[l0, l1, l2, l3, l4, l5, l6, l7, l8, l9, l10, l11, l12, l13] ∧ act = { tmps := #[Value.agg #[Value.slice p.aa D.acc.length p.ca, Value.slice p.ha D.hold.length p.ch, Value.slice p.sa D.seen.length p.cs], Value.int IntKind.i64 ↑i, Value.int IntKind.i64 ↑j, Value.int IntKind.i64 am, Value.pointer (some { block := w.heap.size, off := 0 }), undef, undef, undef, Value.pointer (some { block := w.heap.size + 1, off := 0 }), Value.int IntKind.i64 0, Value.pointer (some { block := w3.heap.size, off := 0 }), Value.agg #[Value.slice p.aa D.acc.length p.ca, Value.slice p.ha D.hold.length p.ch, Value.slice p.sa D.seen.length p.cs], Value.agg #[Value.slice (some { block := g, off := 0 }) D.acc.length ca, Value.slice ha D.hold.length ch, Value.slice sa D.seen.length cs], u13, u14, u15, u16, u17, u18, u19, u20, u21, u22, u23, u24, u25, u26, u27, u28, u29, u30, u31, u32, u33, u34, u35, u36, u37, u38, undef, undef, undef, undef, undef, undef, undef, undef, undef, undef, undef, undef, undef, undef, undef, undef, undef, undef, undef, undef, undef, undef, undef, undef, undef], defers := [] } ∧ PzF p D w.heap.size w3.heap.size g ca ha ch sa cs j (am) am (A1) hA3 w l0 l1 l2 l3 l4 l5 l6 l7 l8 l9 l10 l11 l12 l13 u26 u27 u28 u29 u30 u31 u32 u33 u34 u35 u36 u37 u38 x) ?_ ?_ ?_
    rotate_left 2
    · exact ⟨false, false, false, false, false, false, false, false, false, false, false, false, false, false, (undef), (undef), (undef), (undef), (undef), (undef), (undef), (undef), (undef), (undef), (undef), (undef), (undef), rfl, rfl, ⟨HP6.out.drew, fun q => (by cases q), fun q => (by cases q), fun q => (by cases q), fun q => (by cases q), fun q => (by cases q), fun q => (by cases q), fun q => (by cases q), fun q => (by cases q), fun q => (by cases q), fun q => (by cases q), fun q => (by cases q), fun q => (by cases q), fun q => (by cases q), fun q => (by cases q)⟩⟩
    · rintro L act x i ⟨l0, l1, l2, l3, l4, l5, l6, l7, l8, l9, l10, l11, l12, l13, u26, u27, u28, u29, u30, u31, u32, u33, u34, u35, u36, u37, u38, rfl, rfl, h⟩ hi K hK
      have hi15 : i < 14 := by
        obtain ⟨_, o, ho, _⟩ := mem_ready.1 hi
        exact (Array.getElem?_eq_some_iff.1 ho).1
      have hl := (mem_ready.1 hi).1
      obtain rfl | rfl | rfl | rfl | rfl | rfl | rfl | rfl | rfl | rfl | rfl | rfl | rfl | rfl := (by omega : i = 0 ∨ i = 1 ∨ i = 2 ∨ i = 3 ∨ i = 4 ∨ i = 5 ∨ i = 6 ∨ i = 7 ∨ i = 8 ∨ i = 9 ∨ i = 10 ∨ i = 11 ∨ i = 12 ∨ i = 13)
      · have e : l0 = false := hl
        subst e
        refine wpOp_run (v := .pointer (some ⟨w3.heap.size, 0, none⟩)) (w' := x) (by rfl) (by rfl) ?_ (hK _ _ ⟨true, l1, l2, l3, l4, l5, l6, l7, l8, l9, l10, l11, l12, l13, (.pointer (some ⟨w3.heap.size, 0, none⟩)), u27, u28, u29, u30, u31, u32, u33, u34, u35, u36, u37, u38, rfl, rfl, { h with p26 := fun _ => rfl }⟩)
        go_simp
      · have e : l1 = false := hl
        subst e
        have d0 : l0 = true := ready_on hi 0 (by kernel_rfl)
        subst d0
        have c0 : x.cell? ⟨w3.heap.size, 0, none⟩ = some (.slice (some ⟨g, 0, none⟩) D.acc.length ca) := (h.pool.blkAt (i := 2) rfl).c 0 _ rfl
        refine wpOp_run (v := .slice (some ⟨g, 0, none⟩) D.acc.length ca) (w' := x) (by rfl) (by rfl) ?_ (hK _ _ ⟨true, true, l2, l3, l4, l5, l6, l7, l8, l9, l10, l11, l12, l13, u26, (.slice (some ⟨g, 0, none⟩) D.acc.length ca), u28, u29, u30, u31, u32, u33, u34, u35, u36, u37, u38, rfl, rfl, { h with p27 := fun _ => rfl }⟩)
        rw [h.p26 rfl]
        go_simp
      · have e : l2 = false := hl
        subst e
        refine wpOp_run (v := .int .i64 (j : Int)) (w' := x) (by rfl) (by rfl) ?_ (hK _ _ ⟨l0, l1, true, l3, l4, l5, l6, l7, l8, l9, l10, l11, l12, l13, u26, u27, (.int .i64 (j : Int)), u29, u30, u31, u32, u33, u34, u35, u36, u37, u38, rfl, rfl, { h with p28 := fun _ => rfl }⟩)
        go_simp
      · have e : l3 = false := hl
        subst e
        refine wpOp_run (v := .pointer (some ⟨w3.heap.size, 0, none⟩)) (w' := x) (by rfl) (by rfl) ?_ (hK _ _ ⟨l0, l1, l2, true, l4, l5, l6, l7, l8, l9, l10, l11, l12, l13, u26, u27, u28, (.pointer (some ⟨w3.heap.size, 0, none⟩)), u30, u31, u32, u33, u34, u35, u36, u37, u38, rfl, rfl, { h with p29 := fun _ => rfl }⟩)
        go_simp
      · have e : l4 = false := hl
        subst e
        have d3 : l3 = true := ready_on hi 3 (by kernel_rfl)
        subst d3
        have c0 : x.cell? ⟨w3.heap.size, 0, none⟩ = some (.slice (some ⟨g, 0, none⟩) D.acc.length ca) := (h.pool.blkAt (i := 2) rfl).c 0 _ rfl
        refine wpOp_run (v := .slice (some ⟨g, 0, none⟩) D.acc.length ca) (w' := x) (by rfl) (by rfl) ?_ (hK _ _ ⟨l0, l1, l2, true, true, l5, l6, l7, l8, l9, l10, l11, l12, l13, u26, u27, u28, u29, (.slice (some ⟨g, 0, none⟩) D.acc.length ca), u31, u32, u33, u34, u35, u36, u37, u38, rfl, rfl, { h with p30 := fun _ => rfl }⟩)
        rw [h.p29 rfl]
        go_simp
      · have e : l5 = false := hl
        subst e
        refine wpOp_run (v := .int .i64 (j : Int)) (w' := x) (by rfl) (by rfl) ?_ (hK _ _ ⟨l0, l1, l2, l3, l4, true, l6, l7, l8, l9, l10, l11, l12, l13, u26, u27, u28, u29, u30, (.int .i64 (j : Int)), u32, u33, u34, u35, u36, u37, u38, rfl, rfl, { h with p31 := fun _ => rfl }⟩)
        go_simp
      · have e : l6 = false := hl
        subst e
        have d4 : l4 = true := ready_on hi 4 (by kernel_rfl)
        subst d4
        have d5 : l5 = true := ready_on hi 5 (by kernel_rfl)
        subst d5
        refine wpOp_run (v := .pointer (some ⟨g, j * 4, none⟩)) (w' := x) (by rfl) (by rfl) ?_ (hK _ _ ⟨l0, l1, l2, l3, true, true, true, l7, l8, l9, l10, l11, l12, l13, u26, u27, u28, u29, u30, u31, (.pointer (some ⟨g, j * 4, none⟩)), u33, u34, u35, u36, u37, u38, rfl, rfl, { h with p32 := fun _ => rfl }⟩)
        rw [h.p30 rfl, h.p31 rfl]
        go_simp
      · have e : l7 = false := hl
        subst e
        have d6 : l6 = true := ready_on hi 6 (by kernel_rfl)
        subst d6
        refine wpOp_run (v := .pointer (some ⟨g, j * 4 + 3, none⟩)) (w' := x) (by rfl) (by rfl) ?_ (hK _ _ ⟨l0, l1, l2, l3, l4, l5, true, true, l8, l9, l10, l11, l12, l13, u26, u27, u28, u29, u30, u31, u32, (.pointer (some ⟨g, j * 4 + 3, none⟩)), u34, u35, u36, u37, u38, rfl, rfl, { h with p33 := fun _ => rfl }⟩)
        rw [h.p32 rfl]
        go_simp
      · have e : l8 = false := hl
        subst e
        have d7 : l7 = true := ready_on hi 7 (by kernel_rfl)
        subst d7
        have z13 : l13 = false := by
          cases hz : l13
          · rfl
          · exact absurd (h.d13_8 hz) (by simp)
        subst z13
        have o := (h.pool.orowAt (i := 3) rfl)
        obtain ⟨b, off, ea, hb, c0, c1, c2, c3⟩ := acc_row o.rows j hA3
        simp only [Option.some.injEq, Addr.mk.injEq, and_true] at ea
        obtain ⟨rfl, rfl⟩ := ea
        rw [Nat.zero_add] at c3
        refine wpOp_run (v := .int .i64 ((A1)[j].posted)) (w' := x) (by rfl) (by rfl) ?_ (hK _ _ ⟨l0, l1, l2, l3, l4, l5, l6, true, true, l9, l10, l11, l12, false, u26, u27, u28, u29, u30, u31, u32, u33, (.int .i64 ((A1)[j].posted)), u35, u36, u37, u38, rfl, rfl, { h with p34 := (fun _ => rfl), d13_8 := fun _ => rfl }⟩)
        rw [h.p33 rfl]
        go_simp
      · have e : l9 = false := hl
        subst e
        refine wpOp_run (v := .int .i64 am) (w' := x) (by rfl) (by rfl) ?_ (hK _ _ ⟨l0, l1, l2, l3, l4, l5, l6, l7, l8, true, l10, l11, l12, l13, u26, u27, u28, u29, u30, u31, u32, u33, u34, (.int .i64 am), u36, u37, u38, rfl, rfl, { h with p35 := fun _ => rfl }⟩)
        go_simp
      · have e : l10 = false := hl
        subst e
        have d8 : l8 = true := ready_on hi 8 (by kernel_rfl)
        subst d8
        have d9 : l9 = true := ready_on hi 9 (by kernel_rfl)
        subst d9
        have b0 := Hb3.out
        refine wpOp_run (v := .int .i64 ((A1)[j].posted + (am))) (w' := x) (by rfl) (by rfl) ?_ (hK _ _ ⟨l0, l1, l2, l3, l4, l5, l6, l7, true, true, true, l11, l12, l13, u26, u27, u28, u29, u30, u31, u32, u33, u34, u35, (.int .i64 ((A1)[j].posted + (am))), u37, u38, rfl, rfl, { h with p36 := (fun _ => rfl) }⟩)
        rw [h.p34 rfl, h.p35 rfl]
        go_simp
        simp [IntKind.wrap, IntKind.bits, IntKind.signed]
        omega
      · have e : l11 = false := hl
        subst e
        have d0 : l0 = true := ready_on hi 0 (by kernel_rfl)
        subst d0
        have d1 : l1 = true := ready_on hi 1 (by kernel_rfl)
        subst d1
        have d2 : l2 = true := ready_on hi 2 (by kernel_rfl)
        subst d2
        have d3 : l3 = true := ready_on hi 3 (by kernel_rfl)
        subst d3
        have d4 : l4 = true := ready_on hi 4 (by kernel_rfl)
        subst d4
        have d5 : l5 = true := ready_on hi 5 (by kernel_rfl)
        subst d5
        have d6 : l6 = true := ready_on hi 6 (by kernel_rfl)
        subst d6
        have d7 : l7 = true := ready_on hi 7 (by kernel_rfl)
        subst d7
        have d8 : l8 = true := ready_on hi 8 (by kernel_rfl)
        subst d8
        have d9 : l9 = true := ready_on hi 9 (by kernel_rfl)
        subst d9
        have d10 : l10 = true := ready_on hi 10 (by kernel_rfl)
        subst d10
        refine wpOp_run (v := .pointer (some ⟨g, j * 4, none⟩)) (w' := x) (by rfl) (by rfl) ?_ (hK _ _ ⟨true, true, true, true, true, true, true, true, true, true, true, true, l12, l13, u26, u27, u28, u29, u30, u31, u32, u33, u34, u35, u36, (.pointer (some ⟨g, j * 4, none⟩)), u38, rfl, rfl, { h with p37 := fun _ => rfl }⟩)
        rw [h.p27 rfl, h.p28 rfl]
        go_simp
      · have e : l12 = false := hl
        subst e
        have d0 : l0 = true := ready_on hi 0 (by kernel_rfl)
        subst d0
        have d1 : l1 = true := ready_on hi 1 (by kernel_rfl)
        subst d1
        have d2 : l2 = true := ready_on hi 2 (by kernel_rfl)
        subst d2
        have d3 : l3 = true := ready_on hi 3 (by kernel_rfl)
        subst d3
        have d4 : l4 = true := ready_on hi 4 (by kernel_rfl)
        subst d4
        have d5 : l5 = true := ready_on hi 5 (by kernel_rfl)
        subst d5
        have d6 : l6 = true := ready_on hi 6 (by kernel_rfl)
        subst d6
        have d7 : l7 = true := ready_on hi 7 (by kernel_rfl)
        subst d7
        have d8 : l8 = true := ready_on hi 8 (by kernel_rfl)
        subst d8
        have d9 : l9 = true := ready_on hi 9 (by kernel_rfl)
        subst d9
        have d10 : l10 = true := ready_on hi 10 (by kernel_rfl)
        subst d10
        have d11 : l11 = true := ready_on hi 11 (by kernel_rfl)
        subst d11
        refine wpOp_run (v := .pointer (some ⟨g, j * 4 + 3, none⟩)) (w' := x) (by rfl) (by rfl) ?_ (hK _ _ ⟨true, true, true, true, true, true, true, true, true, true, true, true, true, l13, u26, u27, u28, u29, u30, u31, u32, u33, u34, u35, u36, u37, (.pointer (some ⟨g, j * 4 + 3, none⟩)), rfl, rfl, { h with p38 := fun _ => rfl }⟩)
        rw [h.p37 rfl]
        go_simp
      · have e : l13 = false := hl
        subst e
        have d0 : l0 = true := ready_on hi 0 (by kernel_rfl)
        subst d0
        have d1 : l1 = true := ready_on hi 1 (by kernel_rfl)
        subst d1
        have d2 : l2 = true := ready_on hi 2 (by kernel_rfl)
        subst d2
        have d3 : l3 = true := ready_on hi 3 (by kernel_rfl)
        subst d3
        have d4 : l4 = true := ready_on hi 4 (by kernel_rfl)
        subst d4
        have d5 : l5 = true := ready_on hi 5 (by kernel_rfl)
        subst d5
        have d6 : l6 = true := ready_on hi 6 (by kernel_rfl)
        subst d6
        have d7 : l7 = true := ready_on hi 7 (by kernel_rfl)
        subst d7
        have d8 : l8 = true := ready_on hi 8 (by kernel_rfl)
        subst d8
        have d9 : l9 = true := ready_on hi 9 (by kernel_rfl)
        subst d9
        have d10 : l10 = true := ready_on hi 10 (by kernel_rfl)
        subst d10
        have d12 : l12 = true := ready_on hi 12 (by kernel_rfl)
        subst d12
        have o := (h.pool.orowAt (i := 3) rfl)
        have fz : x.frozen? ⟨g, j * 4 + 3, none⟩ = false := (o.own (by omega)).2 (j * 4 + 3)
        obtain ⟨b, off, ea, hb, c0, c1, c2, c3⟩ := acc_row o.rows j hA3
        simp only [Option.some.injEq, Addr.mk.injEq, and_true] at ea
        obtain ⟨rfl, rfl⟩ := ea
        rw [Nat.zero_add] at c3
        refine wpOp_skip (w' := x.setCell ⟨g, j * 4 + 3, none⟩ (.int .i64 ((A1)[j].posted + (am)))) (by rfl) (by rfl) ?_ (hK _ _ ⟨true, true, true, true, true, true, true, true, true, true, true, l11, true, true, u26, u27, u28, u29, u30, u31, u32, u33, u34, u35, u36, u37, u38, rfl, rfl, { h with pool := (h.pool.setPost (i := j) (k := 3) rfl hA3 (am)), d13_8 := fun _ => rfl }⟩)
        rw [h.p38 rfl, h.p36 rfl]
        go_simp
    · rintro L act x ⟨l0, l1, l2, l3, l4, l5, l6, l7, l8, l9, l10, l11, l12, l13, u26, u27, u28, u29, u30, u31, u32, u33, u34, u35, u36, u37, u38, rfl, rfl, h⟩ hr
      have hall := ready_all hr rfl (by decide)
      have t0 : l0 = true := hall 0 (by decide)
      have t1 : l1 = true := hall 1 (by decide)
      have t2 : l2 = true := hall 2 (by decide)
      have t3 : l3 = true := hall 3 (by decide)
      have t4 : l4 = true := hall 4 (by decide)
      have t5 : l5 = true := hall 5 (by decide)
      have t6 : l6 = true := hall 6 (by decide)
      have t7 : l7 = true := hall 7 (by decide)
      have t8 : l8 = true := hall 8 (by decide)
      have t9 : l9 = true := hall 9 (by decide)
      have t10 : l10 = true := hall 10 (by decide)
      have t11 : l11 = true := hall 11 (by decide)
      have t12 : l12 = true := hall 12 (by decide)
      have t13 : l13 = true := hall 13 (by decide)
      subst t0 t1 t2 t3 t4 t5 t6 t7 t8 t9 t10 t11 t12 t13
      clear hall hr
      have HP7 : Hid (Pool [] w [[blk w.heap.size (ledC p D)], [blk (w.heap.size + 1) [.slice none 0 0, .slice none 0 0, .slice none 0 0]], [blk w3.heap.size [.slice (some ⟨g, 0, none⟩) D.acc.length ca, .slice ha D.hold.length ch, .slice sa D.seen.length cs]], [orow 4 accCells (some ⟨g, 0, none⟩) ca (payA D.acc i j am)], [orow 4 hldCells ha ch D.hold], [orow 2 snCells sa cs D.seen]] x) := hide (by rw [show payA D.acc i j am = setP A1 j am by rw [HA1.out]; rfl]; exact h.pool)
      clear h HP6
      refine hK0 _ _ ?_
      obtain ⟨A2, hA2'⟩ : ∃ A2, A2 = payA D.acc i j am := ⟨_, rfl⟩
      have HA2 : Hid _ := hide hA2'
      have lA : A2.length = D.acc.length := by rw [hA2', payA_len]
      have hi2 : i < A2.length := by omega
      have hj2 : j < A2.length := by omega
      have HLA : Hid _ := hide lA
      have HW : Hid ((∀ x ∈ A2, AccW x) ∧ ∀ x ∈ A2, -1 ≤ x.limit ∧ x.limit ≤ 1000000000000) := hide (by rw [hA2']; exact payA_wf HL.out.acc.wf HN1.out.2 HLI.out ⟨am0, am1⟩)
      rw [← hA2'] at HP7
      rw [← lA] at HP7
      have HPM : Hid (payM D i j am = if rangeB A2 i && rangeB A2 j then (if keepsB A2 D.hold i then (⟨A2, D.hold, D.seen⟩, 0) else (D, 7)) else (D, 8)) := hide (by rw [hA2']; rfl)
      clear hA2'
      have k0 := (HP7.out.blkAt (i := 2) rfl).c 0 _ rfl
      obtain ⟨b, off, ea, hb, ci0, ci1, ci2, ci3⟩ := acc_row (HP7.out.orowAt (i := 3) rfl).rows i hi2
      simp only [Option.some.injEq, Addr.mk.injEq, and_true] at ea
      obtain ⟨rfl, rfl⟩ := ea
      obtain ⟨b, off, ea, hb, cj0, cj1, cj2, cj3⟩ := acc_row (HP7.out.orowAt (i := 3) rfl).rows j hj2
      simp only [Option.some.injEq, Addr.mk.injEq, and_true] at ea
      obtain ⟨rfl, rfl⟩ := ea
      rw [Nat.zero_add] at ci3 cj3
      have hi3 : (i : Int) < (A2.length : Int) := by omega
      have hj3 : (j : Int) < (A2.length : Int) := by omega
      clear lA
      rw [← HLA.out]
      have ri : rangeB A2 i = inB (-1000000000000) 1000000000000 (A2[i]).posted := by simp [rangeB, List.getElem?_eq_getElem hi2]
      have rj : rangeB A2 j = inB (-1000000000000) 1000000000000 (A2[j]).posted := by simp [rangeB, List.getElem?_eq_getElem hj2]
      have kp : keepsB A2 D.hold i = withinB (A2[i]) (heldL (A2[i]).name D.hold) := by simp [keepsB, List.getElem?_eq_getElem hi2]
      have HRI : Hid _ := hide ri
      have HRJ : Hid _ := hide rj
      have HKP : Hid _ := hide kp
      clear ri rj kp
      go_wp2_with fail
      refine (l1In_any _ _ _ _).mono ?_
      rintro e w' ⟨rfl, hw'⟩
      rw [hw']
      clear hw' w'
      cases qi : inB (-1000000000000) 1000000000000 (A2[i]).posted
      · have HB : Hid ((if rangeB A2 i && rangeB A2 j then (if keepsB A2 D.hold i then ((⟨A2, D.hold, D.seen⟩ : Led), (0 : Int)) else (D, 7)) else (D, 8)) = (D, 8)) := hide (by rw [HRI.out, qi, Bool.false_and]; rfl)
        clear ci0 ci1 ci2 ci3 cj0 cj1 cj2 cj3 k0
        have d0 := (HP7.out.blkAt (i := 0) rfl).c 0 _ rfl
        have r0 := (HP7.out.blkAt (i := 1) rfl).c 0 _ rfl
        have f0 := (HP7.out.blkAt (i := 1) rfl).f 0
        have d1 := (HP7.out.blkAt (i := 0) rfl).c 1 _ rfl
        have r1 := (HP7.out.blkAt (i := 1) rfl).c 1 _ rfl
        have f1 := (HP7.out.blkAt (i := 1) rfl).f 1
        have d2 := (HP7.out.blkAt (i := 0) rfl).c 2 _ rfl
        have r2 := (HP7.out.blkAt (i := 1) rfl).c 2 _ rfl
        have f2 := (HP7.out.blkAt (i := 1) rfl).f 2
        have HQ : Hid _ := hide (((HP7.out.setBlk (i := 1) rfl 0 (.slice p.aa D.acc.length p.ca) (by simp)).setBlk (i := 1) rfl 1 (.slice p.ha D.hold.length p.ch) (by simp)).setBlk (i := 1) rfl 2 (.slice p.sa D.seen.length p.cs) (by simp))
        go_wp2
        refine name_post9 (fun W9 hW9 => ?_)
        have hq := HQ.out
        rw [← hW9] at hq
        have z_ := hq.blkAt (i := 1) rfl
        have g0_ := z_.c 0 _ rfl
        have g1_ := z_.c 1 _ rfl
        have g2_ := z_.c 2 _ rfl
        exact bodyPost_ret (v := .tuple #[.agg #[.slice p.aa D.acc.length p.ca, .slice p.ha D.hold.length p.ch, .slice p.sa D.seen.length p.cs], .int .i64 8]) (by simp [results, Tryz.results117, go_sem, g0_, g1_, g2_]) rfl (⟨p, by rw [HPM.out, HB.out]; rfl, hq.below, fun _ => rfl, fun q => by rw [HPM.out, HB.out] at q; cases q⟩)
      · go_wp2_with fail
        refine (l1In_any _ _ _ _).mono ?_
        rintro e w' ⟨rfl, hw'⟩
        rw [hw']
        clear hw' w'
        cases qj : inB (-1000000000000) 1000000000000 (A2[j]).posted
        · have HB : Hid ((if rangeB A2 i && rangeB A2 j then (if keepsB A2 D.hold i then ((⟨A2, D.hold, D.seen⟩ : Led), (0 : Int)) else (D, 7)) else (D, 8)) = (D, 8)) := hide (by rw [HRI.out, HRJ.out, qi, qj]; rfl)
          clear ci0 ci1 ci2 ci3 cj0 cj1 cj2 cj3 k0
          have d0 := (HP7.out.blkAt (i := 0) rfl).c 0 _ rfl
          have r0 := (HP7.out.blkAt (i := 1) rfl).c 0 _ rfl
          have f0 := (HP7.out.blkAt (i := 1) rfl).f 0
          have d1 := (HP7.out.blkAt (i := 0) rfl).c 1 _ rfl
          have r1 := (HP7.out.blkAt (i := 1) rfl).c 1 _ rfl
          have f1 := (HP7.out.blkAt (i := 1) rfl).f 1
          have d2 := (HP7.out.blkAt (i := 0) rfl).c 2 _ rfl
          have r2 := (HP7.out.blkAt (i := 1) rfl).c 2 _ rfl
          have f2 := (HP7.out.blkAt (i := 1) rfl).f 2
          have HQ : Hid _ := hide (((HP7.out.setBlk (i := 1) rfl 0 (.slice p.aa D.acc.length p.ca) (by simp)).setBlk (i := 1) rfl 1 (.slice p.ha D.hold.length p.ch) (by simp)).setBlk (i := 1) rfl 2 (.slice p.sa D.seen.length p.cs) (by simp))
          go_wp2
          refine name_post9 (fun W9 hW9 => ?_)
          have hq := HQ.out
          rw [← hW9] at hq
          have z_ := hq.blkAt (i := 1) rfl
          have g0_ := z_.c 0 _ rfl
          have g1_ := z_.c 1 _ rfl
          have g2_ := z_.c 2 _ rfl
          exact bodyPost_ret (v := .tuple #[.agg #[.slice p.aa D.acc.length p.ca, .slice p.ha D.hold.length p.ch, .slice p.sa D.seen.length p.cs], .int .i64 8]) (by simp [results, Tryz.results117, go_sem, g0_, g1_, g2_]) rfl (⟨p, by rw [HPM.out, HB.out]; rfl, hq.below, fun _ => rfl, fun q => by rw [HPM.out, HB.out] at q; cases q⟩)
        · have k1 := (HP7.out.blkAt (i := 2) rfl).c 1 _ rfl
          have k2 := (HP7.out.blkAt (i := 2) rfl).c 2 _ rfl
          clear ci0 ci1 ci2 ci3 cj0 cj1 cj2 cj3
          go_wp2_with fail
          refine (l2Within_any (some ⟨g, 0, none⟩) ha A2 D.hold ca ch _ i x hi2 (by rw [HLA.out]; exact hn1) HN2.out ((HP7.out.orowAt (i := 3) rfl).rows.acc HW.out.1) ((HP7.out.orowAt (i := 4) rfl).rows.hold HL.out.hold.wf) (HW.out.2 _ (List.getElem_mem hi2))).mono ?_
          rintro e w8 ⟨rfl, hb8⟩
          have HP8 : Hid _ := hide (HP7.out.keep hb8)
          clear hb8 HP7 k0 k1 k2
          cases qk : withinB (A2[i]) (heldL (A2[i]).name D.hold)
          · have HB : Hid ((if rangeB A2 i && rangeB A2 j then (if keepsB A2 D.hold i then ((⟨A2, D.hold, D.seen⟩ : Led), (0 : Int)) else (D, 7)) else (D, 8)) = (D, 7)) := hide (by rw [HRI.out, HRJ.out, qi, qj, HKP.out, qk]; rfl)
            have d0 := (HP8.out.blkAt (i := 0) rfl).c 0 _ rfl
            have r0 := (HP8.out.blkAt (i := 1) rfl).c 0 _ rfl
            have f0 := (HP8.out.blkAt (i := 1) rfl).f 0
            have d1 := (HP8.out.blkAt (i := 0) rfl).c 1 _ rfl
            have r1 := (HP8.out.blkAt (i := 1) rfl).c 1 _ rfl
            have f1 := (HP8.out.blkAt (i := 1) rfl).f 1
            have d2 := (HP8.out.blkAt (i := 0) rfl).c 2 _ rfl
            have r2 := (HP8.out.blkAt (i := 1) rfl).c 2 _ rfl
            have f2 := (HP8.out.blkAt (i := 1) rfl).f 2
            have HQ : Hid _ := hide (((HP8.out.setBlk (i := 1) rfl 0 (.slice p.aa D.acc.length p.ca) (by simp)).setBlk (i := 1) rfl 1 (.slice p.ha D.hold.length p.ch) (by simp)).setBlk (i := 1) rfl 2 (.slice p.sa D.seen.length p.cs) (by simp))
            go_wp2
            refine name_post9 (fun W9 hW9 => ?_)
            have hq := HQ.out
            rw [← hW9] at hq
            have z_ := hq.blkAt (i := 1) rfl
            have g0_ := z_.c 0 _ rfl
            have g1_ := z_.c 1 _ rfl
            have g2_ := z_.c 2 _ rfl
            exact bodyPost_ret (v := .tuple #[.agg #[.slice p.aa D.acc.length p.ca, .slice p.ha D.hold.length p.ch, .slice p.sa D.seen.length p.cs], .int .i64 7]) (by simp [results, Tryz.results117, go_sem, g0_, g1_, g2_]) rfl (⟨p, by rw [HPM.out, HB.out]; rfl, hq.below, fun _ => rfl, fun q => by rw [HPM.out, HB.out] at q; cases q⟩)
          · have HB : Hid ((if rangeB A2 i && rangeB A2 j then (if keepsB A2 D.hold i then ((⟨A2, D.hold, D.seen⟩ : Led), (0 : Int)) else (D, 7)) else (D, 8)) = (⟨A2, D.hold, D.seen⟩, 0)) := hide (by rw [HRI.out, HRJ.out, qi, qj, HKP.out, qk]; rfl)
            have d0 := (HP8.out.blkAt (i := 2) rfl).c 0 _ rfl
            have r0 := (HP8.out.blkAt (i := 1) rfl).c 0 _ rfl
            have f0 := (HP8.out.blkAt (i := 1) rfl).f 0
            have d1 := (HP8.out.blkAt (i := 2) rfl).c 1 _ rfl
            have r1 := (HP8.out.blkAt (i := 1) rfl).c 1 _ rfl
            have f1 := (HP8.out.blkAt (i := 1) rfl).f 1
            have d2 := (HP8.out.blkAt (i := 2) rfl).c 2 _ rfl
            have r2 := (HP8.out.blkAt (i := 1) rfl).c 2 _ rfl
            have f2 := (HP8.out.blkAt (i := 1) rfl).f 2
            have HQ : Hid _ := hide (((HP8.out.setBlk (i := 1) rfl 0 (.slice (some ⟨g, 0, none⟩) A2.length ca) (by simp)).setBlk (i := 1) rfl 1 (.slice ha D.hold.length ch) (by simp)).setBlk (i := 1) rfl 2 (.slice sa D.seen.length cs) (by simp))
            go_wp2
            refine name_post9 (fun W9 hW9 => ?_)
            have hq := HQ.out
            rw [← hW9] at hq
            have z_ := hq.blkAt (i := 1) rfl
            have g0_ := z_.c 0 _ rfl
            have g1_ := z_.c 1 _ rfl
            have g2_ := z_.c 2 _ rfl
            exact bodyPost_ret (v := .tuple #[.agg #[.slice (some ⟨g, 0, none⟩) A2.length ca, .slice ha D.hold.length ch, .slice sa D.seen.length cs], .int .i64 0]) (by simp [results, Tryz.results117, go_sem, g0_, g1_, g2_]) rfl (⟨⟨some ⟨g, 0, none⟩, ca, ha, ch, sa, cs⟩, by rw [HPM.out, HB.out]; rfl, hq.below, fun q => by rw [HPM.out, HB.out] at q; exact absurd rfl q, fun _ => by
              rw [HPM.out, HB.out]
              exact ⟨⟨by rw [show (⟨A2, D.hold, D.seen⟩ : Led).acc.length = D.acc.length from HLA.out]; exact HQK.out.a, HQK.out.h, HQK.out.s⟩, (((hq.drop (i := 2) rfl).drop (i := 1) rfl).drop (i := 0) rfl).cast (by simp [ledL])⟩⟩)
end Go.Proofs.YteaopalhbnhbaaaGreatDoor
