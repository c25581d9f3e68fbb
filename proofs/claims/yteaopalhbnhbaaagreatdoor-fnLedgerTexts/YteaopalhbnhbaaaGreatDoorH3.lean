/- A region that draws its order, by what holds whatever has come up: flags and slots as functions, so that a step says only what it turns. -/
import Derived.Test.YteaopalhbnhbaaaGreatDoorPl
import Derived.Test.YteaopalhbnhbaaaGreatDoorH4
import Derived.Test.YteaopalhbnhbaaaGreatDoorLtS
namespace Go.Proofs.YteaopalhbnhbaaaGreatDoor
open Go.ChangeShapes Go.WideShapes Go.ChangeAt Go.RowKit
set_option linter.unusedVariables false
def upd {A : Type} (f : Nat → A) (i : Nat) (v : A) : Nat → A := fun j => cond (Nat.beq j i) v (f j)
theorem upd_same {A : Type} (f : Nat → A) (i : Nat) (v : A) : upd f i v i = v := by simp [upd]
theorem upd_ne {A : Type} (f : Nat → A) {i j : Nat} (v : A) (h : j ≠ i) : upd f i v j = f j := by
  have e : Nat.beq j i = false := by
    cases hb : Nat.beq j i
    · rfl
    · exact absurd (Nat.eq_of_beq_eq_true hb) h
  simp [upd, e]
theorem nf {a b : Bool} (h : a = true → b = true) (hb : b = false) : a = false := by
  cases a
  · rfl
  · rw [h rfl] at hb; cases hb
def fl (n : Nat) (T : Nat → Bool) : Array Bool := (Array.range n).map T
theorem fl_size (n : Nat) (T : Nat → Bool) : (fl n T).size = n := by simp [fl]
theorem fl_at {n k : Nat} (T : Nat → Bool) (d : Bool) (h : k < n) : (fl n T).getD k d = T k := by simp [fl, h]
theorem fl_set {n i : Nat} (T : Nat → Bool) : (fl n T).setIfInBounds i true = fl n (upd T i true) := by
  refine Array.ext (by simp [fl]) fun j h1 h2 => ?_
  rw [Array.getElem_setIfInBounds (by simpa [fl] using h2)]
  simp only [fl, Array.getElem_map, Array.getElem_range]
  by_cases e : i = j
  · rw [if_pos e, ← e, upd_same]
  · rw [if_neg e, upd_ne _ _ (fun z => e z.symm)]
def depB (ops : Array Oper) (i k : Nat) : Bool := ((ops[i]?).map fun o => o.after.any fun e => Region.binds .any e && e.on == k) == some true
theorem wp_region_lin {P : Program} {ops : Array Oper} {Q : Exit → Act → World → Prop} {id : Nat} {a : Act} {w : World} (hm : P.follows .mixedOrders = true) (fr : (Nat → Value) → Array Value) (S : (Nat → Bool) → (Nat → Value) → World → Prop)
    (h0 : a = { tmps := fr (fun k => a.tmps.getD k undef), defers := [] }) (hS : S (fun _ => false) (fun k => a.tmps.getD k undef) w.drew)
    (ha : ∀ i (hi : i < ops.size), ∀ e ∈ ops[i].after, Region.binds .any e = true → e.on < i)
    (hst : ∀ T U x i, S T U x → i < ops.size → T i = false → (∀ k, depB ops i k = true → T k = true) → ∀ K : Act → World → Prop, (∀ a' U' x', a' = { tmps := fr U', defers := [] } → S (upd T i true) U' x' → K a' x') → wpOp P ops Q i K { tmps := fr U, defers := [] } x)
    (hen : ∀ U x, S (fun k => Nat.blt k ops.size) U x → Q .normal { tmps := fr U, defers := [] } x) : (Code.region id ops true).wp P Q a w := by
  refine wp_region_inv hm (fun L b x => ∃ T U, L = fl ops.size T ∧ (∀ k, ops.size ≤ k → T k = false) ∧ b = { tmps := fr U, defers := [] } ∧ S T U x) ?_ ?_ ?_
  · rintro L b x i ⟨T, U, rfl, hz, rfl, h⟩ hi K hK
    have hi' : i < ops.size := by
      obtain ⟨_, o, ho, _⟩ := mem_ready.1 hi
      exact (Array.getElem?_eq_some_iff.1 ho).1
    refine hst T U x i h hi' ?_ ?_ K (fun a' U' x' e s => hK _ _ ⟨upd T i true, U', fl_set T, fun k hk => ?_, e, s⟩)
    · have := (mem_ready.1 hi).1
      rwa [fl_at T _ hi'] at this
    · intro k hk
      have hk' := ready_on hi k (by simpa [depB] using hk)
      rcases Nat.lt_or_ge k ops.size with q | q
      · rwa [fl_at T _ q] at hk'
      · rw [Array.getD_eq_getD_getElem?, Array.getElem?_eq_none (by rw [fl_size]; exact q)] at hk'
        cases hk'
    · rw [upd_ne _ _ (by omega)]
      exact hz k hk
  · rintro L b x ⟨T, U, rfl, hz, rfl, h⟩ hr
    have hall := ready_all hr (fl_size _ _) ha
    have e : T = fun k => Nat.blt k ops.size := by
      funext k
      rcases Nat.lt_or_ge k ops.size with q | q
      · have := hall k q
        rw [fl_at T _ q] at this
        rw [this]
        exact (Nat.ble_eq_true_of_le q : Nat.ble (k + 1) ops.size = true).symm
      · rw [hz k q]
        cases hb : Nat.blt k ops.size
        · rfl
        · exact absurd (Nat.le_of_ble_eq_true hb : k + 1 ≤ ops.size) (by omega)
    rw [e] at h
    exact hen U x h
  · refine ⟨fun _ => false, _, ?_, fun _ _ => rfl, h0, hS⟩
    refine Array.ext (by simp [fl]) fun j h1 h2 => ?_
    simp [fl]
end Go.Proofs.YteaopalhbnhbaaaGreatDoor
/- The model's reader of a ledger. -/
namespace Go.Proofs.YteaopalhbnhbaaaGreatDoor
open Go.ChangeShapes Go.WideShapes Go.ChangeAt Go.RowKit Go.Lib
set_option linter.unusedVariables false
set_option maxRecDepth 100000
structure SlIs (s : List UInt8) (D : Led) (p : LP) (b : Bool) : Prop where
  yes : b = true → ledT D = s ∧ ledS D = true
  no : b = false → (∀ L, ledS L = true → ledT L ≠ s) ∧ D = nilL ∧ p = nilP
  w : LedW D
  pl : PlOk p D
  sz : D.acc.length ≤ 1048576 ∧ D.hold.length ≤ 1048576 ∧ D.seen.length ≤ 1048576
def SlEnd (s : List UInt8) (w : World) (e : Ending) (w' : World) : Prop :=
  ∃ D p b, SlIs s D p b ∧ e = .returned (.tuple #[ledV p D, .bool b]) ∧ Pool [] w [ledL p D] w'
/-- what the loop has read -/
structure SlI (s q : List UInt8) (L : Led) : Prop where
  n : ∃ n, q.length ≤ n ∧ mRd s.length s nilL = mRd n q L
  sz : L.acc.length + L.hold.length + L.seen.length + q.length ≤ s.length
  w : LedW L
theorem wordsL_len (l : List UInt8) : ∀ x ∈ wordsL l, x.length ≤ l.length := by
  induction l with
  | nil => intro x hx; simp [wordsL] at hx; subst hx; simp
  | cons c r ih =>
    intro x hx
    rw [wordsL] at hx
    split at hx
    · rcases List.mem_cons.1 hx with rfl | h
      · simp
      · have := ih x h; simp; omega
    · split at hx
      · simp at hx; subst hx; simp
      · rename_i a t e
        rw [e] at ih
        rcases List.mem_cons.1 hx with rfl | h
        · have := ih a (by simp); simp; omega
        · have := ih x (by simp [h]); simp; omega
theorem num_i64 (l : List UInt8) : I64 (numV l) := by
  unfold numV
  split
  · rename_i h
    unfold intV
    rw [if_pos h]
    simp only [intB, formB, Bool.and_eq_true, decide_eq_true_eq] at h
    have := hundL_small14 (bodyL l) h.1.1.2
    split <;> exact ⟨by omega, by omega⟩
  · exact ⟨by omega, by omega⟩
theorem SlI.line {s q ln r : List UInt8} {L L' : Led} (h : SlI s q L) (hq : q = ln ++ 10 :: r) (hn : ∀ b ∈ ln, b ≠ 10) (e : mStep L (wordsL ln) = L') (hz : L'.acc.length + L'.hold.length + L'.seen.length ≤ L.acc.length + L.hold.length + L.seen.length + 1) (hw : LedW L') : SlI s r L' := by
  obtain ⟨n, h1, h2⟩ := h.n
  have h3 := h.sz
  rw [hq] at h1 h2 h3
  obtain ⟨m, h4, h5⟩ := mRd_line hn n L h1
  rw [List.length_append, List.length_cons] at h3
  exact ⟨⟨m, h4, by rw [h2, h5, e]⟩, by omega, hw⟩
/-- cells that are known, at a block's head -/
def cls (g : Nat) (vs : List Value) : Rs := ⟨[g], fun x => g < x.heap.size ∧ ∀ j u, vs[j]? = some u → x.cell? ⟨g, j, none⟩ = some u, fun x y e h => by
  have e := e g (by simp)
  have hlt : g < y.heap.size := by
    rcases Nat.lt_or_ge g y.heap.size with q | q
    · exact q
    · rw [Array.getElem?_eq_none q, Array.getElem?_eq_getElem h.1] at e
      cases e
  exact ⟨hlt, fun j v hj => (World.cell?_of_block (a := ⟨g, j, none⟩) e).trans (h.2 j v hj)⟩⟩
theorem cls_fp (g : Nat) (vs : List Value) : (cls g vs).fp = [g] := rfl
theorem Star.ofCls {g : Nat} {vs : List Value} {x : World} (h : g < x.heap.size) (hc : ∀ j u, vs[j]? = some u → x.cell? ⟨g, j, none⟩ = some u) : Star [cls g vs] x := Star.one (show (cls g vs).P x from ⟨h, hc⟩) (by simp [cls_fp]) (fun c hc => by simp only [cls_fp, List.mem_singleton] at hc; subst hc; exact h)
theorem Pool.clsAt {F : List Nat} {w x : World} {S : List (List Rs)} (h : Pool F w S x) {i g : Nat} {vs : List Value} (hi : S[i]? = some [cls g vs]) : ∀ j u, vs[j]? = some u → x.cell? ⟨g, j, none⟩ = some u := ((h.get hi).get (r := cls g vs) (by simp) : (cls g vs).P x).2
theorem cls_of {ws xs : List (List UInt8)} {w : World} {g : Nat} (h : ∀ (j : Nat) x, ws[j]? = some x → w.cell? ⟨g, j, none⟩ = some (.string (bs x))) (e : ws = xs) : ∀ j u, (xs.map (fun x => Value.string (bs x)))[j]? = some u → w.cell? ⟨g, j, none⟩ = some u := by
  subst e
  intro j u hu
  rw [List.getElem?_map, Option.map_eq_some_iff] at hu
  obtain ⟨x, hx, rfl⟩ := hu
  exact h j x hx
theorem bs_tl (l : List UInt8) : (bs l).toList = l := by rw [Lib.toList_data, bs_list]
theorem ledT_len {L : Led} (h : ledS L = true) : (ledT L).length ≤ 10000 := by
  unfold ledT
  rw [if_pos h]
  exact Nat.le_trans (body_len h _ _ _) (by decide)
def strLen : Value → Nat
  | .string b => b.size
  | _ => 0
structure Lw0 (w : World) (C G g cap : Nat) (L : Led) (a0 : Option Addr) (c0 : Nat) (a1 : Option Addr) (c1 : Nat) (a2 : Option Addr) (c2 : Nat) (x0 x1 x2 x3 x4 : List UInt8) (l17 l18 l20 : Bool) (T : Nat → Bool) (U : Nat → Value) (x : World) : Prop where
  pool : Pool [] w [[blk C [.slice none 0 0, .slice none 0 0, .slice none 0 0]], cond l20 [blk G [(U 60), .slice a1 L.hold.length c1, .slice a2 L.seen.length c2]] [blk G [.slice a0 L.acc.length c0, .slice a1 L.hold.length c1, .slice a2 L.seen.length c2]], cond l18 [row 50 4 (U 60) (L.acc.length + 1) (L.acc.flatMap accCells ++ accCells (⟨bs x1, bs x2, numV x3, numV x4⟩ : Acc))] [row 50 4 (.slice a0 L.acc.length c0) L.acc.length (L.acc.flatMap accCells)], [row 53 4 (.slice a1 L.hold.length c1) L.hold.length (L.hold.flatMap hldCells)], [row 55 2 (.slice a2 L.seen.length c2) L.seen.length (L.seen.flatMap snCells)], cond l17 [blk (gOf (slA (U 59))) (accCells (⟨bs x1, bs x2, numV x3, numV x4⟩ : Acc))] [], [cls g [.string (bs x0), .string (bs x1), .string (bs x2), .string (bs x3), .string (bs x4)]]] x
  q17 : l17 = true → (U 59) = .slice (some ⟨gOf (slA (U 59)), 0, none⟩) 1 1
  dA : l18 = true → l17 = true
  dL : l18 = true → (T 1) = true
  dS : l20 = true → l18 = true
  p42 : (T 0) = true → (U 42) = .pointer (some ⟨G, 0, none⟩)
  p43 : (T 1) = true → (U 43) = .slice a0 L.acc.length c0
  p44 : (T 2) = true → (U 44) = .slice (some ⟨g, 0, none⟩) 5 cap
  p45 : (T 3) = true → (U 45) = .pointer (some ⟨g, 1, none⟩)
  p46 : (T 4) = true → (U 46) = .string (bs x1)
  p47 : (T 5) = true → (U 47) = .slice (some ⟨g, 0, none⟩) 5 cap
  p48 : (T 6) = true → (U 48) = .pointer (some ⟨g, 2, none⟩)
  p49 : (T 7) = true → (U 49) = .string (bs x2)
  p50 : (T 8) = true → (U 50) = .slice (some ⟨g, 0, none⟩) 5 cap
  p51 : (T 9) = true → (U 51) = .pointer (some ⟨g, 3, none⟩)
  p52 : (T 10) = true → (U 52) = .string (bs x3)
  p53 : (T 11) = true → (U 53) = .int .i64 (numV x3)
  p54 : (T 12) = true → (U 54) = .slice (some ⟨g, 0, none⟩) 5 cap
  p55 : (T 13) = true → (U 55) = .pointer (some ⟨g, 4, none⟩)
  p56 : (T 14) = true → (U 56) = .string (bs x4)
  p57 : (T 15) = true → (U 57) = .int .i64 (numV x4)
  p58 : (T 16) = true → (U 58) = .agg #[.string (bs x1), .string (bs x2), .int .i64 (numV x3), .int .i64 (numV x4)]
  p61 : (T 19) = true → (U 61) = .pointer (some ⟨G, 0, none⟩)
structure Lw1 (w : World) (C G g cap : Nat) (L : Led) (a0 : Option Addr) (c0 : Nat) (a1 : Option Addr) (c1 : Nat) (a2 : Option Addr) (c2 : Nat) (x0 x1 x2 x3 x4 : List UInt8) (l17 l18 l20 : Bool) (T : Nat → Bool) (U : Nat → Value) (x : World) : Prop where
  pool : Pool [] w [[blk C [.slice none 0 0, .slice none 0 0, .slice none 0 0]], cond l20 [blk G [.slice a0 L.acc.length c0, (U 90), .slice a2 L.seen.length c2]] [blk G [.slice a0 L.acc.length c0, .slice a1 L.hold.length c1, .slice a2 L.seen.length c2]], [row 50 4 (.slice a0 L.acc.length c0) L.acc.length (L.acc.flatMap accCells)], cond l18 [row 53 4 (U 90) (L.hold.length + 1) (L.hold.flatMap hldCells ++ hldCells (⟨numV x1, bs x2, bs x3, numV x4⟩ : Hld))] [row 53 4 (.slice a1 L.hold.length c1) L.hold.length (L.hold.flatMap hldCells)], [row 55 2 (.slice a2 L.seen.length c2) L.seen.length (L.seen.flatMap snCells)], cond l17 [blk (gOf (slA (U 89))) (hldCells (⟨numV x1, bs x2, bs x3, numV x4⟩ : Hld))] [], [cls g [.string (bs x0), .string (bs x1), .string (bs x2), .string (bs x3), .string (bs x4)]]] x
  q17 : l17 = true → (U 89) = .slice (some ⟨gOf (slA (U 89)), 0, none⟩) 1 1
  dA : l18 = true → l17 = true
  dL : l18 = true → (T 1) = true
  dS : l20 = true → l18 = true
  p72 : (T 0) = true → (U 72) = .pointer (some ⟨G, 1, none⟩)
  p73 : (T 1) = true → (U 73) = .slice a1 L.hold.length c1
  p74 : (T 2) = true → (U 74) = .slice (some ⟨g, 0, none⟩) 5 cap
  p75 : (T 3) = true → (U 75) = .pointer (some ⟨g, 1, none⟩)
  p76 : (T 4) = true → (U 76) = .string (bs x1)
  p77 : (T 5) = true → (U 77) = .int .i64 (numV x1)
  p78 : (T 6) = true → (U 78) = .slice (some ⟨g, 0, none⟩) 5 cap
  p79 : (T 7) = true → (U 79) = .pointer (some ⟨g, 2, none⟩)
  p80 : (T 8) = true → (U 80) = .string (bs x2)
  p81 : (T 9) = true → (U 81) = .slice (some ⟨g, 0, none⟩) 5 cap
  p82 : (T 10) = true → (U 82) = .pointer (some ⟨g, 3, none⟩)
  p83 : (T 11) = true → (U 83) = .string (bs x3)
  p84 : (T 12) = true → (U 84) = .slice (some ⟨g, 0, none⟩) 5 cap
  p85 : (T 13) = true → (U 85) = .pointer (some ⟨g, 4, none⟩)
  p86 : (T 14) = true → (U 86) = .string (bs x4)
  p87 : (T 15) = true → (U 87) = .int .i64 (numV x4)
  p88 : (T 16) = true → (U 88) = .agg #[.int .i64 (numV x1), .string (bs x2), .string (bs x3), .int .i64 (numV x4)]
  p91 : (T 19) = true → (U 91) = .pointer (some ⟨G, 1, none⟩)
structure Lw2 (w : World) (C G g cap : Nat) (L : Led) (a0 : Option Addr) (c0 : Nat) (a1 : Option Addr) (c1 : Nat) (a2 : Option Addr) (c2 : Nat) (x0 x1 x2 : List UInt8) (l11 l12 l14 : Bool) (T : Nat → Bool) (U : Nat → Value) (x : World) : Prop where
  pool : Pool [] w [[blk C [.slice none 0 0, .slice none 0 0, .slice none 0 0]], cond l14 [blk G [.slice a0 L.acc.length c0, .slice a1 L.hold.length c1, (U 114)]] [blk G [.slice a0 L.acc.length c0, .slice a1 L.hold.length c1, .slice a2 L.seen.length c2]], [row 50 4 (.slice a0 L.acc.length c0) L.acc.length (L.acc.flatMap accCells)], [row 53 4 (.slice a1 L.hold.length c1) L.hold.length (L.hold.flatMap hldCells)], cond l12 [row 55 2 (U 114) (L.seen.length + 1) (L.seen.flatMap snCells ++ snCells (⟨numV x1, numV x2⟩ : Sn))] [row 55 2 (.slice a2 L.seen.length c2) L.seen.length (L.seen.flatMap snCells)], cond l11 [blk (gOf (slA (U 113))) (snCells (⟨numV x1, numV x2⟩ : Sn))] [], [cls g [.string (bs x0), .string (bs x1), .string (bs x2)]]] x
  q11 : l11 = true → (U 113) = .slice (some ⟨gOf (slA (U 113)), 0, none⟩) 1 1
  dA : l12 = true → l11 = true
  dL : l12 = true → (T 1) = true
  dS : l14 = true → l12 = true
  p102 : (T 0) = true → (U 102) = .pointer (some ⟨G, 2, none⟩)
  p103 : (T 1) = true → (U 103) = .slice a2 L.seen.length c2
  p104 : (T 2) = true → (U 104) = .slice (some ⟨g, 0, none⟩) 3 cap
  p105 : (T 3) = true → (U 105) = .pointer (some ⟨g, 1, none⟩)
  p106 : (T 4) = true → (U 106) = .string (bs x1)
  p107 : (T 5) = true → (U 107) = .int .i64 (numV x1)
  p108 : (T 6) = true → (U 108) = .slice (some ⟨g, 0, none⟩) 3 cap
  p109 : (T 7) = true → (U 109) = .pointer (some ⟨g, 2, none⟩)
  p110 : (T 8) = true → (U 110) = .string (bs x2)
  p111 : (T 9) = true → (U 111) = .int .i64 (numV x2)
  p112 : (T 10) = true → (U 112) = .agg #[.int .i64 (numV x1), .int .i64 (numV x2)]
  p115 : (T 13) = true → (U 115) = .pointer (some ⟨G, 2, none⟩)
set_option maxHeartbeats 8000000 in
theorem specReadLedger_any (s : List UInt8) (w : World) (hs : s.length ≤ 1048576) :
    Calls Tryz.prog 13 #[.string (bs s)] w fun e w' => SlEnd s w e w' := by
  obtain ⟨i0, hi0, hz0, hy0, hx0⟩ := info_parts infoAcc
  obtain ⟨i1, hi1, hz1, hy1, hx1⟩ := info_parts infoHld
  obtain ⟨i2, hi2, hz2, hy2, hx2⟩ := info_parts infoSn
  have HP0 : Hid (Pool [] w [[], [], [], [], [], [], []] w) := hide (Pool.start w [[], [], [], [], [], [], []] rfl)
  have hsz : (bs s).size = s.length := bs_size s
  go_enter Tryz.func13, Tryz.ntmps13
  go_upto_region 2 with fail
  refine cnm_world (fun W1 hW1 => ?_)
  obtain ⟨C, hC⟩ : ∃ C, C = w.heap.size := ⟨_, rfl⟩
  obtain ⟨G, hG⟩ : ∃ G, G = w.heap.size + 1 := ⟨_, rfl⟩
  have HP1 : Hid (Pool [] w [[blk C [.slice none 0 0, .slice none 0 0, .slice none 0 0]], [blk G [.slice none 0 0, .slice none 0 0, .slice none 0 0]], [row 50 4 (.slice none 0 0) ([] : List Acc).length (([] : List Acc).flatMap accCells)], [row 53 4 (.slice none 0 0) ([] : List Hld).length (([] : List Hld).flatMap hldCells)], [row 55 2 (.slice none 0 0) ([] : List Sn).length (([] : List Sn).flatMap snCells)], [], []] W1) := hide (by
    have p1 := HP0.out.newBlk (i := 0) rfl [.slice none 0 0, .slice none 0 0, .slice none 0 0] 28
    have s1 : (w.alloc (.cells ([.slice none 0 0, .slice none 0 0, .slice none 0 0] : List Value).toArray 28)).heap.size = w.heap.size + 1 := by simp
    have p2 := p1.newBlk (i := 1) rfl [.slice none 0 0, .slice none 0 0, .slice none 0 0] 28
    rw [s1] at p2
    rw [← hG, ← hC] at p2
    rw [hW1]
    exact ((p2.newNil (i := 2) rfl 50 4).newNil (i := 3) rfl 53 4).newNil (i := 4) rfl 55 2)
  rw [← hG, ← hC]
  clear hW1 HP0 hC hG
  go_wp2_with fail
  go_loopw [5] (fun v wr => ∃ (q : List UInt8) (L : Led) (a0 : Option Addr) (c0 : Nat) (a1 : Option Addr) (c1 : Nat) (a2 : Option Addr) (c2 : Nat), v = .string (bs q) ∧ Hid (SlI s q L) ∧ Hid (Pool [] w [[blk C [.slice none 0 0, .slice none 0 0, .slice none 0 0]], [blk G [.slice a0 L.acc.length c0, .slice a1 L.hold.length c1, .slice a2 L.seen.length c2]], [row 50 4 (.slice a0 L.acc.length c0) L.acc.length (L.acc.flatMap accCells)], [row 53 4 (.slice a1 L.hold.length c1) L.hold.length (L.hold.flatMap hldCells)], [row 55 2 (.slice a2 L.seen.length c2) L.seen.length (L.seen.flatMap snCells)], [], []] wr)) (fun v wr => strLen v)
  case atStart => exact ⟨s, nilL, none, 0, none, 0, none, 0, rfl, hide ⟨⟨_, Nat.le_refl _, rfl⟩, by simp [nilL], nilL_w⟩, HP1⟩
  case round =>
    obtain ⟨q, L, a0, c0, a1, c1, a2, c2, rfl, HI, HPr⟩ := hrel
    clear HP1
    have hq := HI.out.sz
    by_cases hbig : s.length ≤ 10000
    · have hb' : (s.length : Int) ≤ 10000 := by omega
      cases hqe : q.isEmpty
      · have hqe' : (bs q).toList.isEmpty = false := by rw [isEmpty_bs]; exact hqe
        have HQE : Hid (q ≠ []) := hide (fun z => by rw [z] at hqe; cases hqe)
        go_wp2_with fail
        refine (l1Cut_any (bs q) 10 _ (by rw [bs_size]; unfold maxLen; omega)).mono ?_
        rintro e w2 ⟨hk, ⟨ln, x, r, e1, ex, hno, rfl⟩ | ⟨hno, rfl⟩⟩
        · obtain rfl : x = 10 := UInt8.toNat_inj.1 (by have := ex; simp; omega)
          have HQ : Hid (q = ln ++ 10 :: r) := hide (by rw [← bs_list q]; exact e1)
          have HNl : Hid (∀ b ∈ ln, b ≠ 10) := hide (fun b hb z => hno b hb (by rw [z]; rfl))
          have hlen : ln.length + r.length + 1 = q.length := by rw [HQ.out]; simp; omega
          have HP2 : Hid (Pool [] w [[blk C [.slice none 0 0, .slice none 0 0, .slice none 0 0]], [blk G [.slice a0 L.acc.length c0, .slice a1 L.hold.length c1, .slice a2 L.seen.length c2]], [row 50 4 (.slice a0 L.acc.length c0) L.acc.length (L.acc.flatMap accCells)], [row 53 4 (.slice a1 L.hold.length c1) L.hold.length (L.hold.flatMap hldCells)], [row 55 2 (.slice a2 L.seen.length c2) L.seen.length (L.seen.flatMap snCells)], [], []] w2) := hide (HPr.out.keep hk.below)
          clear hk HPr e1 ex hno hqe hqe'
          go_wp2_with fail
          refine (l3Words_any ln _ (by omega)).mono ?_
          rintro e w3 ⟨hb, g, cap, rfl, hg, hc⟩
          have HB3 : Hid _ := hide hb
          have HG3 : Hid _ := hide hg
          have HW : Hid (∀ (j : Nat) x, (wordsL ln)[j]? = some x → w3.cell? ⟨g, j, none⟩ = some (.string (bs x))) := hide hc
          have hpos := wordsL_pos ln
          clear hb hc hg
          obtain ⟨h0, hh0⟩ : ∃ h0, h0 = (wordsL ln).getD 0 [] := ⟨_, rfl⟩
          have w0 : w3.cell? ⟨g, 0, none⟩ = some (.string (bs h0)) := HW.out 0 h0 (by rw [hh0, List.getD_eq_getElem?_getD, List.getElem?_eq_getElem hpos]; simp)
          obtain ⟨m, hm⟩ : ∃ m, m = (wordsL ln).length := ⟨_, rfl⟩
          rw [← hm] at hpos
          rw [← hm]
          have HM : Hid ((wordsL ln).length = m) := hide hm.symm
          have HH : Hid (h0 = (wordsL ln).getD 0 []) := hide hh0
          clear hm hh0
          by_cases hA : h0 = acW
          · have HA : Hid _ := hide hA
            have k0 : (bs h0).toList = [97, 99, 99, 111, 117, 110, 116] := by rw [bs_tl, hA]; rfl
            have k1 : ¬ (bs h0).toList = [104, 111, 108, 100] := by rw [bs_tl, hA]; decide
            have k2 : ¬ (bs h0).toList = [115, 101, 101, 110] := by rw [bs_tl, hA]; decide
            clear hA
            by_cases h5 : m = 5
            · subst h5
              have e5 : (wordsL ln).length = 5 := by rw [HM.out]
              obtain ⟨x0, x1, x2, x3, x4, hx⟩ : ∃ x0 x1 x2 x3 x4, wordsL ln = [x0, x1, x2, x3, x4] := by
                match wordsL ln, e5 with
                | [y0, y1, y2, y3, y4], _ => exact ⟨_, _, _, _, _, rfl⟩
              have m0 : x0.length ≤ 1048576 := by have := wordsL_len ln x0 (by rw [hx]; simp); omega
              have m1 : x1.length ≤ 1048576 := by have := wordsL_len ln x1 (by rw [hx]; simp); omega
              have m2 : x2.length ≤ 1048576 := by have := wordsL_len ln x2 (by rw [hx]; simp); omega
              have m3 : x3.length ≤ 1048576 := by have := wordsL_len ln x3 (by rw [hx]; simp); omega
              have m4 : x4.length ≤ 1048576 := by have := wordsL_len ln x4 (by rw [hx]; simp); omega
              have HP3 : Hid (Pool [] w [[blk C [.slice none 0 0, .slice none 0 0, .slice none 0 0]], [blk G [.slice a0 L.acc.length c0, .slice a1 L.hold.length c1, .slice a2 L.seen.length c2]], [row 50 4 (.slice a0 L.acc.length c0) L.acc.length (L.acc.flatMap accCells)], [row 53 4 (.slice a1 L.hold.length c1) L.hold.length (L.hold.flatMap hldCells)], [row 55 2 (.slice a2 L.seen.length c2) L.seen.length (L.seen.flatMap snCells)], [], [cls g [.string (bs x0), .string (bs x1), .string (bs x2), .string (bs x3), .string (bs x4)]]] w3) := hide (HP2.out.new (i := 6) rfl HB3.out (Star.ofCls (cell_lt (HW.out 0 x0 (by rw [hx]; rfl))) (cls_of HW.out hx)) (fun c hc => by simp only [fps_one, cls_fp, List.mem_singleton] at hc; have := HG3.out; omega))
              have HX : Hid (wordsL ln = _) := hide hx
              clear hx e5
              go_upto_region 10 with fail
              refine wp_region_lin (by kernel_rfl) (fun U => #[Value.string (bs s), undef, Value.pointer (some { block := C, off := 0 }), u3, Value.pointer (some { block := G, off := 0 }), Value.string (bs r), Value.string (bs ln), Value.string (bs r), Value.bool true, Value.slice (some { block := g, off := 0 }) 5 cap, Value.agg #[Value.slice none 0 0, Value.slice none 0 0, Value.slice none 0 0], Value.string (bs s), Value.string (bs q), Value.bool true, Value.bool true, Value.string (bs s), Value.int IntKind.i64 ↑s.length, Value.bool true, Value.bool true, Value.tuple #[Value.string (bs ln), Value.string (bs r), Value.bool true], Value.string (bs q), Value.tuple #[Value.string (bs ln), Value.string (bs r), Value.bool true], Value.string (bs ln), Value.string (bs r), Value.bool true, Value.string (bs r), Value.string (bs ln), Value.slice (some { block := g, off := 0 }) 5 cap, Value.bool false, Value.bool true, Value.bool false, u31, Value.bool true, Value.slice (some { block := g, off := 0 }) 5 cap, Value.pointer (some { block := g, off := 0 }), Value.string (bs h0), Value.bool true, Value.bool true, Value.slice (some { block := g, off := 0 }) 5 cap, Value.int IntKind.i64 5, Value.bool true, Value.bool true, U 42, U 43, U 44, U 45, U 46, U 47, U 48, U 49, U 50, U 51, U 52, U 53, U 54, U 55, U 56, U 57, U 58, U 59, U 60, U 61, u62, u63, u64, u65, u66, u67, u68, u69, u70, u71, u72, u73, u74, u75, u76, u77, u78, u79, u80, u81, u82, u83, u84, u85, u86, u87, u88, u89, u90, u91, u92, u93, u94, u95, u96, u97, u98, u99, u100, u101, u102, u103, u104, u105, u106, u107, u108, u109, u110, u111, u112, u113, u114, u115, undef, undef, undef, undef, undef, undef, undef, undef, undef, undef]) (fun T U x => Lw0 w C G g cap L a0 c0 a1 c1 a2 c2 x0 x1 x2 x3 x4 (T 17) (T 18) (T 20) T U x) rfl { pool := HP3.out.drew, q17 := fun z => (by cases z), dA := fun z => (by cases z), dL := fun z => (by cases z), dS := fun z => (by cases z), p42 := fun z => (by cases z), p43 := fun z => (by cases z), p44 := fun z => (by cases z), p45 := fun z => (by cases z), p46 := fun z => (by cases z), p47 := fun z => (by cases z), p48 := fun z => (by cases z), p49 := fun z => (by cases z), p50 := fun z => (by cases z), p51 := fun z => (by cases z), p52 := fun z => (by cases z), p53 := fun z => (by cases z), p54 := fun z => (by cases z), p55 := fun z => (by cases z), p56 := fun z => (by cases z), p57 := fun z => (by cases z), p58 := fun z => (by cases z), p61 := fun z => (by cases z) } (by decide) ?_ ?_
              · rintro T U x i h hi hf hd K hK
                obtain rfl | rfl | rfl | rfl | rfl | rfl | rfl | rfl | rfl | rfl | rfl | rfl | rfl | rfl | rfl | rfl | rfl | rfl | rfl | rfl | rfl := (by have : i < 21 := hi; omega : i = 0 ∨ i = 1 ∨ i = 2 ∨ i = 3 ∨ i = 4 ∨ i = 5 ∨ i = 6 ∨ i = 7 ∨ i = 8 ∨ i = 9 ∨ i = 10 ∨ i = 11 ∨ i = 12 ∨ i = 13 ∨ i = 14 ∨ i = 15 ∨ i = 16 ∨ i = 17 ∨ i = 18 ∨ i = 19 ∨ i = 20)
                · refine wpOp_run (v := .pointer (some ⟨G, 0, none⟩)) (w' := x) (by rfl) (by rfl) ?_ (hK _ (upd U 42 _) _ rfl { h with p42 := fun _ => rfl })
                  go_simp
                · have d0 := hd 0 (by kernel_rfl)
                  have z18 := nf h.dL hf
                  have z20 := nf h.dS z18
                  have cc := h.pool
                  rw [z18, z20] at cc
                  replace cc := (cc.blkAt (i := 1) rfl).c 0 _ rfl
                  refine wpOp_run (v := .slice a0 L.acc.length c0) (w' := x) (by rfl) (by rfl) ?_ (hK _ (upd U 43 _) _ rfl { h with p43 := fun _ => rfl, dL := fun _ => rfl })
                  rw [h.p42 d0]
                  go_simp
                · refine wpOp_run (v := .slice (some ⟨g, 0, none⟩) 5 cap) (w' := x) (by rfl) (by rfl) ?_ (hK _ (upd U 44 _) _ rfl { h with p44 := fun _ => rfl })
                  go_simp
                · have d2 := hd 2 (by kernel_rfl)
                  refine wpOp_run (v := .pointer (some ⟨g, 1, none⟩)) (w' := x) (by rfl) (by rfl) ?_ (hK _ (upd U 45 _) _ rfl { h with p45 := fun _ => rfl })
                  rw [h.p44 d2]
                  go_simp
                · have d3 := hd 3 (by kernel_rfl)
                  have cc := h.pool.clsAt (i := 6) rfl 1 _ rfl
                  refine wpOp_run (v := .string (bs x1)) (w' := x) (by rfl) (by rfl) ?_ (hK _ (upd U 46 _) _ rfl { h with p46 := fun _ => rfl })
                  rw [h.p45 d3]
                  go_simp
                · refine wpOp_run (v := .slice (some ⟨g, 0, none⟩) 5 cap) (w' := x) (by rfl) (by rfl) ?_ (hK _ (upd U 47 _) _ rfl { h with p47 := fun _ => rfl })
                  go_simp
                · have d5 := hd 5 (by kernel_rfl)
                  refine wpOp_run (v := .pointer (some ⟨g, 2, none⟩)) (w' := x) (by rfl) (by rfl) ?_ (hK _ (upd U 48 _) _ rfl { h with p48 := fun _ => rfl })
                  rw [h.p47 d5]
                  go_simp
                · have d6 := hd 6 (by kernel_rfl)
                  have cc := h.pool.clsAt (i := 6) rfl 2 _ rfl
                  refine wpOp_run (v := .string (bs x2)) (w' := x) (by rfl) (by rfl) ?_ (hK _ (upd U 49 _) _ rfl { h with p49 := fun _ => rfl })
                  rw [h.p48 d6]
                  go_simp
                · refine wpOp_run (v := .slice (some ⟨g, 0, none⟩) 5 cap) (w' := x) (by rfl) (by rfl) ?_ (hK _ (upd U 50 _) _ rfl { h with p50 := fun _ => rfl })
                  go_simp
                · have d8 := hd 8 (by kernel_rfl)
                  refine wpOp_run (v := .pointer (some ⟨g, 3, none⟩)) (w' := x) (by rfl) (by rfl) ?_ (hK _ (upd U 51 _) _ rfl { h with p51 := fun _ => rfl })
                  rw [h.p50 d8]
                  go_simp
                · have d9 := hd 9 (by kernel_rfl)
                  have cc := h.pool.clsAt (i := 6) rfl 3 _ rfl
                  refine wpOp_run (v := .string (bs x3)) (w' := x) (by rfl) (by rfl) ?_ (hK _ (upd U 52 _) _ rfl { h with p52 := fun _ => rfl })
                  rw [h.p51 d9]
                  go_simp
                · have d10 := hd 10 (by kernel_rfl)
                  refine wpOp_call (by rfl) (by rfl) ?_ (l3Num_any (bs x3) _ (by rw [bs_size]; unfold maxLen; omega)) ?_
                  · rw [h.p52 d10]; go_simp
                  · rintro e w' ⟨rfl, rfl⟩
                    exact ⟨_, rfl, hK _ (upd U 53 _) _ rfl { h with p53 := fun _ => rfl }⟩
                · refine wpOp_run (v := .slice (some ⟨g, 0, none⟩) 5 cap) (w' := x) (by rfl) (by rfl) ?_ (hK _ (upd U 54 _) _ rfl { h with p54 := fun _ => rfl })
                  go_simp
                · have d12 := hd 12 (by kernel_rfl)
                  refine wpOp_run (v := .pointer (some ⟨g, 4, none⟩)) (w' := x) (by rfl) (by rfl) ?_ (hK _ (upd U 55 _) _ rfl { h with p55 := fun _ => rfl })
                  rw [h.p54 d12]
                  go_simp
                · have d13 := hd 13 (by kernel_rfl)
                  have cc := h.pool.clsAt (i := 6) rfl 4 _ rfl
                  refine wpOp_run (v := .string (bs x4)) (w' := x) (by rfl) (by rfl) ?_ (hK _ (upd U 56 _) _ rfl { h with p56 := fun _ => rfl })
                  rw [h.p55 d13]
                  go_simp
                · have d14 := hd 14 (by kernel_rfl)
                  refine wpOp_call (by rfl) (by rfl) ?_ (l3Num_any (bs x4) _ (by rw [bs_size]; unfold maxLen; omega)) ?_
                  · rw [h.p56 d14]; go_simp
                  · rintro e w' ⟨rfl, rfl⟩
                    exact ⟨_, rfl, hK _ (upd U 57 _) _ rfl { h with p57 := fun _ => rfl }⟩
                · have d4 := hd 4 (by kernel_rfl)
                  have d7 := hd 7 (by kernel_rfl)
                  have d11 := hd 11 (by kernel_rfl)
                  have d15 := hd 15 (by kernel_rfl)
                  refine wpOp_run (v := .agg #[.string (bs x1), .string (bs x2), .int .i64 (numV x3), .int .i64 (numV x4)]) (w' := x) (by rfl) (by rfl) ?_ (hK _ (upd U 58 _) _ rfl { h with p58 := fun _ => rfl })
                  rw [h.p46 d4, h.p49 d7, h.p53 d11, h.p57 d15]
                  go_simp
                · have d16 := hd 16 (by kernel_rfl)
                  have z18 : T 18 = false := nf h.dA hf
                  have z20 : T 20 = false := nf h.dS z18
                  rw [hf, z18, z20] at h
                  refine wpOp_run (v := .slice (some ⟨x.heap.size, 0, none⟩) 1 1) (w' := x.alloc (.cells #[.string (bs x1), .string (bs x2), .int .i64 (numV x3), .int .i64 (numV x4)] 50)) (by rfl) (by rfl) ?_ (hK _ (upd U 59 _) _ rfl (by show Lw0 _ _ _ _ _ _ _ _ _ _ _ _ _ _ _ _ _ true (T 18) (T 20) _ _ _; rw [z18, z20]; exact { h with q17 := (fun _ => rfl), pool := (h.pool.newBlk (i := 5) rfl (accCells (⟨bs x1, bs x2, numV x3, numV x4⟩ : Acc)) 50) , dA := fun z => (by cases z), dS := fun z => (by cases z), dL := fun z => (by cases z) }))
                  rw [h.p58 d16]
                  go_simp
                · have d1 := hd 1 (by kernel_rfl)
                  have d17 := hd 17 (by kernel_rfl)
                  have z20 : T 20 = false := nf h.dS hf
                  rw [d17, hf, z20] at h
                  obtain ⟨v', z, hr, hp⟩ := h.pool.append (P := Tryz.prog) (i0 := 2) rfl 24 24 i0 _ 48 Tryz.underlying24 hi0 hz0 hy0 hx0 rfl (by decide) (some ⟨gOf (slA (U 59)), 0, none⟩) 1 1 (accCells (⟨bs x1, bs x2, numV x3, numV x4⟩ : Acc)) rfl (fun e => by cases e) (blk_news (h.pool.blkAt (i := 5) rfl)) (ac1 (⟨bs x1, bs x2, numV x3, numV x4⟩ : Acc)) (by unfold maxLen; omega) (by omega)
                  refine wpOp_run (v := v') (w' := z) (by rfl) (by rfl) ?_ (hK _ (upd U 60 _) _ rfl (by show Lw0 _ _ _ _ _ _ _ _ _ _ _ _ _ _ _ _ _ (T 17) true (T 20) _ _ _; rw [d17, z20]; exact { h with pool := (hp) , dA := fun _ => rfl, dL := fun _ => d1, dS := fun z => (by cases z) }))
                  exact exec_append rfl (h.p43 d1) (h.q17 rfl) hr
                · refine wpOp_run (v := .pointer (some ⟨G, 0, none⟩)) (w' := x) (by rfl) (by rfl) ?_ (hK _ (upd U 61 _) _ rfl { h with p61 := fun _ => rfl })
                  go_simp
                · have d17 := hd 17 (by kernel_rfl)
                  have d18 := hd 18 (by kernel_rfl)
                  have d19 := hd 19 (by kernel_rfl)
                  rw [d17, d18, hf] at h
                  obtain ⟨a6, k6, e6⟩ := row_shape (h.pool.rowAt (i := 2) rfl)
                  have A6 := h.pool.blkAt (i := 1) rfl
                  have t1 := A6.c 0 _ rfl
                  have f1 := A6.f 0
                  refine wpOp_skip (w' := x.setCell ⟨G, 0, none⟩ (U 60)) (by rfl) (by rfl) ?_ (hK _ U _ rfl (by show Lw0 _ _ _ _ _ _ _ _ _ _ _ _ _ _ _ _ _ (T 17) (T 18) true _ _ _; rw [d17, d18]; exact { h with pool := (h.pool.setBlk (i := 1) rfl 0 (U 60) (by simp)), dS := fun _ => rfl }))
                  rw [h.p61 d19, e6]
                  go_simp
              · rintro U x h
                replace h : Lw0 w C G g cap L a0 c0 a1 c1 a2 c2 x0 x1 x2 x3 x4 true true true _ U x := h
                obtain ⟨a6, k6, e6⟩ := row_shape (h.pool.rowAt (i := 2) rfl)
                have HPn : Hid (Pool [] w [[blk C [.slice none 0 0, .slice none 0 0, .slice none 0 0]], [blk G [.slice a6 (L.acc ++ [(⟨bs x1, bs x2, numV x3, numV x4⟩ : Acc)]).length k6, .slice a1 L.hold.length c1, .slice a2 L.seen.length c2]], [row 50 4 (.slice a6 (L.acc ++ [(⟨bs x1, bs x2, numV x3, numV x4⟩ : Acc)]).length k6) (L.acc ++ [(⟨bs x1, bs x2, numV x3, numV x4⟩ : Acc)]).length ((L.acc ++ [(⟨bs x1, bs x2, numV x3, numV x4⟩ : Acc)]).flatMap accCells)], [row 53 4 (.slice a1 L.hold.length c1) L.hold.length (L.hold.flatMap hldCells)], [row 55 2 (.slice a2 L.seen.length c2) L.seen.length (L.seen.flatMap snCells)], [], []] x) := hide (by
                  have z := (h.pool.drop (i := 5) rfl).drop (i := 6) rfl
                  rw [e6] at z
                  have e2 : L.acc.flatMap accCells ++ accCells (⟨bs x1, bs x2, numV x3, numV x4⟩ : Acc) = (L.acc ++ [(⟨bs x1, bs x2, numV x3, numV x4⟩ : Acc)]).flatMap accCells := by simp
                  have e3 : L.acc.length + 1 = (L.acc ++ [(⟨bs x1, bs x2, numV x3, numV x4⟩ : Acc)]).length := by simp
                  rw [e2, e3] at z
                  exact z)
                have HIn : Hid (SlI s r ⟨L.acc ++ [⟨bs x1, bs x2, numV x3, numV x4⟩], L.hold, L.seen⟩) := hide (HI.out.line HQ.out HNl.out (by rw [HX.out]; have z := HH.out; rw [HX.out, HA.out] at z; simp only [List.getD_cons_zero] at z; rw [← z]; rfl) (by simp; omega) ⟨fun z hz => (by rcases List.mem_append.1 hz with q | q; exact HI.out.w.acc z q; rw [List.mem_singleton.1 q]; exact ⟨txt_max m1, txt_max m2, num_i64 _, num_i64 _⟩), HI.out.w.hold, HI.out.w.seen⟩)
                have hsr : strLen (.string (bs r)) < strLen (.string (bs q)) := by simp only [strLen, bs_size]; omega
                clear h e6
                go_wp2
                exact ⟨⟨r, ⟨L.acc ++ [⟨bs x1, bs x2, numV x3, numV x4⟩], L.hold, L.seen⟩, a6, k6, a1, c1, a2, c2, rfl, HIn, HPn⟩, hsr⟩

            · have h5' : ¬ (m : Int) = 5 := by omega
              have HP3 : Hid (Pool [] w [[blk C [.slice none 0 0, .slice none 0 0, .slice none 0 0]], [blk G [.slice a0 L.acc.length c0, .slice a1 L.hold.length c1, .slice a2 L.seen.length c2]], [row 50 4 (.slice a0 L.acc.length c0) L.acc.length (L.acc.flatMap accCells)], [row 53 4 (.slice a1 L.hold.length c1) L.hold.length (L.hold.flatMap hldCells)], [row 55 2 (.slice a2 L.seen.length c2) L.seen.length (L.seen.flatMap snCells)], [], []] w3) := hide (HP2.out.keep HB3.out)
              have HIn : Hid (SlI s r L) := hide (HI.out.line HQ.out HNl.out (by rw [mStep, ← HH.out, HM.out, HA.out]; simp [h5, acW, hoW, seW]) (by omega) HI.out.w)
              have hsr : strLen (.string (bs r)) < strLen (.string (bs q)) := by simp only [strLen, bs_size]; omega
              go_wp2_with fail
              exact ⟨⟨r, L, a0, c0, a1, c1, a2, c2, rfl, HIn, HP3⟩, hsr⟩
          · have n0 := hA
            clear hA
            by_cases hA : h0 = hoW
            · have HA : Hid _ := hide hA
              have k0 : ¬ (bs h0).toList = [97, 99, 99, 111, 117, 110, 116] := by rw [bs_tl, hA]; decide
              have k1 : (bs h0).toList = [104, 111, 108, 100] := by rw [bs_tl, hA]; rfl
              have k2 : ¬ (bs h0).toList = [115, 101, 101, 110] := by rw [bs_tl, hA]; decide
              clear hA n0
              by_cases h5 : m = 5
              · subst h5
                have e5 : (wordsL ln).length = 5 := by rw [HM.out]
                obtain ⟨x0, x1, x2, x3, x4, hx⟩ : ∃ x0 x1 x2 x3 x4, wordsL ln = [x0, x1, x2, x3, x4] := by
                  match wordsL ln, e5 with
                  | [y0, y1, y2, y3, y4], _ => exact ⟨_, _, _, _, _, rfl⟩
                have m0 : x0.length ≤ 1048576 := by have := wordsL_len ln x0 (by rw [hx]; simp); omega
                have m1 : x1.length ≤ 1048576 := by have := wordsL_len ln x1 (by rw [hx]; simp); omega
                have m2 : x2.length ≤ 1048576 := by have := wordsL_len ln x2 (by rw [hx]; simp); omega
                have m3 : x3.length ≤ 1048576 := by have := wordsL_len ln x3 (by rw [hx]; simp); omega
                have m4 : x4.length ≤ 1048576 := by have := wordsL_len ln x4 (by rw [hx]; simp); omega
                have HP3 : Hid (Pool [] w [[blk C [.slice none 0 0, .slice none 0 0, .slice none 0 0]], [blk G [.slice a0 L.acc.length c0, .slice a1 L.hold.length c1, .slice a2 L.seen.length c2]], [row 50 4 (.slice a0 L.acc.length c0) L.acc.length (L.acc.flatMap accCells)], [row 53 4 (.slice a1 L.hold.length c1) L.hold.length (L.hold.flatMap hldCells)], [row 55 2 (.slice a2 L.seen.length c2) L.seen.length (L.seen.flatMap snCells)], [], [cls g [.string (bs x0), .string (bs x1), .string (bs x2), .string (bs x3), .string (bs x4)]]] w3) := hide (HP2.out.new (i := 6) rfl HB3.out (Star.ofCls (cell_lt (HW.out 0 x0 (by rw [hx]; rfl))) (cls_of HW.out hx)) (fun c hc => by simp only [fps_one, cls_fp, List.mem_singleton] at hc; have := HG3.out; omega))
                have HX : Hid (wordsL ln = _) := hide hx
                clear hx e5
                go_upto_region 12 with fail
                refine wp_region_lin (by kernel_rfl) (fun U => #[Value.string (bs s), undef, Value.pointer (some { block := C, off := 0 }), u3, Value.pointer (some { block := G, off := 0 }), Value.string (bs r), Value.string (bs ln), Value.string (bs r), Value.bool true, Value.slice (some { block := g, off := 0 }) 5 cap, Value.agg #[Value.slice none 0 0, Value.slice none 0 0, Value.slice none 0 0], Value.string (bs s), Value.string (bs q), Value.bool true, Value.bool true, Value.string (bs s), Value.int IntKind.i64 ↑s.length, Value.bool true, Value.bool true, Value.tuple #[Value.string (bs ln), Value.string (bs r), Value.bool true], Value.string (bs q), Value.tuple #[Value.string (bs ln), Value.string (bs r), Value.bool true], Value.string (bs ln), Value.string (bs r), Value.bool true, Value.string (bs r), Value.string (bs ln), Value.slice (some { block := g, off := 0 }) 5 cap, Value.bool false, Value.bool true, Value.bool false, u31, Value.bool false, Value.slice (some { block := g, off := 0 }) 5 cap, Value.pointer (some { block := g, off := 0 }), Value.string (bs h0), Value.bool false, Value.bool false, undef, undef, undef, Value.bool false, u42, u43, u44, u45, u46, u47, u48, u49, u50, u51, u52, u53, u54, u55, u56, u57, u58, u59, u60, u61, Value.bool true, Value.slice (some { block := g, off := 0 }) 5 cap, Value.pointer (some { block := g, off := 0 }), Value.string (bs h0), Value.bool true, Value.bool true, Value.slice (some { block := g, off := 0 }) 5 cap, Value.int IntKind.i64 5, Value.bool true, Value.bool true, U 72, U 73, U 74, U 75, U 76, U 77, U 78, U 79, U 80, U 81, U 82, U 83, U 84, U 85, U 86, U 87, U 88, U 89, U 90, U 91, u92, u93, u94, u95, u96, u97, u98, u99, u100, u101, u102, u103, u104, u105, u106, u107, u108, u109, u110, u111, u112, u113, u114, u115, undef, undef, undef, undef, undef, undef, undef, undef, undef, undef]) (fun T U x => Lw1 w C G g cap L a0 c0 a1 c1 a2 c2 x0 x1 x2 x3 x4 (T 17) (T 18) (T 20) T U x) rfl { pool := HP3.out.drew, q17 := fun z => (by cases z), dA := fun z => (by cases z), dL := fun z => (by cases z), dS := fun z => (by cases z), p72 := fun z => (by cases z), p73 := fun z => (by cases z), p74 := fun z => (by cases z), p75 := fun z => (by cases z), p76 := fun z => (by cases z), p77 := fun z => (by cases z), p78 := fun z => (by cases z), p79 := fun z => (by cases z), p80 := fun z => (by cases z), p81 := fun z => (by cases z), p82 := fun z => (by cases z), p83 := fun z => (by cases z), p84 := fun z => (by cases z), p85 := fun z => (by cases z), p86 := fun z => (by cases z), p87 := fun z => (by cases z), p88 := fun z => (by cases z), p91 := fun z => (by cases z) } (by decide) ?_ ?_
                · rintro T U x i h hi hf hd K hK
                  obtain rfl | rfl | rfl | rfl | rfl | rfl | rfl | rfl | rfl | rfl | rfl | rfl | rfl | rfl | rfl | rfl | rfl | rfl | rfl | rfl | rfl := (by have : i < 21 := hi; omega : i = 0 ∨ i = 1 ∨ i = 2 ∨ i = 3 ∨ i = 4 ∨ i = 5 ∨ i = 6 ∨ i = 7 ∨ i = 8 ∨ i = 9 ∨ i = 10 ∨ i = 11 ∨ i = 12 ∨ i = 13 ∨ i = 14 ∨ i = 15 ∨ i = 16 ∨ i = 17 ∨ i = 18 ∨ i = 19 ∨ i = 20)
                  · refine wpOp_run (v := .pointer (some ⟨G, 1, none⟩)) (w' := x) (by rfl) (by rfl) ?_ (hK _ (upd U 72 _) _ rfl { h with p72 := fun _ => rfl })
                    go_simp
                  · have d0 := hd 0 (by kernel_rfl)
                    have z18 := nf h.dL hf
                    have z20 := nf h.dS z18
                    have cc := h.pool
                    rw [z18, z20] at cc
                    replace cc := (cc.blkAt (i := 1) rfl).c 1 _ rfl
                    refine wpOp_run (v := .slice a1 L.hold.length c1) (w' := x) (by rfl) (by rfl) ?_ (hK _ (upd U 73 _) _ rfl { h with p73 := fun _ => rfl, dL := fun _ => rfl })
                    rw [h.p72 d0]
                    go_simp
                  · refine wpOp_run (v := .slice (some ⟨g, 0, none⟩) 5 cap) (w' := x) (by rfl) (by rfl) ?_ (hK _ (upd U 74 _) _ rfl { h with p74 := fun _ => rfl })
                    go_simp
                  · have d2 := hd 2 (by kernel_rfl)
                    refine wpOp_run (v := .pointer (some ⟨g, 1, none⟩)) (w' := x) (by rfl) (by rfl) ?_ (hK _ (upd U 75 _) _ rfl { h with p75 := fun _ => rfl })
                    rw [h.p74 d2]
                    go_simp
                  · have d3 := hd 3 (by kernel_rfl)
                    have cc := h.pool.clsAt (i := 6) rfl 1 _ rfl
                    refine wpOp_run (v := .string (bs x1)) (w' := x) (by rfl) (by rfl) ?_ (hK _ (upd U 76 _) _ rfl { h with p76 := fun _ => rfl })
                    rw [h.p75 d3]
                    go_simp
                  · have d4 := hd 4 (by kernel_rfl)
                    refine wpOp_call (by rfl) (by rfl) ?_ (l3Num_any (bs x1) _ (by rw [bs_size]; unfold maxLen; omega)) ?_
                    · rw [h.p76 d4]; go_simp
                    · rintro e w' ⟨rfl, rfl⟩
                      exact ⟨_, rfl, hK _ (upd U 77 _) _ rfl { h with p77 := fun _ => rfl }⟩
                  · refine wpOp_run (v := .slice (some ⟨g, 0, none⟩) 5 cap) (w' := x) (by rfl) (by rfl) ?_ (hK _ (upd U 78 _) _ rfl { h with p78 := fun _ => rfl })
                    go_simp
                  · have d6 := hd 6 (by kernel_rfl)
                    refine wpOp_run (v := .pointer (some ⟨g, 2, none⟩)) (w' := x) (by rfl) (by rfl) ?_ (hK _ (upd U 79 _) _ rfl { h with p79 := fun _ => rfl })
                    rw [h.p78 d6]
                    go_simp
                  · have d7 := hd 7 (by kernel_rfl)
                    have cc := h.pool.clsAt (i := 6) rfl 2 _ rfl
                    refine wpOp_run (v := .string (bs x2)) (w' := x) (by rfl) (by rfl) ?_ (hK _ (upd U 80 _) _ rfl { h with p80 := fun _ => rfl })
                    rw [h.p79 d7]
                    go_simp
                  · refine wpOp_run (v := .slice (some ⟨g, 0, none⟩) 5 cap) (w' := x) (by rfl) (by rfl) ?_ (hK _ (upd U 81 _) _ rfl { h with p81 := fun _ => rfl })
                    go_simp
                  · have d9 := hd 9 (by kernel_rfl)
                    refine wpOp_run (v := .pointer (some ⟨g, 3, none⟩)) (w' := x) (by rfl) (by rfl) ?_ (hK _ (upd U 82 _) _ rfl { h with p82 := fun _ => rfl })
                    rw [h.p81 d9]
                    go_simp
                  · have d10 := hd 10 (by kernel_rfl)
                    have cc := h.pool.clsAt (i := 6) rfl 3 _ rfl
                    refine wpOp_run (v := .string (bs x3)) (w' := x) (by rfl) (by rfl) ?_ (hK _ (upd U 83 _) _ rfl { h with p83 := fun _ => rfl })
                    rw [h.p82 d10]
                    go_simp
                  · refine wpOp_run (v := .slice (some ⟨g, 0, none⟩) 5 cap) (w' := x) (by rfl) (by rfl) ?_ (hK _ (upd U 84 _) _ rfl { h with p84 := fun _ => rfl })
                    go_simp
                  · have d12 := hd 12 (by kernel_rfl)
                    refine wpOp_run (v := .pointer (some ⟨g, 4, none⟩)) (w' := x) (by rfl) (by rfl) ?_ (hK _ (upd U 85 _) _ rfl { h with p85 := fun _ => rfl })
                    rw [h.p84 d12]
                    go_simp
                  · have d13 := hd 13 (by kernel_rfl)
                    have cc := h.pool.clsAt (i := 6) rfl 4 _ rfl
                    refine wpOp_run (v := .string (bs x4)) (w' := x) (by rfl) (by rfl) ?_ (hK _ (upd U 86 _) _ rfl { h with p86 := fun _ => rfl })
                    rw [h.p85 d13]
                    go_simp
                  · have d14 := hd 14 (by kernel_rfl)
                    refine wpOp_call (by rfl) (by rfl) ?_ (l3Num_any (bs x4) _ (by rw [bs_size]; unfold maxLen; omega)) ?_
                    · rw [h.p86 d14]; go_simp
                    · rintro e w' ⟨rfl, rfl⟩
                      exact ⟨_, rfl, hK _ (upd U 87 _) _ rfl { h with p87 := fun _ => rfl }⟩
                  · have d5 := hd 5 (by kernel_rfl)
                    have d8 := hd 8 (by kernel_rfl)
                    have d11 := hd 11 (by kernel_rfl)
                    have d15 := hd 15 (by kernel_rfl)
                    refine wpOp_run (v := .agg #[.int .i64 (numV x1), .string (bs x2), .string (bs x3), .int .i64 (numV x4)]) (w' := x) (by rfl) (by rfl) ?_ (hK _ (upd U 88 _) _ rfl { h with p88 := fun _ => rfl })
                    rw [h.p77 d5, h.p80 d8, h.p83 d11, h.p87 d15]
                    go_simp
                  · have d16 := hd 16 (by kernel_rfl)
                    have z18 : T 18 = false := nf h.dA hf
                    have z20 : T 20 = false := nf h.dS z18
                    rw [hf, z18, z20] at h
                    refine wpOp_run (v := .slice (some ⟨x.heap.size, 0, none⟩) 1 1) (w' := x.alloc (.cells #[.int .i64 (numV x1), .string (bs x2), .string (bs x3), .int .i64 (numV x4)] 53)) (by rfl) (by rfl) ?_ (hK _ (upd U 89 _) _ rfl (by show Lw1 _ _ _ _ _ _ _ _ _ _ _ _ _ _ _ _ _ true (T 18) (T 20) _ _ _; rw [z18, z20]; exact { h with q17 := (fun _ => rfl), pool := (h.pool.newBlk (i := 5) rfl (hldCells (⟨numV x1, bs x2, bs x3, numV x4⟩ : Hld)) 53) , dA := fun z => (by cases z), dS := fun z => (by cases z), dL := fun z => (by cases z) }))
                    rw [h.p88 d16]
                    go_simp
                  · have d1 := hd 1 (by kernel_rfl)
                    have d17 := hd 17 (by kernel_rfl)
                    have z20 : T 20 = false := nf h.dS hf
                    rw [d17, hf, z20] at h
                    obtain ⟨v', z, hr, hp⟩ := h.pool.append (P := Tryz.prog) (i0 := 3) rfl 25 25 i1 _ 48 Tryz.underlying25 hi1 hz1 hy1 hx1 rfl (by decide) (some ⟨gOf (slA (U 89)), 0, none⟩) 1 1 (hldCells (⟨numV x1, bs x2, bs x3, numV x4⟩ : Hld)) rfl (fun e => by cases e) (blk_news (h.pool.blkAt (i := 5) rfl)) (ho1 (⟨numV x1, bs x2, bs x3, numV x4⟩ : Hld)) (by unfold maxLen; omega) (by omega)
                    refine wpOp_run (v := v') (w' := z) (by rfl) (by rfl) ?_ (hK _ (upd U 90 _) _ rfl (by show Lw1 _ _ _ _ _ _ _ _ _ _ _ _ _ _ _ _ _ (T 17) true (T 20) _ _ _; rw [d17, z20]; exact { h with pool := (hp) , dA := fun _ => rfl, dL := fun _ => d1, dS := fun z => (by cases z) }))
                    exact exec_append rfl (h.p73 d1) (h.q17 rfl) hr
                  · refine wpOp_run (v := .pointer (some ⟨G, 1, none⟩)) (w' := x) (by rfl) (by rfl) ?_ (hK _ (upd U 91 _) _ rfl { h with p91 := fun _ => rfl })
                    go_simp
                  · have d17 := hd 17 (by kernel_rfl)
                    have d18 := hd 18 (by kernel_rfl)
                    have d19 := hd 19 (by kernel_rfl)
                    rw [d17, d18, hf] at h
                    obtain ⟨a6, k6, e6⟩ := row_shape (h.pool.rowAt (i := 3) rfl)
                    have A6 := h.pool.blkAt (i := 1) rfl
                    have t1 := A6.c 1 _ rfl
                    have f1 := A6.f 1
                    refine wpOp_skip (w' := x.setCell ⟨G, 1, none⟩ (U 90)) (by rfl) (by rfl) ?_ (hK _ U _ rfl (by show Lw1 _ _ _ _ _ _ _ _ _ _ _ _ _ _ _ _ _ (T 17) (T 18) true _ _ _; rw [d17, d18]; exact { h with pool := (h.pool.setBlk (i := 1) rfl 1 (U 90) (by simp)), dS := fun _ => rfl }))
                    rw [h.p91 d19, e6]
                    go_simp
                · rintro U x h
                  replace h : Lw1 w C G g cap L a0 c0 a1 c1 a2 c2 x0 x1 x2 x3 x4 true true true _ U x := h
                  obtain ⟨a6, k6, e6⟩ := row_shape (h.pool.rowAt (i := 3) rfl)
                  have HPn : Hid (Pool [] w [[blk C [.slice none 0 0, .slice none 0 0, .slice none 0 0]], [blk G [.slice a0 L.acc.length c0, .slice a6 (L.hold ++ [(⟨numV x1, bs x2, bs x3, numV x4⟩ : Hld)]).length k6, .slice a2 L.seen.length c2]], [row 50 4 (.slice a0 L.acc.length c0) L.acc.length (L.acc.flatMap accCells)], [row 53 4 (.slice a6 (L.hold ++ [(⟨numV x1, bs x2, bs x3, numV x4⟩ : Hld)]).length k6) (L.hold ++ [(⟨numV x1, bs x2, bs x3, numV x4⟩ : Hld)]).length ((L.hold ++ [(⟨numV x1, bs x2, bs x3, numV x4⟩ : Hld)]).flatMap hldCells)], [row 55 2 (.slice a2 L.seen.length c2) L.seen.length (L.seen.flatMap snCells)], [], []] x) := hide (by
                    have z := (h.pool.drop (i := 5) rfl).drop (i := 6) rfl
                    rw [e6] at z
                    have e2 : L.hold.flatMap hldCells ++ hldCells (⟨numV x1, bs x2, bs x3, numV x4⟩ : Hld) = (L.hold ++ [(⟨numV x1, bs x2, bs x3, numV x4⟩ : Hld)]).flatMap hldCells := by simp
                    have e3 : L.hold.length + 1 = (L.hold ++ [(⟨numV x1, bs x2, bs x3, numV x4⟩ : Hld)]).length := by simp
                    rw [e2, e3] at z
                    exact z)
                  have HIn : Hid (SlI s r ⟨L.acc, L.hold ++ [⟨numV x1, bs x2, bs x3, numV x4⟩], L.seen⟩) := hide (HI.out.line HQ.out HNl.out (by rw [HX.out]; have z := HH.out; rw [HX.out, HA.out] at z; simp only [List.getD_cons_zero] at z; rw [← z]; rfl) (by simp; omega) ⟨HI.out.w.acc, fun z hz => (by rcases List.mem_append.1 hz with q | q; exact HI.out.w.hold z q; rw [List.mem_singleton.1 q]; exact ⟨txt_max m2, txt_max m3, num_i64 _, num_i64 _⟩), HI.out.w.seen⟩)
                  have hsr : strLen (.string (bs r)) < strLen (.string (bs q)) := by simp only [strLen, bs_size]; omega
                  clear h e6
                  go_wp2
                  exact ⟨⟨r, ⟨L.acc, L.hold ++ [⟨numV x1, bs x2, bs x3, numV x4⟩], L.seen⟩, a0, c0, a6, k6, a2, c2, rfl, HIn, HPn⟩, hsr⟩

              · have h5' : ¬ (m : Int) = 5 := by omega
                have HP3 : Hid (Pool [] w [[blk C [.slice none 0 0, .slice none 0 0, .slice none 0 0]], [blk G [.slice a0 L.acc.length c0, .slice a1 L.hold.length c1, .slice a2 L.seen.length c2]], [row 50 4 (.slice a0 L.acc.length c0) L.acc.length (L.acc.flatMap accCells)], [row 53 4 (.slice a1 L.hold.length c1) L.hold.length (L.hold.flatMap hldCells)], [row 55 2 (.slice a2 L.seen.length c2) L.seen.length (L.seen.flatMap snCells)], [], []] w3) := hide (HP2.out.keep HB3.out)
                have HIn : Hid (SlI s r L) := hide (HI.out.line HQ.out HNl.out (by rw [mStep, ← HH.out, HM.out, HA.out]; simp [h5, acW, hoW, seW]) (by omega) HI.out.w)
                have hsr : strLen (.string (bs r)) < strLen (.string (bs q)) := by simp only [strLen, bs_size]; omega
                go_wp2_with fail
                exact ⟨⟨r, L, a0, c0, a1, c1, a2, c2, rfl, HIn, HP3⟩, hsr⟩
            · have n1 := hA
              clear hA
              by_cases hA : h0 = seW
              · have HA : Hid _ := hide hA
                have k0 : ¬ (bs h0).toList = [97, 99, 99, 111, 117, 110, 116] := by rw [bs_tl, hA]; decide
                have k1 : ¬ (bs h0).toList = [104, 111, 108, 100] := by rw [bs_tl, hA]; decide
                have k2 : (bs h0).toList = [115, 101, 101, 110] := by rw [bs_tl, hA]; rfl
                clear hA n0 n1
                by_cases h5 : m = 3
                · subst h5
                  have e3 : (wordsL ln).length = 3 := by rw [HM.out]
                  obtain ⟨x0, x1, x2, hx⟩ : ∃ x0 x1 x2, wordsL ln = [x0, x1, x2] := by
                    match wordsL ln, e3 with
                    | [y0, y1, y2], _ => exact ⟨_, _, _, rfl⟩
                  have m0 : x0.length ≤ 1048576 := by have := wordsL_len ln x0 (by rw [hx]; simp); omega
                  have m1 : x1.length ≤ 1048576 := by have := wordsL_len ln x1 (by rw [hx]; simp); omega
                  have m2 : x2.length ≤ 1048576 := by have := wordsL_len ln x2 (by rw [hx]; simp); omega
                  have HP3 : Hid (Pool [] w [[blk C [.slice none 0 0, .slice none 0 0, .slice none 0 0]], [blk G [.slice a0 L.acc.length c0, .slice a1 L.hold.length c1, .slice a2 L.seen.length c2]], [row 50 4 (.slice a0 L.acc.length c0) L.acc.length (L.acc.flatMap accCells)], [row 53 4 (.slice a1 L.hold.length c1) L.hold.length (L.hold.flatMap hldCells)], [row 55 2 (.slice a2 L.seen.length c2) L.seen.length (L.seen.flatMap snCells)], [], [cls g [.string (bs x0), .string (bs x1), .string (bs x2)]]] w3) := hide (HP2.out.new (i := 6) rfl HB3.out (Star.ofCls (cell_lt (HW.out 0 x0 (by rw [hx]; rfl))) (cls_of HW.out hx)) (fun c hc => by simp only [fps_one, cls_fp, List.mem_singleton] at hc; have := HG3.out; omega))
                  have HX : Hid (wordsL ln = _) := hide hx
                  clear hx e3
                  go_upto_region 14 with fail
                  refine wp_region_lin (by kernel_rfl) (fun U => #[Value.string (bs s), undef, Value.pointer (some { block := C, off := 0 }), u3, Value.pointer (some { block := G, off := 0 }), Value.string (bs r), Value.string (bs ln), Value.string (bs r), Value.bool true, Value.slice (some { block := g, off := 0 }) 3 cap, Value.agg #[Value.slice none 0 0, Value.slice none 0 0, Value.slice none 0 0], Value.string (bs s), Value.string (bs q), Value.bool true, Value.bool true, Value.string (bs s), Value.int IntKind.i64 ↑s.length, Value.bool true, Value.bool true, Value.tuple #[Value.string (bs ln), Value.string (bs r), Value.bool true], Value.string (bs q), Value.tuple #[Value.string (bs ln), Value.string (bs r), Value.bool true], Value.string (bs ln), Value.string (bs r), Value.bool true, Value.string (bs r), Value.string (bs ln), Value.slice (some { block := g, off := 0 }) 3 cap, Value.bool false, Value.bool true, Value.bool false, u31, Value.bool false, Value.slice (some { block := g, off := 0 }) 3 cap, Value.pointer (some { block := g, off := 0 }), Value.string (bs h0), Value.bool false, Value.bool false, undef, undef, undef, Value.bool false, u42, u43, u44, u45, u46, u47, u48, u49, u50, u51, u52, u53, u54, u55, u56, u57, u58, u59, u60, u61, Value.bool false, Value.slice (some { block := g, off := 0 }) 3 cap, Value.pointer (some { block := g, off := 0 }), Value.string (bs h0), Value.bool false, Value.bool false, undef, undef, undef, Value.bool false, u72, u73, u74, u75, u76, u77, u78, u79, u80, u81, u82, u83, u84, u85, u86, u87, u88, u89, u90, u91, Value.bool true, Value.slice (some { block := g, off := 0 }) 3 cap, Value.pointer (some { block := g, off := 0 }), Value.string (bs h0), Value.bool true, Value.bool true, Value.slice (some { block := g, off := 0 }) 3 cap, Value.int IntKind.i64 3, Value.bool true, Value.bool true, U 102, U 103, U 104, U 105, U 106, U 107, U 108, U 109, U 110, U 111, U 112, U 113, U 114, U 115, undef, undef, undef, undef, undef, undef, undef, undef, undef, undef]) (fun T U x => Lw2 w C G g cap L a0 c0 a1 c1 a2 c2 x0 x1 x2 (T 11) (T 12) (T 14) T U x) rfl { pool := HP3.out.drew, q11 := fun z => (by cases z), dA := fun z => (by cases z), dL := fun z => (by cases z), dS := fun z => (by cases z), p102 := fun z => (by cases z), p103 := fun z => (by cases z), p104 := fun z => (by cases z), p105 := fun z => (by cases z), p106 := fun z => (by cases z), p107 := fun z => (by cases z), p108 := fun z => (by cases z), p109 := fun z => (by cases z), p110 := fun z => (by cases z), p111 := fun z => (by cases z), p112 := fun z => (by cases z), p115 := fun z => (by cases z) } (by decide) ?_ ?_
                  · rintro T U x i h hi hf hd K hK
                    obtain rfl | rfl | rfl | rfl | rfl | rfl | rfl | rfl | rfl | rfl | rfl | rfl | rfl | rfl | rfl := (by have : i < 15 := hi; omega : i = 0 ∨ i = 1 ∨ i = 2 ∨ i = 3 ∨ i = 4 ∨ i = 5 ∨ i = 6 ∨ i = 7 ∨ i = 8 ∨ i = 9 ∨ i = 10 ∨ i = 11 ∨ i = 12 ∨ i = 13 ∨ i = 14)
                    · refine wpOp_run (v := .pointer (some ⟨G, 2, none⟩)) (w' := x) (by rfl) (by rfl) ?_ (hK _ (upd U 102 _) _ rfl { h with p102 := fun _ => rfl })
                      go_simp
                    · have d0 := hd 0 (by kernel_rfl)
                      have z12 := nf h.dL hf
                      have z14 := nf h.dS z12
                      have cc := h.pool
                      rw [z12, z14] at cc
                      replace cc := (cc.blkAt (i := 1) rfl).c 2 _ rfl
                      refine wpOp_run (v := .slice a2 L.seen.length c2) (w' := x) (by rfl) (by rfl) ?_ (hK _ (upd U 103 _) _ rfl { h with p103 := fun _ => rfl, dL := fun _ => rfl })
                      rw [h.p102 d0]
                      go_simp
                    · refine wpOp_run (v := .slice (some ⟨g, 0, none⟩) 3 cap) (w' := x) (by rfl) (by rfl) ?_ (hK _ (upd U 104 _) _ rfl { h with p104 := fun _ => rfl })
                      go_simp
                    · have d2 := hd 2 (by kernel_rfl)
                      refine wpOp_run (v := .pointer (some ⟨g, 1, none⟩)) (w' := x) (by rfl) (by rfl) ?_ (hK _ (upd U 105 _) _ rfl { h with p105 := fun _ => rfl })
                      rw [h.p104 d2]
                      go_simp
                    · have d3 := hd 3 (by kernel_rfl)
                      have cc := h.pool.clsAt (i := 6) rfl 1 _ rfl
                      refine wpOp_run (v := .string (bs x1)) (w' := x) (by rfl) (by rfl) ?_ (hK _ (upd U 106 _) _ rfl { h with p106 := fun _ => rfl })
                      rw [h.p105 d3]
                      go_simp
                    · have d4 := hd 4 (by kernel_rfl)
                      refine wpOp_call (by rfl) (by rfl) ?_ (l3Num_any (bs x1) _ (by rw [bs_size]; unfold maxLen; omega)) ?_
                      · rw [h.p106 d4]; go_simp
                      · rintro e w' ⟨rfl, rfl⟩
                        exact ⟨_, rfl, hK _ (upd U 107 _) _ rfl { h with p107 := fun _ => rfl }⟩
                    · refine wpOp_run (v := .slice (some ⟨g, 0, none⟩) 3 cap) (w' := x) (by rfl) (by rfl) ?_ (hK _ (upd U 108 _) _ rfl { h with p108 := fun _ => rfl })
                      go_simp
                    · have d6 := hd 6 (by kernel_rfl)
                      refine wpOp_run (v := .pointer (some ⟨g, 2, none⟩)) (w' := x) (by rfl) (by rfl) ?_ (hK _ (upd U 109 _) _ rfl { h with p109 := fun _ => rfl })
                      rw [h.p108 d6]
                      go_simp
                    · have d7 := hd 7 (by kernel_rfl)
                      have cc := h.pool.clsAt (i := 6) rfl 2 _ rfl
                      refine wpOp_run (v := .string (bs x2)) (w' := x) (by rfl) (by rfl) ?_ (hK _ (upd U 110 _) _ rfl { h with p110 := fun _ => rfl })
                      rw [h.p109 d7]
                      go_simp
                    · have d8 := hd 8 (by kernel_rfl)
                      refine wpOp_call (by rfl) (by rfl) ?_ (l3Num_any (bs x2) _ (by rw [bs_size]; unfold maxLen; omega)) ?_
                      · rw [h.p110 d8]; go_simp
                      · rintro e w' ⟨rfl, rfl⟩
                        exact ⟨_, rfl, hK _ (upd U 111 _) _ rfl { h with p111 := fun _ => rfl }⟩
                    · have d5 := hd 5 (by kernel_rfl)
                      have d9 := hd 9 (by kernel_rfl)
                      refine wpOp_run (v := .agg #[.int .i64 (numV x1), .int .i64 (numV x2)]) (w' := x) (by rfl) (by rfl) ?_ (hK _ (upd U 112 _) _ rfl { h with p112 := fun _ => rfl })
                      rw [h.p107 d5, h.p111 d9]
                      go_simp
                    · have d10 := hd 10 (by kernel_rfl)
                      have z12 : T 12 = false := nf h.dA hf
                      have z14 : T 14 = false := nf h.dS z12
                      rw [hf, z12, z14] at h
                      refine wpOp_run (v := .slice (some ⟨x.heap.size, 0, none⟩) 1 1) (w' := x.alloc (.cells #[.int .i64 (numV x1), .int .i64 (numV x2)] 55)) (by rfl) (by rfl) ?_ (hK _ (upd U 113 _) _ rfl (by show Lw2 _ _ _ _ _ _ _ _ _ _ _ _ _ _ _ true (T 12) (T 14) _ _ _; rw [z12, z14]; exact { h with q11 := (fun _ => rfl), pool := (h.pool.newBlk (i := 5) rfl (snCells (⟨numV x1, numV x2⟩ : Sn)) 55) , dA := fun z => (by cases z), dS := fun z => (by cases z), dL := fun z => (by cases z) }))
                      rw [h.p112 d10]
                      go_simp
                    · have d1 := hd 1 (by kernel_rfl)
                      have d11 := hd 11 (by kernel_rfl)
                      have z14 : T 14 = false := nf h.dS hf
                      rw [d11, hf, z14] at h
                      obtain ⟨v', z, hr, hp⟩ := h.pool.append (P := Tryz.prog) (i0 := 4) rfl 26 26 i2 _ 16 Tryz.underlying26 hi2 hz2 hy2 hx2 rfl (by decide) (some ⟨gOf (slA (U 113)), 0, none⟩) 1 1 (snCells (⟨numV x1, numV x2⟩ : Sn)) rfl (fun e => by cases e) (blk_news (h.pool.blkAt (i := 5) rfl)) (se1 (⟨numV x1, numV x2⟩ : Sn)) (by unfold maxLen; omega) (by omega)
                      refine wpOp_run (v := v') (w' := z) (by rfl) (by rfl) ?_ (hK _ (upd U 114 _) _ rfl (by show Lw2 _ _ _ _ _ _ _ _ _ _ _ _ _ _ _ (T 11) true (T 14) _ _ _; rw [d11, z14]; exact { h with pool := (hp) , dA := fun _ => rfl, dL := fun _ => d1, dS := fun z => (by cases z) }))
                      exact exec_append rfl (h.p103 d1) (h.q11 rfl) hr
                    · refine wpOp_run (v := .pointer (some ⟨G, 2, none⟩)) (w' := x) (by rfl) (by rfl) ?_ (hK _ (upd U 115 _) _ rfl { h with p115 := fun _ => rfl })
                      go_simp
                    · have d11 := hd 11 (by kernel_rfl)
                      have d12 := hd 12 (by kernel_rfl)
                      have d13 := hd 13 (by kernel_rfl)
                      rw [d11, d12, hf] at h
                      obtain ⟨a6, k6, e6⟩ := row_shape (h.pool.rowAt (i := 4) rfl)
                      have A6 := h.pool.blkAt (i := 1) rfl
                      have t1 := A6.c 2 _ rfl
                      have f1 := A6.f 2
                      refine wpOp_skip (w' := x.setCell ⟨G, 2, none⟩ (U 114)) (by rfl) (by rfl) ?_ (hK _ U _ rfl (by show Lw2 _ _ _ _ _ _ _ _ _ _ _ _ _ _ _ (T 11) (T 12) true _ _ _; rw [d11, d12]; exact { h with pool := (h.pool.setBlk (i := 1) rfl 2 (U 114) (by simp)), dS := fun _ => rfl }))
                      rw [h.p115 d13, e6]
                      go_simp
                  · rintro U x h
                    replace h : Lw2 w C G g cap L a0 c0 a1 c1 a2 c2 x0 x1 x2 true true true _ U x := h
                    obtain ⟨a6, k6, e6⟩ := row_shape (h.pool.rowAt (i := 4) rfl)
                    have HPn : Hid (Pool [] w [[blk C [.slice none 0 0, .slice none 0 0, .slice none 0 0]], [blk G [.slice a0 L.acc.length c0, .slice a1 L.hold.length c1, .slice a6 (L.seen ++ [(⟨numV x1, numV x2⟩ : Sn)]).length k6]], [row 50 4 (.slice a0 L.acc.length c0) L.acc.length (L.acc.flatMap accCells)], [row 53 4 (.slice a1 L.hold.length c1) L.hold.length (L.hold.flatMap hldCells)], [row 55 2 (.slice a6 (L.seen ++ [(⟨numV x1, numV x2⟩ : Sn)]).length k6) (L.seen ++ [(⟨numV x1, numV x2⟩ : Sn)]).length ((L.seen ++ [(⟨numV x1, numV x2⟩ : Sn)]).flatMap snCells)], [], []] x) := hide (by
                      have z := (h.pool.drop (i := 5) rfl).drop (i := 6) rfl
                      rw [e6] at z
                      have e2 : L.seen.flatMap snCells ++ snCells (⟨numV x1, numV x2⟩ : Sn) = (L.seen ++ [(⟨numV x1, numV x2⟩ : Sn)]).flatMap snCells := by simp
                      have e3 : L.seen.length + 1 = (L.seen ++ [(⟨numV x1, numV x2⟩ : Sn)]).length := by simp
                      rw [e2, e3] at z
                      exact z)
                    have HIn : Hid (SlI s r ⟨L.acc, L.hold, L.seen ++ [⟨numV x1, numV x2⟩]⟩) := hide (HI.out.line HQ.out HNl.out (by rw [HX.out]; have z := HH.out; rw [HX.out, HA.out] at z; simp only [List.getD_cons_zero] at z; rw [← z]; rfl) (by simp; omega) ⟨HI.out.w.acc, HI.out.w.hold, fun z hz => (by rcases List.mem_append.1 hz with q | q; exact HI.out.w.seen z q; rw [List.mem_singleton.1 q]; exact ⟨num_i64 _, num_i64 _⟩)⟩)
                    have hsr : strLen (.string (bs r)) < strLen (.string (bs q)) := by simp only [strLen, bs_size]; omega
                    clear h e6
                    go_wp2
                    exact ⟨⟨r, ⟨L.acc, L.hold, L.seen ++ [⟨numV x1, numV x2⟩]⟩, a0, c0, a1, c1, a6, k6, rfl, HIn, HPn⟩, hsr⟩

                · have h5' : ¬ (m : Int) = 3 := by omega
                  have HP3 : Hid (Pool [] w [[blk C [.slice none 0 0, .slice none 0 0, .slice none 0 0]], [blk G [.slice a0 L.acc.length c0, .slice a1 L.hold.length c1, .slice a2 L.seen.length c2]], [row 50 4 (.slice a0 L.acc.length c0) L.acc.length (L.acc.flatMap accCells)], [row 53 4 (.slice a1 L.hold.length c1) L.hold.length (L.hold.flatMap hldCells)], [row 55 2 (.slice a2 L.seen.length c2) L.seen.length (L.seen.flatMap snCells)], [], []] w3) := hide (HP2.out.keep HB3.out)
                  have HIn : Hid (SlI s r L) := hide (HI.out.line HQ.out HNl.out (by rw [mStep, ← HH.out, HM.out, HA.out]; simp [h5, acW, hoW, seW]) (by omega) HI.out.w)
                  have hsr : strLen (.string (bs r)) < strLen (.string (bs q)) := by simp only [strLen, bs_size]; omega
                  go_wp2_with fail
                  exact ⟨⟨r, L, a0, c0, a1, c1, a2, c2, rfl, HIn, HP3⟩, hsr⟩
              · have n2 := hA
                clear hA
                have k0 : ¬ (bs h0).toList = [97, 99, 99, 111, 117, 110, 116] := by rw [bs_tl]; exact n0
                have k1 : ¬ (bs h0).toList = [104, 111, 108, 100] := by rw [bs_tl]; exact n1
                have k2 : ¬ (bs h0).toList = [115, 101, 101, 110] := by rw [bs_tl]; exact n2
                have HP3 : Hid (Pool [] w [[blk C [.slice none 0 0, .slice none 0 0, .slice none 0 0]], [blk G [.slice a0 L.acc.length c0, .slice a1 L.hold.length c1, .slice a2 L.seen.length c2]], [row 50 4 (.slice a0 L.acc.length c0) L.acc.length (L.acc.flatMap accCells)], [row 53 4 (.slice a1 L.hold.length c1) L.hold.length (L.hold.flatMap hldCells)], [row 55 2 (.slice a2 L.seen.length c2) L.seen.length (L.seen.flatMap snCells)], [], []] w3) := hide (HP2.out.keep HB3.out)
                have HIn : Hid (SlI s r L) := hide (HI.out.line HQ.out HNl.out (by rw [mStep, ← HH.out]; simp [n0, n1, n2]) (by omega) HI.out.w)
                have hsr : strLen (.string (bs r)) < strLen (.string (bs q)) := by simp only [strLen, bs_size]; omega
                go_wp2_with fail
                exact ⟨⟨r, L, a0, c0, a1, c1, a2, c2, rfl, HIn, HP3⟩, hsr⟩
        · have HNb : Hid (∀ b ∈ q, b ≠ 10) := hide (fun b hb z => hno b (by rw [bs_list]; exact hb) (by rw [z]; rfl))
          have HP2 : Hid (Pool [] w [[blk C [.slice none 0 0, .slice none 0 0, .slice none 0 0]], [blk G [.slice a0 L.acc.length c0, .slice a1 L.hold.length c1, .slice a2 L.seen.length c2]], [row 50 4 (.slice a0 L.acc.length c0) L.acc.length (L.acc.flatMap accCells)], [row 53 4 (.slice a1 L.hold.length c1) L.hold.length (L.hold.flatMap hldCells)], [row 55 2 (.slice a2 L.seen.length c2) L.seen.length (L.seen.flatMap snCells)], [], []] w2) := hide (HPr.out.keep hk.below)
          clear hk HPr hno hqe hqe'
          go_wp2_with fail
          refine (l3Words_any q _ (by omega)).mono ?_
          rintro e w3 ⟨hb, g, cap, rfl, hg, hc⟩
          have HP3 : Hid (Pool [] w [[blk C [.slice none 0 0, .slice none 0 0, .slice none 0 0]], [blk G [.slice a0 L.acc.length c0, .slice a1 L.hold.length c1, .slice a2 L.seen.length c2]], [row 50 4 (.slice a0 L.acc.length c0) L.acc.length (L.acc.flatMap accCells)], [row 53 4 (.slice a1 L.hold.length c1) L.hold.length (L.hold.flatMap hldCells)], [row 55 2 (.slice a2 L.seen.length c2) L.seen.length (L.seen.flatMap snCells)], [], []] w3) := hide (HP2.out.keep hb)
          clear hb hc HP2 hg
          obtain ⟨⟨z0, z1, z2⟩, y0, y1, y2⟩ := HP3.out.cells3 (i := 0) rfl
          have p1 := HP3.out.setN3 (i := 0) rfl (.slice none 0 0) (.slice none 0 0) (.slice none 0 0)
          obtain ⟨⟨x0, x1, x2⟩, _⟩ := p1.cells3 (i := 0) rfl
          have HB : Hid (Pool [] w [ledL nilP nilL] _) := hide ((((((((p1.drop (i := 0) rfl).drop (i := 1) rfl).drop (i := 2) rfl).drop (i := 3) rfl).drop (i := 4) rfl).drop (i := 5) rfl).nilLed (i := 0) rfl).cast (by simp))
          clear p1
          go_wp2_with fail
          refine bodyPost_ret (v := .tuple #[ledV nilP nilL, .bool false]) (by simp [results, Tryz.results13, go_sem, x0, x1, x2, ledV, nilP, nilL]) rfl ⟨nilL, nilP, false, ⟨fun z => (by cases z), fun _ => ⟨fun D hD e => ?_, rfl, rfl⟩, nilL_w, nilP_ok, by simp [nilL]⟩, rfl, HB.out⟩
          have h1 := mRd_text hD s.length (by rw [e]; exact Nat.le_refl _)
          obtain ⟨n, hn, en⟩ := HI.out.n
          rw [e, en, mRd_bad HNb.out HQE.out n L hn] at h1
          cases h1
      · have hqe' : (bs q).toList.isEmpty = true := by rw [isEmpty_bs]; exact hqe
        have HQE : Hid (q = []) := hide (by simpa using hqe)
        obtain ⟨b0, k0, e0, s0, p0⟩ := Pool.toOrow accLen HPr.out (i := 2) rfl
        obtain ⟨b1, k1, e1, s1, p1⟩ := Pool.toOrow hldLen p0 (i := 3) rfl
        obtain ⟨b2, k2, e2, s2, p2⟩ := Pool.toOrow snLen p1 (i := 4) rfl
        simp only [Value.slice.injEq, true_and] at e0 e1 e2
        obtain ⟨rfl, rfl⟩ := e0
        obtain ⟨rfl, rfl⟩ := e1
        obtain ⟨rfl, rfl⟩ := e2
        have HPK : Hid (PlOk ⟨a0, c0, a1, c1, a2, c2⟩ L) := hide ⟨s0, s1, s2⟩
        have HP6 : Hid (Pool [] w [[blk C [.slice none 0 0, .slice none 0 0, .slice none 0 0]], [blk G [.slice a0 L.acc.length c0, .slice a1 L.hold.length c1, .slice a2 L.seen.length c2]], ledL ⟨a0, c0, a1, c1, a2, c2⟩ L] wr) := hide (p2.cast (by simp [ledL]))
        clear HPr s0 s1 s2 p0 p1 p2
        have HLd : Hid (LedAt wr a0 a1 a2 L) := hide (by
          have st := HP6.out.get (i := 2) rfl
          exact ⟨(st.get (r := orow 4 accCells a0 c0 L.acc) (by simp [ledL])).2.rows.acc HI.out.w.acc, (st.get (r := orow 4 hldCells a1 c1 L.hold) (by simp [ledL])).2.rows.hold HI.out.w.hold, (st.get (r := orow 2 snCells a2 c2 L.seen) (by simp [ledL])).2.rows.ans HI.out.w.seen⟩)
        have g0 := (HP6.out.blkAt (i := 1) rfl).c 0 _ rfl
        have g1 := (HP6.out.blkAt (i := 1) rfl).c 1 _ rfl
        have g2 := (HP6.out.blkAt (i := 1) rfl).c 2 _ rfl
        cases hse : s.isEmpty
        · have hse' : (bs s).toList.isEmpty = false := by rw [isEmpty_bs]; exact hse
          have HSE : Hid (s ≠ []) := hide (fun z => by rw [z] at hse; cases hse)
          go_wp2_with fail
          refine (specLedText_any a0 a1 a2 L c0 c1 c2 _ HLd.out (by omega) (by omega) (by omega)).mono ?_
          rintro e w4 ⟨rfl, hb⟩
          have HP7 : Hid (Pool [] w [[blk C [.slice none 0 0, .slice none 0 0, .slice none 0 0]], [blk G [.slice a0 L.acc.length c0, .slice a1 L.hold.length c1, .slice a2 L.seen.length c2]], ledL ⟨a0, c0, a1, c1, a2, c2⟩ L] w4) := hide (HP6.out.keep hb)
          clear hb HP6 HLd g0 g1 g2
          cases hcmp : ((bs (ledT L)).toList == (bs s).toList)
          · have HNe : Hid (ledT L ≠ s) := hide (fun z => by rw [z] at hcmp; simp at hcmp)
            obtain ⟨⟨z0, z1, z2⟩, y0, y1, y2⟩ := HP7.out.cells3 (i := 0) rfl
            have p1 := HP7.out.setN3 (i := 0) rfl (.slice none 0 0) (.slice none 0 0) (.slice none 0 0)
            obtain ⟨⟨x0, x1, x2⟩, _⟩ := p1.cells3 (i := 0) rfl
            have HB : Hid (Pool [] w [ledL nilP nilL] _) := hide (((((p1.drop (i := 0) rfl).drop (i := 1) rfl).drop (i := 2) rfl).nilLed (i := 0) rfl).cast (by simp))
            clear p1
            go_wp2_with fail
            refine bodyPost_ret (v := .tuple #[ledV nilP nilL, .bool false]) (by simp [results, Tryz.results13, go_sem, x0, x1, x2, ledV, nilP, nilL]) rfl ⟨nilL, nilP, false, ⟨fun z => (by cases z), fun _ => ⟨fun D hD e => ?_, rfl, rfl⟩, nilL_w, nilP_ok, by simp [nilL]⟩, rfl, HB.out⟩
            have h1 := mRd_text hD s.length (by rw [e]; exact Nat.le_refl _)
            obtain ⟨n, hn, en⟩ := HI.out.n
            rw [e, en, HQE.out, mRd_nil] at h1
            cases h1
            exact HNe.out e
          · have HEq : Hid (ledT L = s) := hide (by rw [bs_beq] at hcmp; simpa using hcmp)
            have g0 := (HP7.out.blkAt (i := 1) rfl).c 0 _ rfl
            have g1 := (HP7.out.blkAt (i := 1) rfl).c 1 _ rfl
            have g2 := (HP7.out.blkAt (i := 1) rfl).c 2 _ rfl
            obtain ⟨⟨z0, z1, z2⟩, y0, y1, y2⟩ := HP7.out.cells3 (i := 0) rfl
            have p1 := HP7.out.setN3 (i := 0) rfl (.slice a0 L.acc.length c0) (.slice a1 L.hold.length c1) (.slice a2 L.seen.length c2)
            obtain ⟨⟨x0, x1, x2⟩, _⟩ := p1.cells3 (i := 0) rfl
            have HB : Hid (Pool [] w [ledL ⟨a0, c0, a1, c1, a2, c2⟩ L] _) := hide (((p1.drop (i := 0) rfl).drop (i := 1) rfl).cast (by simp))
            clear p1
            go_wp2_with fail
            refine bodyPost_ret (v := .tuple #[ledV ⟨a0, c0, a1, c1, a2, c2⟩ L, .bool true]) (by simp [results, Tryz.results13, go_sem, x0, x1, x2, ledV]) rfl ⟨L, ⟨a0, c0, a1, c1, a2, c2⟩, true, ⟨fun _ => ⟨HEq.out, ?_⟩, fun z => (by cases z), HI.out.w, HPK.out, ⟨by omega, by omega, by omega⟩⟩, rfl, HB.out⟩
            cases hl : ledS L
            · exact absurd (by rw [← HEq.out]; simp [ledT, hl]) HSE.out
            · rfl
        · have hse' : (bs s).toList.isEmpty = true := by rw [isEmpty_bs]; exact hse
          have HSE : Hid (s = []) := hide (by simpa using hse)
          obtain ⟨⟨z0, z1, z2⟩, y0, y1, y2⟩ := HP6.out.cells3 (i := 0) rfl
          have p1 := HP6.out.setN3 (i := 0) rfl (.slice none 0 0) (.slice none 0 0) (.slice none 0 0)
          obtain ⟨⟨x0, x1, x2⟩, _⟩ := p1.cells3 (i := 0) rfl
          have HB : Hid (Pool [] w [ledL nilP nilL] _) := hide (((((p1.drop (i := 0) rfl).drop (i := 1) rfl).drop (i := 2) rfl).nilLed (i := 0) rfl).cast (by simp))
          clear p1
          go_wp2_with fail
          refine bodyPost_ret (v := .tuple #[ledV nilP nilL, .bool false]) (by simp [results, Tryz.results13, go_sem, x0, x1, x2, ledV, nilP, nilL]) rfl ⟨nilL, nilP, false, ⟨fun z => (by cases z), fun _ => ⟨fun D hD e => ?_, rfl, rfl⟩, nilL_w, nilP_ok, by simp [nilL]⟩, rfl, HB.out⟩
          rw [ledT_eq hD, HSE.out] at e
          simp [ldW] at e
    · have hb' : ¬ (s.length : Int) ≤ 10000 := by omega
      cases hqe : q.isEmpty
      · have hqe' : (bs q).toList.isEmpty = false := by rw [isEmpty_bs]; exact hqe
        obtain ⟨b0, k0, e0, s0, p0⟩ := Pool.toOrow accLen HPr.out (i := 2) rfl
        obtain ⟨b1, k1, e1, s1, p1⟩ := Pool.toOrow hldLen p0 (i := 3) rfl
        obtain ⟨b2, k2, e2, s2, p2⟩ := Pool.toOrow snLen p1 (i := 4) rfl
        simp only [Value.slice.injEq, true_and] at e0 e1 e2
        obtain ⟨rfl, rfl⟩ := e0
        obtain ⟨rfl, rfl⟩ := e1
        obtain ⟨rfl, rfl⟩ := e2
        have HPK : Hid (PlOk ⟨a0, c0, a1, c1, a2, c2⟩ L) := hide ⟨s0, s1, s2⟩
        have HP6 : Hid (Pool [] w [[blk C [.slice none 0 0, .slice none 0 0, .slice none 0 0]], [blk G [.slice a0 L.acc.length c0, .slice a1 L.hold.length c1, .slice a2 L.seen.length c2]], ledL ⟨a0, c0, a1, c1, a2, c2⟩ L] wr) := hide (p2.cast (by simp [ledL]))
        clear HPr s0 s1 s2 p0 p1 p2
        have HLd : Hid (LedAt wr a0 a1 a2 L) := hide (by
          have st := HP6.out.get (i := 2) rfl
          exact ⟨(st.get (r := orow 4 accCells a0 c0 L.acc) (by simp [ledL])).2.rows.acc HI.out.w.acc, (st.get (r := orow 4 hldCells a1 c1 L.hold) (by simp [ledL])).2.rows.hold HI.out.w.hold, (st.get (r := orow 2 snCells a2 c2 L.seen) (by simp [ledL])).2.rows.ans HI.out.w.seen⟩)
        have g0 := (HP6.out.blkAt (i := 1) rfl).c 0 _ rfl
        have g1 := (HP6.out.blkAt (i := 1) rfl).c 1 _ rfl
        have g2 := (HP6.out.blkAt (i := 1) rfl).c 2 _ rfl
        have hse' : (bs s).toList.isEmpty = false := by rw [isEmpty_bs]; cases hz : s.isEmpty; rfl; exact absurd (by rw [List.isEmpty_iff.1 hz]; simp : s.length ≤ 10000) hbig
        have HSE : Hid (s ≠ []) := hide (fun z => by rw [z] at hbig; exact hbig (by simp))
        go_wp2_with fail
        refine (specLedText_any a0 a1 a2 L c0 c1 c2 _ HLd.out (by omega) (by omega) (by omega)).mono ?_
        rintro e w4 ⟨rfl, hb⟩
        have HP7 : Hid (Pool [] w [[blk C [.slice none 0 0, .slice none 0 0, .slice none 0 0]], [blk G [.slice a0 L.acc.length c0, .slice a1 L.hold.length c1, .slice a2 L.seen.length c2]], ledL ⟨a0, c0, a1, c1, a2, c2⟩ L] w4) := hide (HP6.out.keep hb)
        clear hb HP6 HLd g0 g1 g2
        cases hcmp : ((bs (ledT L)).toList == (bs s).toList)
        · have HNe : Hid (ledT L ≠ s) := hide (fun z => by rw [z] at hcmp; simp at hcmp)
          obtain ⟨⟨z0, z1, z2⟩, y0, y1, y2⟩ := HP7.out.cells3 (i := 0) rfl
          have p1 := HP7.out.setN3 (i := 0) rfl (.slice none 0 0) (.slice none 0 0) (.slice none 0 0)
          obtain ⟨⟨x0, x1, x2⟩, _⟩ := p1.cells3 (i := 0) rfl
          have HB : Hid (Pool [] w [ledL nilP nilL] _) := hide (((((p1.drop (i := 0) rfl).drop (i := 1) rfl).drop (i := 2) rfl).nilLed (i := 0) rfl).cast (by simp))
          clear p1
          go_wp2_with fail
          refine bodyPost_ret (v := .tuple #[ledV nilP nilL, .bool false]) (by simp [results, Tryz.results13, go_sem, x0, x1, x2, ledV, nilP, nilL]) rfl ⟨nilL, nilP, false, ⟨fun z => (by cases z), fun _ => ⟨fun D hD e => ?_, rfl, rfl⟩, nilL_w, nilP_ok, by simp [nilL]⟩, rfl, HB.out⟩
          exact hbig (by rw [← e]; exact ledT_len hD)
        · have q : ledT L = s := by rw [bs_beq] at hcmp; simpa using hcmp
          cases hl : ledS L
          · exact absurd (by rw [← q]; simp [ledT, hl]) HSE.out
          · exact absurd (by rw [← q]; exact ledT_len hl) hbig
      · have hqe' : (bs q).toList.isEmpty = true := by rw [isEmpty_bs]; exact hqe
        obtain ⟨b0, k0, e0, s0, p0⟩ := Pool.toOrow accLen HPr.out (i := 2) rfl
        obtain ⟨b1, k1, e1, s1, p1⟩ := Pool.toOrow hldLen p0 (i := 3) rfl
        obtain ⟨b2, k2, e2, s2, p2⟩ := Pool.toOrow snLen p1 (i := 4) rfl
        simp only [Value.slice.injEq, true_and] at e0 e1 e2
        obtain ⟨rfl, rfl⟩ := e0
        obtain ⟨rfl, rfl⟩ := e1
        obtain ⟨rfl, rfl⟩ := e2
        have HPK : Hid (PlOk ⟨a0, c0, a1, c1, a2, c2⟩ L) := hide ⟨s0, s1, s2⟩
        have HP6 : Hid (Pool [] w [[blk C [.slice none 0 0, .slice none 0 0, .slice none 0 0]], [blk G [.slice a0 L.acc.length c0, .slice a1 L.hold.length c1, .slice a2 L.seen.length c2]], ledL ⟨a0, c0, a1, c1, a2, c2⟩ L] wr) := hide (p2.cast (by simp [ledL]))
        clear HPr s0 s1 s2 p0 p1 p2
        have HLd : Hid (LedAt wr a0 a1 a2 L) := hide (by
          have st := HP6.out.get (i := 2) rfl
          exact ⟨(st.get (r := orow 4 accCells a0 c0 L.acc) (by simp [ledL])).2.rows.acc HI.out.w.acc, (st.get (r := orow 4 hldCells a1 c1 L.hold) (by simp [ledL])).2.rows.hold HI.out.w.hold, (st.get (r := orow 2 snCells a2 c2 L.seen) (by simp [ledL])).2.rows.ans HI.out.w.seen⟩)
        have g0 := (HP6.out.blkAt (i := 1) rfl).c 0 _ rfl
        have g1 := (HP6.out.blkAt (i := 1) rfl).c 1 _ rfl
        have g2 := (HP6.out.blkAt (i := 1) rfl).c 2 _ rfl
        have hse' : (bs s).toList.isEmpty = false := by rw [isEmpty_bs]; cases hz : s.isEmpty; rfl; exact absurd (by rw [List.isEmpty_iff.1 hz]; simp : s.length ≤ 10000) hbig
        have HSE : Hid (s ≠ []) := hide (fun z => by rw [z] at hbig; exact hbig (by simp))
        go_wp2_with fail
        refine (specLedText_any a0 a1 a2 L c0 c1 c2 _ HLd.out (by omega) (by omega) (by omega)).mono ?_
        rintro e w4 ⟨rfl, hb⟩
        have HP7 : Hid (Pool [] w [[blk C [.slice none 0 0, .slice none 0 0, .slice none 0 0]], [blk G [.slice a0 L.acc.length c0, .slice a1 L.hold.length c1, .slice a2 L.seen.length c2]], ledL ⟨a0, c0, a1, c1, a2, c2⟩ L] w4) := hide (HP6.out.keep hb)
        clear hb HP6 HLd g0 g1 g2
        cases hcmp : ((bs (ledT L)).toList == (bs s).toList)
        · have HNe : Hid (ledT L ≠ s) := hide (fun z => by rw [z] at hcmp; simp at hcmp)
          obtain ⟨⟨z0, z1, z2⟩, y0, y1, y2⟩ := HP7.out.cells3 (i := 0) rfl
          have p1 := HP7.out.setN3 (i := 0) rfl (.slice none 0 0) (.slice none 0 0) (.slice none 0 0)
          obtain ⟨⟨x0, x1, x2⟩, _⟩ := p1.cells3 (i := 0) rfl
          have HB : Hid (Pool [] w [ledL nilP nilL] _) := hide (((((p1.drop (i := 0) rfl).drop (i := 1) rfl).drop (i := 2) rfl).nilLed (i := 0) rfl).cast (by simp))
          clear p1
          go_wp2_with fail
          refine bodyPost_ret (v := .tuple #[ledV nilP nilL, .bool false]) (by simp [results, Tryz.results13, go_sem, x0, x1, x2, ledV, nilP, nilL]) rfl ⟨nilL, nilP, false, ⟨fun z => (by cases z), fun _ => ⟨fun D hD e => ?_, rfl, rfl⟩, nilL_w, nilP_ok, by simp [nilL]⟩, rfl, HB.out⟩
          exact hbig (by rw [← e]; exact ledT_len hD)
        · have q : ledT L = s := by rw [bs_beq] at hcmp; simpa using hcmp
          cases hl : ledS L
          · exact absurd (by rw [← q]; simp [ledT, hl]) HSE.out
          · exact absurd (by rw [← q]; exact ledT_len hl) hbig

end Go.Proofs.YteaopalhbnhbaaaGreatDoor
