/- The contract of the book's ledger: its accounts, sorted by their names. -/
import Derived.Test.YtjjoeajnhblacaaGreatDoorBkB
import Derived.Test.YtjjoeajnhblacaaGreatDoorBkL
import Derived.Test.YtjjoeajnhblacaaGreatDoorGd
import Derived.Sort.KeysCollected
namespace Go.Proofs.YtjjoeajnhblacaaGreatDoor
open Go.ChangeShapes Go.WideShapes Go.ChangeAt Go.RowKit Go.Maps Go.Sort
set_option linter.unusedVariables false
set_option maxRecDepth 100000
def nmA (l : List Acc) : List (List UInt8) := l.map (fun f => f.name.data.toList)
theorem nmA_toList (s : ByteArray) : s.toList = s.data.toList := Lib.toList_data s
theorem keysA_perm {x : World} {m n : Nat} {A B : List Acc} {D : DataW Unit} {ps : List Nat} (ho : x.ownsMap Tryz.prog 9 ptrElem m n D) (hk : MapKs D (A.map Acc.name) ps) (hB : B.Perm A) (hs : Srt B) : (nmA B).Perm (strKeys D) := by
  have honly : ∀ kl, Maps.has D kl = true → ∃ f ∈ B, kl = kn f.name := fun kl h => by
    obtain ⟨i, hi, e⟩ := hk.only kl h
    have hi' : i < A.length := by simpa using hi
    exact ⟨A[i], hB.mem_iff.2 (List.getElem_mem hi'), by simpa using e⟩
  have hat : ∀ f ∈ B, ∃ p, ∀ z, D.atKey (kn f.name) z = ptrD p := fun f hf => by
    obtain ⟨i, hi, rfl⟩ := List.mem_iff_getElem.1 (hB.mem_iff.1 hf)
    exact ⟨_, fun z => by have := hk.at_ i (by simpa using hi) z; simpa using this⟩
  obtain ⟨es, rfl, hp, _⟩ := ho.entries law9
  refine perm_strKeys hp (fun p hp' => ?_) ?_ (fun x => ?_)
  · have := honly p.1 (by
      rw [has_eq, List.any_eq_true]
      exact ⟨p, hp', WideAt.sameKey_self (by
        obtain ⟨es2, e2, _, h2⟩ := ho.entries law9
        cases e2
        exact h2 p hp')⟩)
    obtain ⟨f, _, e⟩ := this
    exact ⟨_, e⟩
  · unfold nmA
    refine List.pairwise_map.2 (List.Pairwise.imp (fun {a b} h e => ?_) hs)
    rw [nmA_toList, nmA_toList, e] at h
    exact List.lt_irrefl _ h
  · unfold nmA
    rw [List.mem_map]
    constructor
    · rintro ⟨f, hf, rfl⟩
      obtain ⟨p, hp⟩ := hat f hf
      exact has_true_of_atKey hp
    · intro h
      obtain ⟨f, hf, e⟩ := honly _ h
      exact ⟨f, hf, by simp only [kn, Lit.string.injEq] at e; exact e.symm⟩
theorem nmA_sorted {l : List Acc} (hs : Srt l) {ss : List (List UInt8)} (h : (nmA l).Perm ss) : ss.mergeSort (fun x y => decide (x ≤ y)) = nmA l := by
  have tr : ∀ a b c : List UInt8, leB a b = true → leB b c = true → leB a c = true := fun a b c h1 h2 => by simp only [leB, decide_eq_true_eq] at *; exact List.le_trans h1 h2
  have tot : ∀ a b : List UInt8, (leB a b || leB b a) = true := fun a b => by simp only [leB, Bool.or_eq_true, decide_eq_true_eq]; exact List.le_total a b
  refine List.Perm.eq_of_pairwise (le := fun a b => leB a b = true) (fun a b _ _ h1 h2 => ?_) (List.pairwise_mergeSort tr tot ss) ?_ ((List.mergeSort_perm ss leB).trans h.symm)
  · simp only [leB, decide_eq_true_eq] at h1 h2
    exact List.le_antisymm h1 h2
  · unfold nmA
    refine List.pairwise_map.2 (List.Pairwise.imp (fun {a b} h => ?_) hs)
    simp only [leB, decide_eq_true_eq]
    rw [nmA_toList, nmA_toList] at h
    exact List.le_of_lt h
def nmC (f : Acc) : List Value := [.string f.name]
theorem nmCLen (f : Acc) : (nmC f).length = 1 := rfl
theorem nmA_enc (l : List Acc) : (nmA l).map encStr = l.flatMap nmC := by
  induction l with
  | nil => rfl
  | cons f l ih =>
    have e : encStr f.name.data.toList = .string f.name := by simp [encStr]
    show encStr f.name.data.toList :: (nmA l).map encStr = nmC f ++ l.flatMap nmC
    rw [ih, e]
    rfl
theorem nmA_len (l : List Acc) : (nmA l).length = l.length := by simp [nmA]
theorem nmC_row {w : World} {a : Option Addr} {l : List Acc} (h : RowAt 1 nmC w a l) (i : Nat) (hi : i < l.length) : ∃ b off, a = some ⟨b, off, none⟩ ∧ b < w.heap.size ∧ w.cell? ⟨b, off + i, none⟩ = some (.string l[i].name) := by
  obtain ⟨b, off, e, hb, hc⟩ := h i hi
  exact ⟨b, off, e, hb, by simpa using hc 0 _ rfl⟩
theorem look_map {x : World} {m : Nat} {ns : List ByteArray} {ps : List Nat} (h : (mapR m ns ps).P x) {j : Nat} (hj : j < ns.length) (hn : ns[j].size ≤ maxLen) : (Instr.lookup 63 (.map (some m)) (.string ns[j]) false).run Tryz.prog x = .ok (.pointer (some ⟨ps.getD j 0, 0, none⟩)) x := by
  obtain ⟨D, ho, hi⟩ := h
  exact look_at ho hn (hi.at_ j hj)
theorem own_mono {w : World} {base base' : Nat} {T : TypeId} {sz n : Nat} {v : Value} {xs : List Value} (hb : base ≤ base') (h : w.ownsRow base' T sz v n xs) : w.ownsRow base T sz v n xs := by
  obtain ⟨h1, h2 | ⟨g, c, cur, e, hg, r⟩⟩ := h
  · exact ⟨h1, .inl h2⟩
  · exact ⟨h1, .inr ⟨g, c, cur, e, Nat.le_trans hb hg, r⟩⟩
/-- a ledger of the book -/
def LgEnd (B : List Acc) (H : List Hld) (S : List Sn) (FF : List Nat) (w : World) (e : Ending) (w' : World) : Prop := ∃ p : LP, e = .returned (ledV p ⟨B, H, S⟩) ∧ PlOk p ⟨B, H, S⟩ ∧ Pool FF w [ledL p ⟨B, H, S⟩] w'
structure LgF (FF : List Nat) (w : World) (q m : Nat) (ps : List Nat) (ha : Option Addr) (ch : Nat) (sa : Option Addr) (cs : Nat) (A : List Acc) (H : List Hld) (S : List Sn) (l0 l1 l2 l3 l4 l5 l6 l7 l8 l9 l10 : Bool) (u3 u6 u7 u8 u9 u10 u11 u12 u13 u14 : Value) (x : World) : Prop where
  pool : Pool FF w [[blk q [.map (some m), .slice ha H.length ch, .slice sa S.length cs]], [mapR m (A.map Acc.name) ps], accB' ps A, [row 71 4 (.slice ha H.length ch) H.length (H.flatMap hldCells)], [row 47 2 (.slice sa S.length cs) S.length (S.flatMap snCells)], [blk w.heap.size [.slice none 0 0, .slice none 0 0, .slice none 0 0]], cond l9 [blk (ptB u3) (cond l10 [.slice none 0 0, .slice ha H.length ch, .slice sa S.length cs] [.slice none 0 0, .slice none 0 0, .slice none 0 0])] [], [], [], []] x
  q3 : l9 = true → u3 = .pointer (some ⟨ptB u3, 0, none⟩)
  d10_9 : l10 = true → l9 = true
  p6 : l0 = true → u6 = .pointer (some ⟨q, 0, none⟩)
  p7 : l1 = true → u7 = .pointer (some ⟨q, 0, none⟩)
  p10 : l4 = true → u10 = .pointer (some ⟨q, 0, none⟩)
  p11 : l5 = true → u11 = .pointer (some ⟨q, 0, none⟩)
  p8 : l2 = true → u8 = .pointer (some ⟨q, 1, none⟩)
  p12 : l6 = true → u12 = .pointer (some ⟨q, 2, none⟩)
  p9 : l3 = true → u9 = (.slice ha H.length ch)
  p13 : l7 = true → u13 = (.slice sa S.length cs)
  p14 : l8 = true → u14 = .agg #[.slice none 0 0, (.slice ha H.length ch), (.slice sa S.length cs)]
structure LgG (FF : List Nat) (w : World) (q m : Nat) (ps : List Nat) (ha : Option Addr) (ch : Nat) (sa : Option Addr) (cs : Nat) (A B : List Acc) (H : List Hld) (S : List Sn) (L0 : Nat) (a5 : Option Addr) (c5 k g2 c2 pj : Nat) (y : Acc) (l0 l1 l2 l3 l4 l5 l6 l7 l8 l9 l10 l11 l12 l13 : Bool) (u26 u27 u28 u29 u30 u31 u32 u33 u34 u35 u36 u37 u38 : Value) (x : World) : Prop where
  pool : Pool FF w [[blk q [.map (some m), .slice ha H.length ch, .slice sa S.length cs]], [mapR m (A.map Acc.name) ps], accB' ps A, [row 71 4 (.slice ha H.length ch) H.length (H.flatMap hldCells)], [row 47 2 (.slice sa S.length cs) S.length (S.flatMap snCells)], [blk w.heap.size [.slice none 0 0, .slice none 0 0, .slice none 0 0]], cond l13 [blk L0 [u37, (.slice ha H.length ch), (.slice sa S.length cs)]] [blk L0 [(.slice a5 k c5), (.slice ha H.length ch), (.slice sa S.length cs)]], cond l11 [row 37 4 u37 (k + 1) ((B.take k).flatMap accCells ++ accCells y)] [row 37 4 (.slice a5 k c5) k ((B.take k).flatMap accCells)], cond l10 [blk (gOf (slA u36)) (accCells y)] [], [row 9 1 (.slice (some ⟨g2, 0, none⟩) B.length c2) B.length (B.flatMap nmC)]] x
  q36 : l10 = true → u36 = .slice (some ⟨gOf (slA u36), 0, none⟩) 1 1
  d11_10 : l11 = true → l10 = true
  d11_1 : l11 = true → l1 = true
  d13_11 : l13 = true → l11 = true
  d13_1 : l13 = true → l1 = true
  p26 : l0 = true → u26 = .pointer (some ⟨L0, 0, none⟩)
  p38 : l12 = true → u38 = .pointer (some ⟨L0, 0, none⟩)
  p27 : l1 = true → u27 = (.slice a5 k c5)
  p28 : l2 = true → u28 = .pointer (some ⟨q, 0, none⟩)
  p29 : l3 = true → u29 = .pointer (some ⟨q, 0, none⟩)
  p30 : l4 = true → u30 = .pointer (some ⟨q, 0, none⟩)
  p31 : l5 = true → u31 = .map (some m)
  p32 : l6 = true → u32 = .string y.name
  p33 : l7 = true → u33 = .pointer (some ⟨pj, 0, none⟩)
  p34 : l8 = true → u34 = .pointer (some ⟨pj, 0, none⟩)
  p35 : l9 = true → u35 = .agg #[.string y.name, .string y.cur, .int .i64 y.limit, .int .i64 y.posted]
set_option maxHeartbeats 8000000 in
theorem ledger_any (q m : Nat) (ps : List Nat) (hv sv : Value) (A B : List Acc) (H : List Hld) (S : List Sn) (w : World) (hps : ps.length = A.length) (hB : B.Perm A) (hs : Srt B) (hl : A.length ≤ 1000) (hn : ∀ y ∈ A, y.name.size ≤ maxLen) (h : Star (bkS q m ps hv sv A H S).flatten w) :
    Calls Tryz.prog 33 #[.pointer (some ⟨q, 0, none⟩)] w fun e w' => LgEnd B H S (fps (bkS q m ps hv sv A H S).flatten) w e w' := by
  obtain ⟨FF, hFF⟩ : ∃ FF, FF = fps (bkS q m ps hv sv A H S).flatten := ⟨_, rfl⟩
  obtain ⟨i0, hi0, hz0, hz1, hz2⟩ := info_parts infoAcc
  obtain ⟨ha, ch, sa, cs, rfl, rfl, hbk⟩ := h.bk hps
  obtain ⟨W1, hW1⟩ : ∃ W1, W1 = w.alloc (.cells #[.slice none 0 0, .slice none 0 0, .slice none 0 0] 28) := ⟨_, rfl⟩
  have HP : Hid (Pool FF w [[blk q [.map (some m), .slice ha H.length ch, .slice sa S.length cs]], [mapR m (A.map Acc.name) ps], accB' ps A, [row 71 4 (.slice ha H.length ch) H.length (H.flatMap hldCells)], [row 47 2 (.slice sa S.length cs) S.length (S.flatMap snCells)], [blk w.heap.size [.slice none 0 0, .slice none 0 0, .slice none 0 0]], [], [], [], []] W1) := hide (by
    rw [hW1]
    have z : Pool FF w [[blk q [.map (some m), .slice ha H.length ch, .slice sa S.length cs]], [mapR m (A.map Acc.name) ps], accB' ps A, [row 71 4 (.slice ha H.length ch) H.length (H.flatMap hldCells)], [row 47 2 (.slice sa S.length cs) S.length (S.flatMap snCells)], [], [], [], [], []] w := by
      rw [hFF]
      exact (Pool.of h).cast (by simp [bkS])
    exact z.newBlk (i := 5) rfl [.slice none 0 0, .slice none 0 0, .slice none 0 0] 28)
  have HPS : Hid _ := hide hps
  have HB : Hid _ := hide hB
  have HS : Hid _ := hide hs
  have HN : Hid _ := hide hn
  have HBL : Hid (B.length = A.length) := hide hB.length_eq
  have hl2 : B.length ≤ 1000 := by rw [hB.length_eq]; exact hl
  have HW1 : Hid (_ = W1) := hide hW1.symm
  rw [← hFF]
  clear h hFF hps hB hs hn hbk hW1
  go_enter Tryz.func33, Tryz.ntmps33
  go_upto_region 1 with fail
  rw [HW1.out]
  clear HW1
  rename_i K1 hK1
  refine wp_region_inv (by kernel_rfl) (fun L act x => ∃ l0 l1 l2 l3 l4 l5 l6 l7 l8 l9 l10 : Bool, ∃ u3 u6 u7 u8 u9 u10 u11 u12 u13 u14 : Value, L = #[l0, l1, l2, l3, l4, l5, l6, l7, l8, l9, l10] ∧ act = { tmps := #[Value.pointer (some { block := q, off := 0 }), undef, Value.pointer (some { block := w.heap.size, off := 0 }), u3, undef, undef, u6, u7, u8, u9, u10, u11, u12, u13, u14, undef, undef, undef, undef, undef, undef, undef, undef, undef, undef, undef, undef, undef, undef, undef, undef, undef, undef, undef, undef, undef, undef, undef, undef, undef, undef], defers := [] } ∧ LgF FF w q m ps ha ch sa cs A H S l0 l1 l2 l3 l4 l5 l6 l7 l8 l9 l10 u3 u6 u7 u8 u9 u10 u11 u12 u13 u14 x) ?_ ?_ ?_
  rotate_left 2
  · exact ⟨false, false, false, false, false, false, false, false, false, false, false, (undef), (undef), (undef), (undef), (undef), (undef), (undef), (undef), (undef), (undef), rfl, rfl, ⟨HP.out.drew, fun q => (by cases q), fun q => (by cases q), fun q => (by cases q), fun q => (by cases q), fun q => (by cases q), fun q => (by cases q), fun q => (by cases q), fun q => (by cases q), fun q => (by cases q), fun q => (by cases q), fun q => (by cases q)⟩⟩
  · rintro L act x i ⟨l0, l1, l2, l3, l4, l5, l6, l7, l8, l9, l10, u3, u6, u7, u8, u9, u10, u11, u12, u13, u14, rfl, rfl, h⟩ hi K hK
    have hi15 : i < 11 := by
      obtain ⟨_, o, ho, _⟩ := mem_ready.1 hi
      exact (Array.getElem?_eq_some_iff.1 ho).1
    have hl := (mem_ready.1 hi).1
    obtain rfl | rfl | rfl | rfl | rfl | rfl | rfl | rfl | rfl | rfl | rfl := (by omega : i = 0 ∨ i = 1 ∨ i = 2 ∨ i = 3 ∨ i = 4 ∨ i = 5 ∨ i = 6 ∨ i = 7 ∨ i = 8 ∨ i = 9 ∨ i = 10)
    · have e : l0 = false := hl
      subst e
      refine wpOp_run (v := .pointer (some ⟨q, 0, none⟩)) (w' := x) (by rfl) (by rfl) ?_ (hK _ _ ⟨true, l1, l2, l3, l4, l5, l6, l7, l8, l9, l10, u3, (.pointer (some ⟨q, 0, none⟩)), u7, u8, u9, u10, u11, u12, u13, u14, rfl, rfl, { h with p6 := fun _ => rfl }⟩)
      go_simp
    · have e : l1 = false := hl
      subst e
      have d0 : l0 = true := ready_on hi 0 (by kernel_rfl)
      subst d0
      refine wpOp_run (v := .pointer (some ⟨q, 0, none⟩)) (w' := x) (by rfl) (by rfl) ?_ (hK _ _ ⟨true, true, l2, l3, l4, l5, l6, l7, l8, l9, l10, u3, u6, (.pointer (some ⟨q, 0, none⟩)), u8, u9, u10, u11, u12, u13, u14, rfl, rfl, { h with p7 := fun _ => rfl }⟩)
      rw [h.p6 rfl]
      go_simp
    · have e : l2 = false := hl
      subst e
      have d1 : l1 = true := ready_on hi 1 (by kernel_rfl)
      subst d1
      refine wpOp_run (v := .pointer (some ⟨q, 1, none⟩)) (w' := x) (by rfl) (by rfl) ?_ (hK _ _ ⟨l0, true, true, l3, l4, l5, l6, l7, l8, l9, l10, u3, u6, u7, (.pointer (some ⟨q, 1, none⟩)), u9, u10, u11, u12, u13, u14, rfl, rfl, { h with p8 := fun _ => rfl }⟩)
      rw [h.p7 rfl]
      go_simp
    · have e : l3 = false := hl
      subst e
      have d2 : l2 = true := ready_on hi 2 (by kernel_rfl)
      subst d2
      have c0 : x.cell? ⟨q, 1, none⟩ = some (.slice ha H.length ch) := (h.pool.blkAt (i := 0) rfl).c 1 _ rfl
      refine wpOp_run (v := (.slice ha H.length ch)) (w' := x) (by rfl) (by rfl) ?_ (hK _ _ ⟨l0, l1, true, true, l4, l5, l6, l7, l8, l9, l10, u3, u6, u7, u8, ((.slice ha H.length ch)), u10, u11, u12, u13, u14, rfl, rfl, { h with p9 := fun _ => rfl }⟩)
      rw [h.p8 rfl]
      go_simp
    · have e : l4 = false := hl
      subst e
      refine wpOp_run (v := .pointer (some ⟨q, 0, none⟩)) (w' := x) (by rfl) (by rfl) ?_ (hK _ _ ⟨l0, l1, l2, l3, true, l5, l6, l7, l8, l9, l10, u3, u6, u7, u8, u9, (.pointer (some ⟨q, 0, none⟩)), u11, u12, u13, u14, rfl, rfl, { h with p10 := fun _ => rfl }⟩)
      go_simp
    · have e : l5 = false := hl
      subst e
      have d4 : l4 = true := ready_on hi 4 (by kernel_rfl)
      subst d4
      refine wpOp_run (v := .pointer (some ⟨q, 0, none⟩)) (w' := x) (by rfl) (by rfl) ?_ (hK _ _ ⟨l0, l1, l2, l3, true, true, l6, l7, l8, l9, l10, u3, u6, u7, u8, u9, u10, (.pointer (some ⟨q, 0, none⟩)), u12, u13, u14, rfl, rfl, { h with p11 := fun _ => rfl }⟩)
      rw [h.p10 rfl]
      go_simp
    · have e : l6 = false := hl
      subst e
      have d5 : l5 = true := ready_on hi 5 (by kernel_rfl)
      subst d5
      refine wpOp_run (v := .pointer (some ⟨q, 2, none⟩)) (w' := x) (by rfl) (by rfl) ?_ (hK _ _ ⟨l0, l1, l2, l3, l4, true, true, l7, l8, l9, l10, u3, u6, u7, u8, u9, u10, u11, (.pointer (some ⟨q, 2, none⟩)), u13, u14, rfl, rfl, { h with p12 := fun _ => rfl }⟩)
      rw [h.p11 rfl]
      go_simp
    · have e : l7 = false := hl
      subst e
      have d6 : l6 = true := ready_on hi 6 (by kernel_rfl)
      subst d6
      have c0 : x.cell? ⟨q, 2, none⟩ = some (.slice sa S.length cs) := (h.pool.blkAt (i := 0) rfl).c 2 _ rfl
      refine wpOp_run (v := (.slice sa S.length cs)) (w' := x) (by rfl) (by rfl) ?_ (hK _ _ ⟨l0, l1, l2, l3, l4, l5, true, true, l8, l9, l10, u3, u6, u7, u8, u9, u10, u11, u12, ((.slice sa S.length cs)), u14, rfl, rfl, { h with p13 := fun _ => rfl }⟩)
      rw [h.p12 rfl]
      go_simp
    · have e : l8 = false := hl
      subst e
      have d3 : l3 = true := ready_on hi 3 (by kernel_rfl)
      subst d3
      have d7 : l7 = true := ready_on hi 7 (by kernel_rfl)
      subst d7
      refine wpOp_run (v := .agg #[.slice none 0 0, (.slice ha H.length ch), (.slice sa S.length cs)]) (w' := x) (by rfl) (by rfl) ?_ (hK _ _ ⟨l0, l1, l2, true, l4, l5, l6, true, true, l9, l10, u3, u6, u7, u8, u9, u10, u11, u12, u13, (.agg #[.slice none 0 0, (.slice ha H.length ch), (.slice sa S.length cs)]), rfl, rfl, { h with p14 := fun _ => rfl }⟩)
      rw [h.p9 rfl, h.p13 rfl]
      go_simp
    · have e : l9 = false := hl
      subst e
      have z10 : l10 = false := by
        cases hz : l10
        · rfl
        · exact absurd (h.d10_9 hz) (by simp)
      subst z10
      refine wpOp_run (v := .pointer (some ⟨x.heap.size, 0, none⟩)) (w' := x.alloc (.cells #[.slice none 0 0, .slice none 0 0, .slice none 0 0] 28)) (by rfl) (by rfl) ?_ (hK _ _ ⟨l0, l1, l2, l3, l4, l5, l6, l7, l8, true, false, (.pointer (some ⟨x.heap.size, 0, none⟩)), u6, u7, u8, u9, u10, u11, u12, u13, u14, rfl, rfl, { h with q3 := (fun _ => rfl), pool := (h.pool.newBlk (i := 6) rfl [.slice none 0 0, .slice none 0 0, .slice none 0 0] 28), d10_9 := fun _ => rfl }⟩)
      go_simp
    · have e : l10 = false := hl
      subst e
      have d0 : l0 = true := ready_on hi 0 (by kernel_rfl)
      subst d0
      have d1 : l1 = true := ready_on hi 1 (by kernel_rfl)
      subst d1
      have d2 : l2 = true := ready_on hi 2 (by kernel_rfl)
      subst d2
      have d3 : l3 = true := ready_on hi 3 (by kernel_rfl)
      subst d3
      have d4 : l4 = true := ready_on hi 4 (by kernel_rfl)
      subst d4
      have d5 : l5 = true := ready_on hi 5 (by kernel_rfl)
      subst d5
      have d6 : l6 = true := ready_on hi 6 (by kernel_rfl)
      subst d6
      have d7 : l7 = true := ready_on hi 7 (by kernel_rfl)
      subst d7
      have d8 : l8 = true := ready_on hi 8 (by kernel_rfl)
      subst d8
      have d9 : l9 = true := ready_on hi 9 (by kernel_rfl)
      subst d9
      have A6 := h.pool.blkAt (i := 6) rfl
      have t0 := A6.c 0 _ rfl
      have t1 := A6.c 1 _ rfl
      have t2 := A6.c 2 _ rfl
      have f0 := A6.f 0
      have f1 := A6.f 1
      have f2 := A6.f 2
      refine wpOp_skip (w' := ((x.setCell ⟨ptB u3, 0, none⟩ (.slice none 0 0)).setCell ⟨ptB u3, 1, none⟩ (.slice ha H.length ch)).setCell ⟨ptB u3, 2, none⟩ (.slice sa S.length cs)) (by rfl) (by rfl) ?_ (hK _ _ ⟨true, true, true, true, true, true, true, true, true, true, true, u3, u6, u7, u8, u9, u10, u11, u12, u13, u14, rfl, rfl, { h with pool := (((h.pool.setBlk (i := 6) rfl 0 (.slice none 0 0) (by simp)).setBlk (i := 6) rfl 1 (.slice ha H.length ch) (by simp)).setBlk (i := 6) rfl 2 (.slice sa S.length cs) (by simp)), d10_9 := fun _ => rfl }⟩)
      rw [h.p14 rfl, h.q3 rfl]
      go_simp
      rfl
  · rintro L act x ⟨l0, l1, l2, l3, l4, l5, l6, l7, l8, l9, l10, u3, u6, u7, u8, u9, u10, u11, u12, u13, u14, rfl, rfl, h⟩ hr
    have hall := ready_all hr rfl (by decide)
    have t0 : l0 = true := hall 0 (by decide)
    have t1 : l1 = true := hall 1 (by decide)
    have t2 : l2 = true := hall 2 (by decide)
    have t3 : l3 = true := hall 3 (by decide)
    have t4 : l4 = true := hall 4 (by decide)
    have t5 : l5 = true := hall 5 (by decide)
    have t6 : l6 = true := hall 6 (by decide)
    have t7 : l7 = true := hall 7 (by decide)
    have t8 : l8 = true := hall 8 (by decide)
    have t9 : l9 = true := hall 9 (by decide)
    have t10 : l10 = true := hall 10 (by decide)
    subst t0 t1 t2 t3 t4 t5 t6 t7 t8 t9 t10
    clear hall hr
    obtain ⟨L0, hL⟩ : ∃ L0, L0 = ptB u3 := ⟨_, rfl⟩
    have e3 := h.q3 rfl
    have HP2 : Hid (Pool FF w [[blk q [.map (some m), .slice ha H.length ch, .slice sa S.length cs]], [mapR m (A.map Acc.name) ps], accB' ps A, [row 71 4 (.slice ha H.length ch) H.length (H.flatMap hldCells)], [row 47 2 (.slice sa S.length cs) S.length (S.flatMap snCells)], [blk w.heap.size [.slice none 0 0, .slice none 0 0, .slice none 0 0]], [blk L0 [.slice none 0 0, (.slice ha H.length ch), (.slice sa S.length cs)]], [], [], []] x) := hide (by rw [hL]; exact h.pool)
    rw [← hL] at e3
    subst e3
    clear h HP hL
    refine hK1 _ _ ?_
    clear hK1
    obtain ⟨DM, hown, hks⟩ := (HP2.out.get (i := 1) rfl).get (r := mapR m (A.map Acc.name) ps) (by simp)
    have HKP : Hid _ := hide (keysA_perm hown hks HB.out HS.out)
    have hsz : Maps.size DM = A.length := by have := hks.size; simpa using this
    have HKM : Hid (Calls Tryz.prog 71 #[.map (some m)] x fun e w' => e = .returned (.func (.func 107) #[] #[.pointer (some ⟨x.heap.size, 0, none⟩)]) ∧ w' = x.alloc (.cells #[.map (some m)] 63)) := hide (callsIn_wide.1 (Tryz.maps_Keys_71 (some m) x))
    have HSO : Hid _ := hide (callsIn_wide.1 (Tryz.slices_Sorted_keys_70_71 m _ DM ptrElem x hown (by rw [hsz]; unfold maxLen; omega) (by rw [hsz]; omega)))
    clear hown hks hsz
    have d0 := (HP2.out.blkAt (i := 0) rfl).c 0 _ rfl
    have dl := (HP2.out.blkAt (i := 0) rfl).lt
    go_wp2_with fail
    refine HKM.out.mono ?_
    rintro e w1 ⟨rfl, hw1⟩
    have hw1' := hw1.symm
    subst hw1'
    clear hw1
    go_wp2_with fail
    refine HSO.out.mono ?_
    rintro e w2 ⟨v2, ss, rfl, hperm, hrow2, _, hb2⟩
    have hml := nmA_sorted HS.out (HKP.out.trans hperm.symm)
    have hsl : ss.length = B.length := by rw [hperm.length_eq, ← HKP.out.length_eq]; simp [nmA]
    rw [hml, nmA_enc, hsl] at hrow2
    obtain ⟨a2, c2, rfl⟩ := row_shape hrow2
    have HB2 : Hid (Below x.heap.size x w2) := hide (below_trans (below_alloc (Below.refl _ _) _) hb2)
    have HP3 : Hid (Pool FF w [[blk q [.map (some m), .slice ha H.length ch, .slice sa S.length cs]], [mapR m (A.map Acc.name) ps], accB' ps A, [row 71 4 (.slice ha H.length ch) H.length (H.flatMap hldCells)], [row 47 2 (.slice sa S.length cs) S.length (S.flatMap snCells)], [blk w.heap.size [.slice none 0 0, .slice none 0 0, .slice none 0 0]], [blk L0 [.slice none 0 0, (.slice ha H.length ch), (.slice sa S.length cs)]], [row 37 4 (.slice none 0 0) 0 []], [], [row 9 1 (.slice a2 B.length c2) B.length (B.flatMap nmC)]] w2) := hide (by
      have z2 := HP2.out.newRowB (i := 9) rfl HB2.out (own_mono (by simp) hrow2)
      exact (z2.newNil (i := 7) rfl 37 4))
    clear hperm hrow2 hb2 hml hsl HP2 HKP HKM HSO HB2 d0 dl
    obtain ⟨NX, hNX⟩ : ∃ NX, NX = x.heap.size := ⟨_, rfl⟩
    rw [← hNX]
    clear hNX
    go_wp2_with fail
    go_loopw [22] (fun i wr => ∃ (k : Nat) (a5 : Option Addr) (c5 : Nat), k ≤ B.length ∧ i = .int .i64 (k : Int) ∧ Hid (Pool FF w [[blk q [.map (some m), .slice ha H.length ch, .slice sa S.length cs]], [mapR m (A.map Acc.name) ps], accB' ps A, [row 71 4 (.slice ha H.length ch) H.length (H.flatMap hldCells)], [row 47 2 (.slice sa S.length cs) S.length (S.flatMap snCells)], [blk w.heap.size [.slice none 0 0, .slice none 0 0, .slice none 0 0]], [blk L0 [.slice a5 k c5, (.slice ha H.length ch), (.slice sa S.length cs)]], [row 37 4 (.slice a5 k c5) k ((B.take k).flatMap accCells)], [], [row 9 1 (.slice a2 B.length c2) B.length (B.flatMap nmC)]] wr)) (fun i wr => B.length - (intOf i).toNat)
    case atStart => exact ⟨0, none, 0, Nat.zero_le _, rfl, HP3⟩
    case round =>
      obtain ⟨k, a5, c5, hk, rfl, HPr⟩ := hrel
      clear HP3
      by_cases hlt : k < B.length
      · have hlt' : (k : Int) < (B.length : Int) := by omega
        have hrw := HPr.out.rowAt (i := 9) rfl
        obtain ⟨g2, e2⟩ := row_some hrw (by omega)
        subst e2
        have hnc : wr.cell? ⟨g2, k, none⟩ = some (.string (B[k]).name) := by
          have := hrw.cells (g := g2) rfl k (.string (B[k]).name) (by have := flat_get nmC 1 nmCLen B k hlt 0 (by decide); simpa [nmC] using this)
          simpa [addr_add] using this
        have hg2 := (hrw.lt g2 rfl).2
        clear hrw
        obtain ⟨j, hj, hjk⟩ := List.mem_iff_getElem.1 (HB.out.mem_iff.1 (List.getElem_mem hlt))
        obtain ⟨y, hy⟩ : ∃ y, y = B[k] := ⟨_, rfl⟩
        have HYN : Hid (B.take (k + 1) = B.take k ++ [y]) := hide (by rw [hy]; exact take_next B k hlt)
        rw [← hy] at hnc hjk
        have HJK : Hid _ := hide hjk
        have HYS : Hid (y.name.size ≤ maxLen) := hide (by rw [← hjk]; exact HN.out _ (List.getElem_mem hj))
        clear hy hjk
        obtain ⟨pj, hpj⟩ : ∃ pj, pj = ps.getD j 0 := ⟨_, rfl⟩
        have HPJ : Hid _ := hide hpj
        clear hpj
        go_upto_region 5 with fail
        rename_i K5 hK5
        clear hnc hg2
        refine wp_region_inv (by kernel_rfl) (fun L act x => ∃ l0 l1 l2 l3 l4 l5 l6 l7 l8 l9 l10 l11 l12 l13 : Bool, ∃ u26 u27 u28 u29 u30 u31 u32 u33 u34 u35 u36 u37 u38 : Value, L = #[l0, l1, l2, l3, l4, l5, l6, l7, l8, l9, l10, l11, l12, l13] ∧ act = { tmps := #[Value.pointer (some { block := q, off := 0 }), undef, Value.pointer (some { block := w.heap.size, off := 0 }), Value.pointer (some { block := L0, off := 0 }), undef, Value.string y.name, u6, u7, u8, u9, u10, u11, u12, u13, u14, Value.pointer (some { block := q, off := 0 }), Value.pointer (some { block := q, off := 0 }), Value.pointer (some { block := q, off := 0 }), Value.map (some m), Value.func (Fn.func 107) #[] #[Value.pointer (some { block := NX, off := 0 })], Value.slice (some { block := g2, off := 0 }) B.length c2, Value.int IntKind.i64 ↑B.length, Value.int IntKind.i64 ↑k, Value.bool true, Value.pointer (some { block := g2, off := k }), Value.string y.name, u26, u27, u28, u29, u30, u31, u32, u33, u34, u35, u36, u37, u38, u39, undef], defers := [] } ∧ LgG FF w q m ps ha ch sa cs A B H S L0 a5 c5 k g2 c2 pj y l0 l1 l2 l3 l4 l5 l6 l7 l8 l9 l10 l11 l12 l13 u26 u27 u28 u29 u30 u31 u32 u33 u34 u35 u36 u37 u38 x) ?_ ?_ ?_
        rotate_left 2
        · exact ⟨false, false, false, false, false, false, false, false, false, false, false, false, false, false, (u26), (u27), (u28), (u29), (u30), (u31), (u32), (u33), (u34), (u35), (u36), (u37), (u38), rfl, rfl, ⟨HPr.out.drew, fun q => (by cases q), fun q => (by cases q), fun q => (by cases q), fun q => (by cases q), fun q => (by cases q), fun q => (by cases q), fun q => (by cases q), fun q => (by cases q), fun q => (by cases q), fun q => (by cases q), fun q => (by cases q), fun q => (by cases q), fun q => (by cases q), fun q => (by cases q), fun q => (by cases q), fun q => (by cases q)⟩⟩
        · rintro L act x i ⟨l0, l1, l2, l3, l4, l5, l6, l7, l8, l9, l10, l11, l12, l13, u26, u27, u28, u29, u30, u31, u32, u33, u34, u35, u36, u37, u38, rfl, rfl, h⟩ hi K hK
          have hi15 : i < 14 := by
            obtain ⟨_, o, ho, _⟩ := mem_ready.1 hi
            exact (Array.getElem?_eq_some_iff.1 ho).1
          have hl := (mem_ready.1 hi).1
          obtain rfl | rfl | rfl | rfl | rfl | rfl | rfl | rfl | rfl | rfl | rfl | rfl | rfl | rfl := (by omega : i = 0 ∨ i = 1 ∨ i = 2 ∨ i = 3 ∨ i = 4 ∨ i = 5 ∨ i = 6 ∨ i = 7 ∨ i = 8 ∨ i = 9 ∨ i = 10 ∨ i = 11 ∨ i = 12 ∨ i = 13)
          · have e : l0 = false := hl
            subst e
            refine wpOp_run (v := .pointer (some ⟨L0, 0, none⟩)) (w' := x) (by rfl) (by rfl) ?_ (hK _ _ ⟨true, l1, l2, l3, l4, l5, l6, l7, l8, l9, l10, l11, l12, l13, (.pointer (some ⟨L0, 0, none⟩)), u27, u28, u29, u30, u31, u32, u33, u34, u35, u36, u37, u38, rfl, rfl, { h with p26 := fun _ => rfl }⟩)
            go_simp
          · have e : l1 = false := hl
            subst e
            have d0 : l0 = true := ready_on hi 0 (by kernel_rfl)
            subst d0
            have z13 : l13 = false := by
              cases hz : l13
              · rfl
              · exact absurd (h.d13_1 hz) (by simp)
            subst z13
            have c0 : x.cell? ⟨L0, 0, none⟩ = some (.slice a5 k c5) := (h.pool.blkAt (i := 6) rfl).c 0 _ rfl
            refine wpOp_run (v := (.slice a5 k c5)) (w' := x) (by rfl) (by rfl) ?_ (hK _ _ ⟨true, true, l2, l3, l4, l5, l6, l7, l8, l9, l10, l11, l12, false, u26, ((.slice a5 k c5)), u28, u29, u30, u31, u32, u33, u34, u35, u36, u37, u38, rfl, rfl, { h with p27 := (fun _ => rfl), d11_1 := fun _ => rfl, d13_1 := fun _ => rfl }⟩)
            rw [h.p26 rfl]
            go_simp
          · have e : l2 = false := hl
            subst e
            refine wpOp_run (v := .pointer (some ⟨q, 0, none⟩)) (w' := x) (by rfl) (by rfl) ?_ (hK _ _ ⟨l0, l1, true, l3, l4, l5, l6, l7, l8, l9, l10, l11, l12, l13, u26, u27, (.pointer (some ⟨q, 0, none⟩)), u29, u30, u31, u32, u33, u34, u35, u36, u37, u38, rfl, rfl, { h with p28 := fun _ => rfl }⟩)
            go_simp
          · have e : l3 = false := hl
            subst e
            have d2 : l2 = true := ready_on hi 2 (by kernel_rfl)
            subst d2
            refine wpOp_run (v := .pointer (some ⟨q, 0, none⟩)) (w' := x) (by rfl) (by rfl) ?_ (hK _ _ ⟨l0, l1, true, true, l4, l5, l6, l7, l8, l9, l10, l11, l12, l13, u26, u27, u28, (.pointer (some ⟨q, 0, none⟩)), u30, u31, u32, u33, u34, u35, u36, u37, u38, rfl, rfl, { h with p29 := fun _ => rfl }⟩)
            rw [h.p28 rfl]
            go_simp
          · have e : l4 = false := hl
            subst e
            have d3 : l3 = true := ready_on hi 3 (by kernel_rfl)
            subst d3
            refine wpOp_run (v := .pointer (some ⟨q, 0, none⟩)) (w' := x) (by rfl) (by rfl) ?_ (hK _ _ ⟨l0, l1, l2, true, true, l5, l6, l7, l8, l9, l10, l11, l12, l13, u26, u27, u28, u29, (.pointer (some ⟨q, 0, none⟩)), u31, u32, u33, u34, u35, u36, u37, u38, rfl, rfl, { h with p30 := fun _ => rfl }⟩)
            rw [h.p29 rfl]
            go_simp
          · have e : l5 = false := hl
            subst e
            have d4 : l4 = true := ready_on hi 4 (by kernel_rfl)
            subst d4
            have c0 : x.cell? ⟨q, 0, none⟩ = some (.map (some m)) := (h.pool.blkAt (i := 0) rfl).c 0 _ rfl
            refine wpOp_run (v := .map (some m)) (w' := x) (by rfl) (by rfl) ?_ (hK _ _ ⟨l0, l1, l2, l3, true, true, l6, l7, l8, l9, l10, l11, l12, l13, u26, u27, u28, u29, u30, (.map (some m)), u32, u33, u34, u35, u36, u37, u38, rfl, rfl, { h with p31 := fun _ => rfl }⟩)
            rw [h.p30 rfl]
            go_simp
          · have e : l6 = false := hl
            subst e
            refine wpOp_run (v := .string y.name) (w' := x) (by rfl) (by rfl) ?_ (hK _ _ ⟨l0, l1, l2, l3, l4, l5, true, l7, l8, l9, l10, l11, l12, l13, u26, u27, u28, u29, u30, u31, (.string y.name), u33, u34, u35, u36, u37, u38, rfl, rfl, { h with p32 := fun _ => rfl }⟩)
            go_simp
          · have e : l7 = false := hl
            subst e
            have d5 : l5 = true := ready_on hi 5 (by kernel_rfl)
            subst d5
            have d6 : l6 = true := ready_on hi 6 (by kernel_rfl)
            subst d6
            have hlk : (Instr.lookup 63 (.map (some m)) (.string y.name) false).run Tryz.prog x = .ok (.pointer (some ⟨pj, 0, none⟩)) x := by
              have z := look_map ((h.pool.get (i := 1) rfl).get (r := mapR m (A.map Acc.name) ps) (by simp)) (j := j) (by simpa using hj) (by simp only [List.getElem_map, HJK.out]; exact HYS.out)
              simp only [List.getElem_map, HJK.out, ← HPJ.out] at z
              exact z
            refine wpOp_run (v := .pointer (some ⟨pj, 0, none⟩)) (w' := x) (by rfl) (by rfl) ?_ (hK _ _ ⟨l0, l1, l2, l3, l4, true, true, true, l8, l9, l10, l11, l12, l13, u26, u27, u28, u29, u30, u31, u32, (.pointer (some ⟨pj, 0, none⟩)), u34, u35, u36, u37, u38, rfl, rfl, { h with p33 := fun _ => rfl }⟩)
            rw [h.p31 rfl, h.p32 rfl]
            go_simp
          · have e : l8 = false := hl
            subst e
            have d7 : l7 = true := ready_on hi 7 (by kernel_rfl)
            subst d7
            refine wpOp_run (v := .pointer (some ⟨pj, 0, none⟩)) (w' := x) (by rfl) (by rfl) ?_ (hK _ _ ⟨l0, l1, l2, l3, l4, l5, l6, true, true, l9, l10, l11, l12, l13, u26, u27, u28, u29, u30, u31, u32, u33, (.pointer (some ⟨pj, 0, none⟩)), u35, u36, u37, u38, rfl, rfl, { h with p34 := fun _ => rfl }⟩)
            rw [h.p33 rfl]
            go_simp
          · have e : l9 = false := hl
            subst e
            have d8 : l8 = true := ready_on hi 8 (by kernel_rfl)
            subst d8
            have zb : Blk pj (accCells y) x := by
              have z := Pool.accAt (S1 := [_, _]) h.pool j hj HPS.out
              rw [HJK.out, ← HPJ.out] at z
              exact z
            have c0 := zb.c 0 _ rfl
            have c1 := zb.c 1 _ rfl
            have c2 := zb.c 2 _ rfl
            have c3 := zb.c 3 _ rfl
            refine wpOp_run (v := .agg #[.string y.name, .string y.cur, .int .i64 y.limit, .int .i64 y.posted]) (w' := x) (by rfl) (by rfl) ?_ (hK _ _ ⟨l0, l1, l2, l3, l4, l5, l6, l7, true, true, l10, l11, l12, l13, u26, u27, u28, u29, u30, u31, u32, u33, u34, (.agg #[.string y.name, .string y.cur, .int .i64 y.limit, .int .i64 y.posted]), u36, u37, u38, rfl, rfl, { h with p35 := fun _ => rfl }⟩)
            rw [h.p34 rfl]
            go_simp
          · have e : l10 = false := hl
            subst e
            have d9 : l9 = true := ready_on hi 9 (by kernel_rfl)
            subst d9
            have z11 : l11 = false := by
              cases hz : l11
              · rfl
              · exact absurd (h.d11_10 hz) (by simp)
            subst z11
            refine wpOp_run (v := .slice (some ⟨x.heap.size, 0, none⟩) 1 1) (w' := x.alloc (.cells #[.string y.name, .string y.cur, .int .i64 y.limit, .int .i64 y.posted] 37)) (by rfl) (by rfl) ?_ (hK _ _ ⟨l0, l1, l2, l3, l4, l5, l6, l7, l8, true, true, false, l12, l13, u26, u27, u28, u29, u30, u31, u32, u33, u34, u35, (.slice (some ⟨x.heap.size, 0, none⟩) 1 1), u37, u38, rfl, rfl, { h with q36 := (fun _ => rfl), pool := (h.pool.newBlk (i := 8) rfl (accCells y) 37), d11_10 := fun _ => rfl }⟩)
            rw [h.p35 rfl]
            go_simp
          · have e : l11 = false := hl
            subst e
            have d1 : l1 = true := ready_on hi 1 (by kernel_rfl)
            subst d1
            have d10 : l10 = true := ready_on hi 10 (by kernel_rfl)
            subst d10
            have z13 : l13 = false := by
              cases hz : l13
              · rfl
              · exact absurd (h.d13_11 hz) (by simp)
            subst z13
            obtain ⟨v', z, hr, hp⟩ := h.pool.append (P := Tryz.prog) (i0 := 7) rfl 24 24 i0 _ 48 Tryz.underlying24 hi0 hz0 hz1 hz2 rfl (by decide) (some ⟨gOf (slA u36), 0, none⟩) 1 1 (accCells y) rfl (fun e => by cases e) (blk_news (h.pool.blkAt (i := 8) rfl)) (acc_one1 y) (by unfold maxLen; omega) (by omega)
            refine wpOp_run (v := v') (w' := z) (by rfl) (by rfl) ?_ (hK _ _ ⟨l0, true, l2, l3, l4, l5, l6, l7, l8, l9, true, true, l12, false, u26, u27, u28, u29, u30, u31, u32, u33, u34, u35, u36, (v'), u38, rfl, rfl, { h with pool := (hp), d11_10 := fun _ => rfl, d11_1 := fun _ => rfl, d13_11 := fun _ => rfl }⟩)
            exact exec_append rfl (h.p27 rfl) (h.q36 rfl) hr
          · have e : l12 = false := hl
            subst e
            have d0 : l0 = true := ready_on hi 0 (by kernel_rfl)
            subst d0
            have d1 : l1 = true := ready_on hi 1 (by kernel_rfl)
            subst d1
            have d2 : l2 = true := ready_on hi 2 (by kernel_rfl)
            subst d2
            have d3 : l3 = true := ready_on hi 3 (by kernel_rfl)
            subst d3
            have d4 : l4 = true := ready_on hi 4 (by kernel_rfl)
            subst d4
            have d5 : l5 = true := ready_on hi 5 (by kernel_rfl)
            subst d5
            have d6 : l6 = true := ready_on hi 6 (by kernel_rfl)
            subst d6
            have d7 : l7 = true := ready_on hi 7 (by kernel_rfl)
            subst d7
            have d8 : l8 = true := ready_on hi 8 (by kernel_rfl)
            subst d8
            have d9 : l9 = true := ready_on hi 9 (by kernel_rfl)
            subst d9
            have d10 : l10 = true := ready_on hi 10 (by kernel_rfl)
            subst d10
            have d11 : l11 = true := ready_on hi 11 (by kernel_rfl)
            subst d11
            refine wpOp_run (v := .pointer (some ⟨L0, 0, none⟩)) (w' := x) (by rfl) (by rfl) ?_ (hK _ _ ⟨true, true, true, true, true, true, true, true, true, true, true, true, true, l13, u26, u27, u28, u29, u30, u31, u32, u33, u34, u35, u36, u37, (.pointer (some ⟨L0, 0, none⟩)), rfl, rfl, { h with p38 := fun _ => rfl }⟩)
            go_simp
          · have e : l13 = false := hl
            subst e
            have d0 : l0 = true := ready_on hi 0 (by kernel_rfl)
            subst d0
            have d1 : l1 = true := ready_on hi 1 (by kernel_rfl)
            subst d1
            have d2 : l2 = true := ready_on hi 2 (by kernel_rfl)
            subst d2
            have d3 : l3 = true := ready_on hi 3 (by kernel_rfl)
            subst d3
            have d4 : l4 = true := ready_on hi 4 (by kernel_rfl)
            subst d4
            have d5 : l5 = true := ready_on hi 5 (by kernel_rfl)
            subst d5
            have d6 : l6 = true := ready_on hi 6 (by kernel_rfl)
            subst d6
            have d7 : l7 = true := ready_on hi 7 (by kernel_rfl)
            subst d7
            have d8 : l8 = true := ready_on hi 8 (by kernel_rfl)
            subst d8
            have d9 : l9 = true := ready_on hi 9 (by kernel_rfl)
            subst d9
            have d10 : l10 = true := ready_on hi 10 (by kernel_rfl)
            subst d10
            have d11 : l11 = true := ready_on hi 11 (by kernel_rfl)
            subst d11
            have d12 : l12 = true := ready_on hi 12 (by kernel_rfl)
            subst d12
            obtain ⟨a6, k6, e6⟩ := row_shape (h.pool.rowAt (i := 7) rfl)
            have A6 := h.pool.blkAt (i := 6) rfl
            have t1 := A6.c 0 _ rfl
            have f1 := A6.f 0
            refine wpOp_skip (w' := x.setCell ⟨L0, 0, none⟩ u37) (by rfl) (by rfl) ?_ (hK _ _ ⟨true, true, true, true, true, true, true, true, true, true, true, true, true, true, u26, u27, u28, u29, u30, u31, u32, u33, u34, u35, u36, u37, u38, rfl, rfl, { h with pool := (h.pool.setBlk (i := 6) rfl 0 u37 (by simp)), d13_11 := fun _ => rfl, d13_1 := fun _ => rfl }⟩)
            rw [h.p38 rfl, e6]
            go_simp
        · rintro L act x ⟨l0, l1, l2, l3, l4, l5, l6, l7, l8, l9, l10, l11, l12, l13, u26, u27, u28, u29, u30, u31, u32, u33, u34, u35, u36, u37, u38, rfl, rfl, h⟩ hr
          have hall := ready_all hr rfl (by decide)
          have t0 : l0 = true := hall 0 (by decide)
          have t1 : l1 = true := hall 1 (by decide)
          have t2 : l2 = true := hall 2 (by decide)
          have t3 : l3 = true := hall 3 (by decide)
          have t4 : l4 = true := hall 4 (by decide)
          have t5 : l5 = true := hall 5 (by decide)
          have t6 : l6 = true := hall 6 (by decide)
          have t7 : l7 = true := hall 7 (by decide)
          have t8 : l8 = true := hall 8 (by decide)
          have t9 : l9 = true := hall 9 (by decide)
          have t10 : l10 = true := hall 10 (by decide)
          have t11 : l11 = true := hall 11 (by decide)
          have t12 : l12 = true := hall 12 (by decide)
          have t13 : l13 = true := hall 13 (by decide)
          subst t0 t1 t2 t3 t4 t5 t6 t7 t8 t9 t10 t11 t12 t13
          clear hall hr
          obtain ⟨a6, k6, e6⟩ := row_shape (h.pool.rowAt (i := 7) rfl)
          have HPn : Hid (Pool FF w [[blk q [.map (some m), .slice ha H.length ch, .slice sa S.length cs]], [mapR m (A.map Acc.name) ps], accB' ps A, [row 71 4 (.slice ha H.length ch) H.length (H.flatMap hldCells)], [row 47 2 (.slice sa S.length cs) S.length (S.flatMap snCells)], [blk w.heap.size [.slice none 0 0, .slice none 0 0, .slice none 0 0]], [blk L0 [.slice a6 (k + 1) k6, (.slice ha H.length ch), (.slice sa S.length cs)]], [row 37 4 (.slice a6 (k + 1) k6) (k + 1) ((B.take (k + 1)).flatMap accCells)], [], [row 9 1 (.slice (some ⟨g2, 0, none⟩) B.length c2) B.length (B.flatMap nmC)]] x) := hide (by
            have z := h.pool.drop (i := 8) rfl
            rw [e6] at z
            have e2 : (B.take k).flatMap accCells ++ accCells y = (B.take (k + 1)).flatMap accCells := by rw [HYN.out]; simp
            rw [e2] at z
            exact z)
          clear h
          refine hK5 _ _ ?_
          clear hK5
          go_wp2
          exact ⟨⟨k + 1, a6, k6, by omega, by go_num, HPn⟩, by simp [intOf]; omega⟩
      · have hlt' : ¬ (k : Int) < (B.length : Int) := by omega
        obtain rfl : k = B.length := by omega
        rw [List.take_length] at HPr
        have d0 := (HPr.out.blkAt (i := 6) rfl).c 0 _ rfl
        have d1 := (HPr.out.blkAt (i := 6) rfl).c 1 _ rfl
        have d2 := (HPr.out.blkAt (i := 6) rfl).c 2 _ rfl
        have t0 := (HPr.out.blkAt (i := 5) rfl).c 0 _ rfl
        have t1 := (HPr.out.blkAt (i := 5) rfl).c 1 _ rfl
        have t2 := (HPr.out.blkAt (i := 5) rfl).c 2 _ rfl
        have f0 := (HPr.out.blkAt (i := 5) rfl).f 0
        have f1 := (HPr.out.blkAt (i := 5) rfl).f 1
        have f2 := (HPr.out.blkAt (i := 5) rfl).f 2
        have HPz : Hid _ := hide (((HPr.out.setBlk (i := 5) rfl 0 (.slice a5 B.length c5) (by simp)).setBlk (i := 5) rfl 1 (.slice ha H.length ch) (by simp)).setBlk (i := 5) rfl 2 (.slice sa S.length cs) (by simp))
        have HQ : Hid (LgEnd B H S FF w (.returned (ledV ⟨a5, c5, ha, ch, sa, cs⟩ ⟨B, H, S⟩)) (((wr.setCell ⟨w.heap.size, 0, none⟩ (.slice a5 B.length c5)).setCell ⟨w.heap.size, 1, none⟩ (.slice ha H.length ch)).setCell ⟨w.heap.size, 2, none⟩ (.slice sa S.length cs))) := hide (by
          obtain ⟨a7, c7, e7, s7, z7⟩ := Pool.toOrow accLen HPz.out (i := 7) rfl
          obtain ⟨a8, c8, e8, s8, z8⟩ := Pool.toOrow hldLen z7 (i := 3) rfl
          obtain ⟨a9, c9, e9, s9, z9⟩ := Pool.toOrow snLen z8 (i := 4) rfl
          simp only [Value.slice.injEq, true_and] at e7 e8 e9
          obtain ⟨rfl, rfl⟩ := e7
          obtain ⟨rfl, rfl⟩ := e8
          obtain ⟨rfl, rfl⟩ := e9
          refine ⟨⟨a5, c5, ha, ch, sa, cs⟩, rfl, ⟨s7, s8, s9⟩, ?_⟩
          have y := (((((z9.drop (i := 0) rfl).drop (i := 1) rfl).drop (i := 2) rfl).drop (i := 5) rfl).drop (i := 6) rfl).drop (i := 9) rfl
          exact y.perm (List.perm_append_comm (l₁ := [orow 4 hldCells ha ch H, orow 2 snCells sa cs S]) (l₂ := [orow 4 accCells a5 c5 B])))
        obtain ⟨e0, e1, e2⟩ := three_set (u0 := .slice a5 B.length c5) (u1 := (.slice ha H.length ch)) (u2 := (.slice sa S.length cs)) t0 t1 t2
        go_wp2_with fail
        exact bodyPost_ret (v := .agg #[.slice a5 B.length c5, (.slice ha H.length ch), (.slice sa S.length cs)]) (by simp [results, Tryz.results33, go_sem, e0, e1, e2]) rfl HQ.out
end Go.Proofs.YtjjoeajnhblacaaGreatDoor
