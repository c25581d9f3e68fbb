/- A new world in one form, refused or not. -/
import Derived.Test.YthlnfomhbnpcoaaWMw
namespace Go.Proofs.Ythlnfomhbnpcoaa
open Go.ChangeShapes Go.WideShapes Go.ChangeAt Go.RowKit
set_option linter.unusedVariables false
def kOf (l : List Slt) : Nat := if rightsB l = true then l.length else 0
def stOf (l : List Slt) : Int := if rightsB l = true then sumL l else 0
def NewN (l : List Slt) (w : World) (e : Ending) (w' : World) : Prop := Below w.heap.size w w' ∧ ∃ (v : Value) (L : List Nd) (base : Nat), w.heap.size ≤ base ∧ e = .returned (.tuple #[.agg #[.int .i64 (stOf l), v, .slice none 0 0], .bool (rightsB l)]) ∧ Fst base l (kOf l) v L w'
theorem NewW.n {l : List Slt} {w : World} {e : Ending} {w' : World} (h : NewW l w e w') : NewN l w e w' := by
  obtain ⟨hb, v, L, st, base, h1, he, ht, hf⟩ := h
  cases hr : rightsB l with
  | true =>
    obtain ⟨rfl, hF⟩ := ht hr
    refine ⟨hb, v, L, base, h1, ?_, ?_⟩
    · rw [he]; simp [stOf, hr]
    · simp only [kOf, hr, if_true]; exact hF
  | false =>
    obtain ⟨rfl, rfl, rfl⟩ := hf hr
    refine ⟨hb, .slice none 0 0, [], base, h1, ?_, ?_⟩
    · rw [he]; simp [stOf, hr]
    · simp only [kOf, hr, Bool.false_eq_true, if_false]; exact Fst.nil
theorem kOf_le (l : List Slt) : kOf l ≤ l.length := by unfold kOf; split <;> omega
theorem fst_same2 {base base' : Nat} {l : List Slt} {k : Nat} {v v' : Value} {L L' : List Nd} {x y : World} (hk : k ≤ l.length) (h : Fst base l k v L x) (h' : Fst base' l k v' L' y) : L'.map Nd.d = L.map Nd.d := by
  apply List.ext_getElem
  · simp [h.len, h'.len]
  · intro i h1 h2
    simp only [List.length_map] at h1 h2
    obtain ⟨pa, pc, e⟩ := h.is i h2 (by have := h.len; omega)
    obtain ⟨pa', pc', e'⟩ := h'.is i h1 (by have := h.len; omega)
    simp only [List.getElem_map, e, e']
    rfl
theorem emp_of_new {base : Nat} {l : List Slt} {v : Value} {L : List Nd} {x : World} (h : Fst base l (kOf l) v L x) : L.length ≤ 8 ∧ (∀ n ∈ L, n.peers.length ≤ 8) ∧ ∀ n ∈ L, Emp n := by
  cases hr : rightsB l with
  | true => exact emp_of_fst h (kOf_le l) (rightsB_small hr).1
  | false =>
    have : L = [] := List.eq_nil_of_length_eq_zero (by rw [h.len]; simp [kOf, hr])
    subst this
    exact ⟨by simp, fun n hn => by simp at hn, fun n hn => by simp at hn⟩
theorem smW_new {base : Nat} {l : List Slt} {v : Value} {L : List Nd} {x : World} (h : Fst base l (kOf l) v L x) : SmW L [] := by
  obtain ⟨h1, h2, h3⟩ := emp_of_new h
  refine ⟨⟨by omega, fun n hn => ?_⟩, by simp⟩
  obtain ⟨_, _, e3, e4⟩ := h3 n hn
  refine ⟨by rw [e3]; simp, Nat.le_trans (h2 n hn) (by omega), fun p hp => ?_⟩
  rw [(e4 p hp).2.2]; simp
theorem nodes_new {base : Nat} {l : List Slt} {v : Value} {L : List Nd} {x : World} (h : Fst base l (kOf l) v L x) : ∃ a cap, v = .slice a L.length cap ∧ NodesAt x a L := by
  obtain ⟨G, a, cap, gs, e, ho, _⟩ := own_of_fst h
  exact ⟨a, cap, e, nodes_of_own ho (emp_of_new h).2.2⟩
theorem own_low {x y : World} {base : Nat} {e : TypeId} {sz : Nat} {v : Value} {n : Nat} {xs : List Value} (h : x.ownsRow base e sz v n xs) (hb : ∀ b, v.ownBlock = some b → y.heap[b]? = x.heap[b]?) : y.ownsRow base e sz v n xs := by
  obtain ⟨hl, h0 | ⟨g, cap, cur, h1, hb1, hg, r⟩⟩ := h
  · exact ⟨hl, .inl h0⟩
  · exact ⟨hl, .inr ⟨g, cap, cur, h1, hb1, (hb g (by rw [h1]; rfl)).trans hg, r⟩⟩
/-- the rows stand where their blocks stand -/
theorem Fst.low {base : Nat} {l : List Slt} {k : Nat} {v : Value} {L : List Nd} {x y : World} (h : Fst base l k v L x) (P : Nat → Prop) (hv : ∀ b, v.ownBlock = some b → P b) (hp : ∀ i (h : i < L.length) b, L[i].pv.ownBlock = some b → P b) (hb : ∀ b, P b → y.heap[b]? = x.heap[b]?) : Fst base l k v L y :=
  { h with row := own_low h.row (fun b q => hb b (hv b q)), prs := fun i hi => own_low (h.prs i hi) (fun b q => hb b (hp i hi b q)) }
theorem Blk.keep {g : Nat} {cur : List Value} {x y : World} (h : Blk g cur x) (hb : y.heap[g]? = x.heap[g]?) (hs : x.heap.size ≤ y.heap.size) : Blk g cur y :=
  ⟨Nat.lt_of_lt_of_le h.lt hs, fun j v hj => (World.cell?_of_block hb).trans (h.c j v hj), fun j => (World.frozen?_of_block hb).trans (h.f j)⟩
theorem eq_new {st : Int} {base base' : Nat} {l : List Slt} {a7 a4 : Option Addr} {c7 c4 : Nat} {L7 L4 : List Nd} {x : World} (h7 : Fst base l (kOf l) (.slice a7 L7.length c7) L7 x) (h4 : Fst base' l (kOf l) (.slice a4 L4.length c4) L4 x) :
    Calls Try.prog 8 #[.agg #[.int .i64 st, .slice a7 L7.length c7, .slice none 0 0], .agg #[.int .i64 st, .slice a4 L4.length c4, .slice none 0 0]] x fun e w' => YesEnd x e w' := by
  obtain ⟨_, _, e7, n7⟩ := nodes_new h7
  obtain ⟨_, _, e4, n4⟩ := nodes_new h4
  injection e7 with u1 u2 u3
  injection e4 with u4 u5 u6
  subst u1 u3 u4 u6
  have hd := fst_same2 (kOf_le l) h7 h4
  have hlen : L4.length = L7.length := by have := congrArg List.length hd; simpa using this
  have := eqWorld_any st L7 L4 [] a7 a4 none none c7 c4 0 0 x (smW_new h7) hd n7 n4 RowAt.nil RowAt.nil
  rw [← hlen] at this ⊢
  exact this
theorem bne_bool (b : Bool) : (b != b) = false := by simp
theorem bne_int (i : Int) : (i != i) = false := by simp
set_option maxRecDepth 100000 in
set_option maxHeartbeats 8000000 in
theorem walkWorldNew (a : Option Addr) (l : List Slt) (ca : Nat) (w : World) (hl : SlotAt w a l) (m1 : l.length ≤ maxLen) :
    Calls Try.prog 3 #[.slice a l.length ca] w fun e w' => YesEnd w e w' := by
  have HL : Hid _ := hide hl
  clear hl
  go_enter Try.func3, Try.ntmps3
  go_wp2_with fail
  refine (szSlotS_any _ l _ _ _ m1 (by omega)).mono ?_
  rintro e w1 ⟨hw1, r, rfl, hr1, hr⟩
  have hw1' := hw1.symm
  subst hw1'
  by_cases qr : r < 0
  · go_wp2
    go_ret
    exact ⟨rfl, Below.refl _ _⟩
  · have n1 : l.length ≤ 1048576 := by have := hr (by omega); omega
    clear hr
    have HSM : Hid (∀ (g : Nat) (x : World), SlotAt x (some ⟨g, 0, none⟩) l → Calls Try.prog 5 #[.slice (some ⟨g, 0, none⟩) l.length l.length] x fun e w' => NewN l x e w') := hide (fun g x hx => (specWorldNew_any _ l _ x n1 (Nat.le_refl _) hx).mono fun _ _ h => h.n)
    have HIM : Hid (∀ (g : Nat) (x : World), SlotAt x (some ⟨g, 0, none⟩) l → Calls Try.prog 7 #[.slice (some ⟨g, 0, none⟩) l.length l.length] x fun e w' => NewN l x e w') := hide (fun g x hx => (implWorldNew_any _ l _ x n1 (Nat.le_refl _) hx).mono fun _ _ h => h.n)
    obtain ⟨st, HST⟩ : ∃ st, Hid (stOf l = st) := ⟨_, hide rfl⟩
    obtain ⟨B, HRB⟩ : ∃ B, Hid (rightsB l = B) := ⟨_, hide rfl⟩
    have hbB := bne_bool B
    go_wp2_with fail
    refine (toSlotS_any _ l _ w n1 HL.out).mono ?_
    rintro e w2 ⟨hb2, g2, hg2, rfl, ho2, hl2⟩
    have HB2 : Hid _ := hide hb2
    have HL2 : Hid _ := hide hl2
    clear hb2 hg2 ho2 hl2
    go_wp2_with fail
    refine (HSM.out g2 w2 HL2.out).mono ?_
    rintro e w4 ⟨hb4, v4, L4, base4, hg4, rfl, hf4⟩
    obtain ⟨a4, c4, rfl, hn4⟩ := nodes_new hf4
    rw [HST.out, HRB.out]
    have HX4 : Hid _ := hide (below_trans HB2.out hb4)
    have HF4 : Hid _ := hide hf4
    have HN4 : Hid _ := hide hn4
    clear hb4 hg4 hf4 hn4 HB2 HL2
    obtain ⟨w5, HW5⟩ : ∃ w5, Hid (w4.alloc (.cells #[.int .i64 st, .slice a4 L4.length c4, .slice none 0 0] 27) = w5) := ⟨_, hide rfl⟩
    have b5 : Below w4.heap.size w4 w5 := by rw [← HW5.out]; exact below_alloc (Below.refl _ _) _
    obtain ⟨A, HA⟩ : ∃ A, Hid (w4.heap.size = A) := ⟨_, hide rfl⟩
    have HK5 : Hid (Blk A [.int .i64 st, .slice a4 L4.length c4, .slice none 0 0] w5) := hide (by rw [← HW5.out, ← HA.out]; exact Blk.new)
    have HX5 : Hid _ := hide (below_trans HX4.out b5)
    have HF5 : Hid _ := hide (HF4.out.below b5)
    clear b5 HF4 HN4
    go_wp2_with fail
    rw [HW5.out, HA.out]
    clear HW5
    refine (toSlotS_any _ l _ w5 n1 (HL.out.below HX5.out)).mono ?_
    rintro e w6 ⟨hb6, g5, ⟨hg5, hgl5⟩, rfl, ho5, hl5⟩
    have HX6 : Hid _ := hide (below_trans HX5.out hb6)
    have HF6 : Hid _ := hide (HF5.out.below hb6)
    have HK6 : Hid _ := hide (HK5.out.below hb6)
    have HO6 : Hid _ := hide ho5
    have HL6 : Hid _ := hide hl5
    have HG5 : Hid (A < g5 ∧ g5 < w6.heap.size ∧ w.heap.size ≤ g5) := hide ⟨Nat.lt_of_lt_of_le HK5.out.lt hg5, hgl5, Nat.le_trans HX5.out.size hg5⟩
    have HD6 : Hid (∀ b, Value.ownBlock (.slice a4 L4.length c4) = some b → b < g5) := hide (fun b hb => Nat.lt_of_lt_of_le (HF5.out.row.lt b hb).2 hg5)
    have HD6p : Hid (∀ i (h : i < L4.length) b, L4[i].pv.ownBlock = some b → b < g5) := hide (fun i hi b hb => Nat.lt_of_lt_of_le ((HF5.out.prs i hi).lt b hb).2 hg5)
    clear hb6 ho5 hl5 hg5 hgl5 HX5 HF5 HK5
    go_wp2_with fail
    refine (HIM.out g5 w6 HL6.out).mono ?_
    rintro e w7 ⟨hb7, v7, L7, base7, hg7, rfl, hf7⟩
    obtain ⟨a7, c7, rfl⟩ := row_shape hf7.row
    rw [HST.out, HRB.out]
    obtain ⟨w8, HW8⟩ : ∃ w8, Hid (w7.alloc (.cells #[.int .i64 st, .slice a7 L7.length c7, .slice none 0 0] 27) = w8) := ⟨_, hide rfl⟩
    have b8 : Below w7.heap.size w7 w8 := by rw [← HW8.out]; exact below_alloc (Below.refl _ _) _
    obtain ⟨A7, HA7⟩ : ∃ A7, Hid (w7.heap.size = A7) := ⟨_, hide rfl⟩
    have HK8 : Hid (Blk A7 [.int .i64 st, .slice a7 L7.length c7, .slice none 0 0] w8) := hide (by rw [← HW8.out, ← HA7.out]; exact Blk.new)
    have b68 := below_trans hb7 b8
    have HX8 : Hid _ := hide (below_trans HX6.out b68)
    have HF8 : Hid _ := hide (HF6.out.below b68)
    have HKA8 : Hid _ := hide (HK6.out.below b68)
    have HO8 : Hid _ := hide (HO6.out.below b68)
    have HI8 : Hid _ := hide (hf7.below b8)
    have HV7 : Hid ((∀ b, Value.ownBlock (.slice a7 L7.length c7) = some b → base7 ≤ b ∧ b < A7) ∧ ∀ i (h : i < L7.length) b, L7[i].pv.ownBlock = some b → base7 ≤ b ∧ b < A7) := hide ⟨fun b hb => by rw [← HA7.out]; exact hf7.row.lt b hb, fun i hi b hb => by rw [← HA7.out]; exact (hf7.prs i hi).lt b hb⟩
    have HB7 : Hid (g5 < base7 ∧ g5 < A7) := hide (by have := HG5.out; have := hb7.size; rw [← HA7.out]; omega)
    have HD : Hid _ := hide (fst_same2 (kOf_le l) hf7 HF6.out)
    have HKA7 : Hid _ := hide (HK6.out.below hb7)
    have HE7 : Hid (∀ x : World, Fst base7 l (kOf l) (.slice a7 L7.length c7) L7 x → Fst base4 l (kOf l) (.slice a4 L4.length c4) L4 x → Calls Try.prog 8 #[.agg #[.int .i64 st, .slice a7 L7.length c7, .slice none 0 0], .agg #[.int .i64 st, .slice a4 L4.length c4, .slice none 0 0]] x fun e w' => YesEnd x e w') := hide (fun x h7 h4 => by
      obtain ⟨_, _, e7, n7⟩ := nodes_new h7
      obtain ⟨_, _, e4, n4⟩ := nodes_new h4
      injection e7 with u1 u2 u3
      injection e4 with u4 u5 u6
      subst u1 u3 u4 u6
      have hd := fst_same2 (kOf_le l) h7 h4
      have hlen : L4.length = L7.length := by have := congrArg List.length hd; simpa using this
      have := eqWorld_any st L7 L4 [] a7 a4 none none c7 c4 0 0 x (smW_new h7) hd n7 n4 RowAt.nil RowAt.nil
      rw [← hlen] at this ⊢
      exact this)
    clear b68 b8 hb7 hg7 hf7 HX6 HF6 HK6 HO6 HL6
    have hAl := HKA7.out.lt
    have p0 := HKA7.out.c 0 _ rfl
    have p1 := HKA7.out.c 1 _ rfl
    have p2 := HKA7.out.c 2 _ rfl
    have hlen : Hid (L4.length = L7.length) := hide (by have := congrArg List.length HD.out; simpa using this)
    have hE := HE7.out
    clear hE
    go_wp2_with fail
    rw [HW8.out, HA7.out]
    clear HW8 p0 p1 p2 hAl HKA7
    refine (HE7.out w8 (HI8.out) (HF8.out)).mono ?_
    rintro e w9 ⟨rfl, hb9⟩
    have HX9 : Hid _ := hide (below_trans HX8.out hb9)
    have HF9 : Hid _ := hide (HF8.out.below hb9)
    have HI9 : Hid _ := hide (HI8.out.below hb9)
    have HK9 : Hid _ := hide (HK8.out.below hb9)
    have HKA9 : Hid _ := hide (HKA8.out.below hb9)
    have HO9 : Hid _ := hide (HO8.out.below hb9)
    clear hb9 HX8 HF8 HI8 HK8 HKA8 HO8
    go_wp2_with fail
    refine (toSlotS_any _ l _ w9 n1 (HL.out.below HX9.out)).mono ?_
    rintro e w10 ⟨hb10, g10, hg10, rfl, ho10, hl10⟩
    have HX10 : Hid _ := hide (below_trans HX9.out hb10)
    have HF10 : Hid _ := hide (HF9.out.below hb10)
    have HI10 : Hid _ := hide (HI9.out.below hb10)
    have HK10 : Hid _ := hide (HK9.out.below hb10)
    have HKA10 : Hid _ := hide (HKA9.out.below hb10)
    have HO10 : Hid _ := hide (HO9.out.below hb10)
    have HL10 : Hid _ := hide hl10
    clear hb10 hg10 ho10 hl10 HX9 HF9 HI9 HK9 HKA9 HO9
    go_wp2_with fail
    refine (eqSlotS_any _ _ l _ _ w10 n1 HO10.out.rows HL10.out.row).mono ?_
    rintro e w11 ⟨rfl, hb11⟩
    have HX11 : Hid _ := hide (below_trans HX10.out hb11)
    have HF11 : Hid _ := hide (HF10.out.below hb11)
    have HI11 : Hid _ := hide (HI10.out.below hb11)
    have HK11 : Hid _ := hide (HK10.out.below hb11)
    have HKA11 : Hid _ := hide (HKA10.out.below hb11)
    have HO11 : Hid _ := hide (HO10.out.below hb11)
    clear hb11 HX10 HF10 HI10 HK10 HKA10 HO10 HL10
    go_wp2_with fail
    refine (markSlotS_any _ l _ g5 1 w11 n1 (by omega) HO11.out).mono ?_
    rintro e w12 ⟨rfl, t12, ho12⟩
    have HX12 : Hid _ := hide (HX11.out.trans (t12.below HG5.out.2.2))
    have HF12 : Hid _ := hide (HF11.out.low (fun b => b < g5) HD6.out HD6p.out (fun b hb => t12.block b (by omega)))
    have HI12 : Hid _ := hide (HI11.out.low (fun b => base7 ≤ b) (fun b hb => (HV7.out.1 b hb).1) (fun i hi b hb => (HV7.out.2 i hi b hb).1) (fun b hb => t12.block b (by have := HB7.out; omega)))
    have HK12 : Hid _ := hide (HK11.out.keep (t12.block _ (by have := HB7.out; omega)) (by rw [t12.size]; exact Nat.le_refl _))
    have HKA12 : Hid _ := hide (HKA11.out.keep (t12.block _ (by have := HG5.out; omega)) (by rw [t12.size]; exact Nat.le_refl _))
    clear t12 ho12 HX11 HF11 HI11 HK11 HKA11 HO11
    have k1 : ¬ (1 : Int) + 3 * (l.length : Int) < 0 := by omega
    have p0 := HKA12.out.c 0 _ rfl
    have p1 := HKA12.out.c 1 _ rfl
    have p2 := HKA12.out.c 2 _ rfl
    have s0 := HK12.out.c 0 _ rfl
    have s1 := HK12.out.c 1 _ rfl
    have s2 := HK12.out.c 2 _ rfl
    go_wp2_with fail
    refine (HE7.out w12 HI12.out HF12.out).mono ?_
    rintro e w13 ⟨rfl, hb13⟩
    have HX13 : Hid _ := hide (below_trans HX12.out hb13)
    have HF13 : Hid _ := hide (HF12.out.below hb13)
    have HI13 : Hid _ := hide (HI12.out.below hb13)
    have HK13 : Hid _ := hide (HK12.out.below hb13)
    have HKA13 : Hid _ := hide (HKA12.out.below hb13)
    clear hb13 HX12 HF12 HI12 HK12 HKA12 p0 p1 p2 s0 s1 s2
    obtain ⟨G, a', cap', gs, eO, ho, hG, hgs, far, inj, nG, ngs, cG, cgs⟩ := own_of_fst HI13.out
    injection eO with u1 u2 u3
    subst u1 u3
    have HP : Hid (∀ x, Plc L7 G gs x) := hide (fun x => ⟨(emp_of_new HI13.out).1, (emp_of_new HI13.out).2.1, (emp_of_new HI13.out).2.2, far, inj⟩)
    have HOW : Hid _ := hide ho
    have HGG : Hid (base7 ≤ G ∧ ∀ i, base7 ≤ gs i) := hide ⟨hG, hgs⟩
    have HNG : Hid (w13.heap.size ≠ G ∧ ∀ i, w13.heap.size ≠ gs i) := hide ⟨nG, ngs⟩
    have HAG : Hid (A7 ≠ G ∧ ∀ i, A7 ≠ gs i) := hide ⟨cG A7 (Nat.le_of_lt HK13.out.lt) (fun b hb => Nat.ne_of_lt (HV7.out.1 b hb).2), cgs A7 (Nat.le_of_lt HK13.out.lt) (fun i hi b hb => Nat.ne_of_lt (HV7.out.2 i hi b hb).2)⟩
    have HQB : Hid _ := hide (qn_bd 1 L7 (emp_of_new HI13.out).2.1 L7.length (Nat.le_refl _)).1
    clear ho hG hgs far inj nG ngs cG cgs u2
    have s0 := HK13.out.c 0 _ rfl
    have s1 := HK13.out.c 1 _ rfl
    have s2 := HK13.out.c 2 _ rfl
    go_wp2_with fail
    refine (markWorld_any st a7 L7 c7 G gs w13 (HP.out _) HNG.out.1 HNG.out.2 HOW.out).mono ?_
    rintro e w14 ⟨rfl, t14, o14⟩
    have bA := below_alloc (Below.refl w13.heap.size w13) (.cells #[.int .i64 st, .slice a7 L7.length c7, .slice none 0 0] 27)
    have HX14 : Hid _ := hide ((below_trans HX13.out bA).trans (t14.below w.heap.size (by have := HG5.out; have := HB7.out; have := HGG.out.1; omega) (fun i => by have := HG5.out; have := HB7.out; have := HGG.out.2 i; omega)))
    have HF14 : Hid _ := hide ((HF13.out.below bA).low (fun b => b < g5) HD6.out HD6p.out (fun b hb => t14.block b (by have := HB7.out; have := HGG.out.1; omega) (fun i => by have := HB7.out; have := HGG.out.2 i; omega)))
    have HK14 : Hid _ := hide ((HK13.out.below bA).keep (t14.block _ HAG.out.1 HAG.out.2) (by rw [t14.size]; exact Nat.le_refl _))
    have HKA14 : Hid _ := hide ((HKA13.out.below bA).keep (t14.block _ (by have := HG5.out; have := HB7.out; have := HGG.out.1; omega) (fun i => by have := HG5.out; have := HB7.out; have := HGG.out.2 i; omega)) (by rw [t14.size]; exact Nat.le_refl _))
    have HOW14 : Hid _ := hide o14
    clear bA t14 o14 HX13 HF13 HI13 HK13 HKA13 HOW HNG s0 s1 s2
    obtain ⟨Q, HQ⟩ : ∃ Q, Hid (qn 1 L7 L7.length = Q) := ⟨_, hide rfl⟩
    have hQ : ¬ Q < 0 := by have := HQB.out; rw [HQ.out] at this; omega
    have k3 := bne_int Q
    rw [HQ.out]
    have s0 := HK14.out.c 0 _ rfl
    have s1 := HK14.out.c 1 _ rfl
    have s2 := HK14.out.c 2 _ rfl
    go_wp2_with fail
    refine (heldWorld_any st a7 L7 c7 G gs w14 (HP.out _) HOW14.out).mono ?_
    rintro e w15 ⟨rfl, hb15⟩
    rw [HQ.out]
    have HX15 : Hid _ := hide (below_trans HX14.out hb15)
    have HF15 : Hid _ := hide (HF14.out.below hb15)
    have HK15 : Hid _ := hide (HK14.out.below hb15)
    have HKA15 : Hid _ := hide (HKA14.out.below hb15)
    have HOW15 : Hid _ := hide (HOW14.out.below hb15)
    clear hb15 HX14 HF14 HK14 HKA14 HOW14 s0 s1 s2
    go_wp2_with fail
    refine (toSlotS_any _ l _ w15 n1 (HL.out.below HX15.out)).mono ?_
    rintro e w16 ⟨hb16, g16, hg16, rfl, ho16, hl16⟩
    have HX16 : Hid _ := hide (below_trans HX15.out hb16)
    have HF16 : Hid _ := hide (HF15.out.below hb16)
    have HK16 : Hid _ := hide (HK15.out.below hb16)
    have HKA16 : Hid _ := hide (HKA15.out.below hb16)
    have HOW16 : Hid _ := hide (HOW15.out.below hb16)
    have HL16 : Hid _ := hide hl16
    clear hb16 hg16 ho16 hl16 HX15 HF15 HK15 HKA15 HOW15
    go_wp2_with fail
    refine (HIM.out g16 w16 HL16.out).mono ?_
    rintro e w17 ⟨hb17, v17, L17, base17, hg17, rfl, hf17⟩
    obtain ⟨a17, c17, rfl⟩ := row_shape hf17.row
    rw [HST.out, HRB.out]
    obtain ⟨w18, HW18⟩ : ∃ w18, Hid (w17.alloc (.cells #[.int .i64 st, .slice a17 L17.length c17, .slice none 0 0] 27) = w18) := ⟨_, hide rfl⟩
    have b18 : Below w17.heap.size w17 w18 := by rw [← HW18.out]; exact below_alloc (Below.refl _ _) _
    have b68 := below_trans hb17 b18
    have HX18 : Hid _ := hide (below_trans HX16.out b68)
    have HF18 : Hid _ := hide (HF16.out.below b68)
    have HK18 : Hid _ := hide (HK16.out.below b68)
    have HOW18 : Hid _ := hide (HOW16.out.below b68)
    have HI18 : Hid _ := hide (hf17.below b18)
    have HKA17 : Hid _ := hide (HKA16.out.below hb17)
    clear b68 b18 hb17 hg17 hf17 HX16 HF16 HK16 HKA16 HOW16 HL16
    have hAl := HKA17.out.lt
    have p0 := HKA17.out.c 0 _ rfl
    have p1 := HKA17.out.c 1 _ rfl
    have p2 := HKA17.out.c 2 _ rfl
    go_wp2_with fail
    rw [HW18.out]
    clear HW18 p0 p1 p2 hAl HKA17
    refine (eq_new HI18.out HF18.out).mono ?_
    rintro e w19 ⟨rfl, hb19⟩
    have HX19 : Hid _ := hide (below_trans HX18.out hb19)
    have HK19 : Hid _ := hide (HK18.out.below hb19)
    have HOW19 : Hid _ := hide (HOW18.out.below hb19)
    clear hb19 HX18 HF18 HK18 HOW18 HI18
    have s0 := HK19.out.c 0 _ rfl
    have s1 := HK19.out.c 1 _ rfl
    have s2 := HK19.out.c 2 _ rfl
    go_wp2_with fail
    refine (heldWorld_any st a7 L7 c7 G gs w19 (HP.out _) HOW19.out).mono ?_
    rintro e w20 ⟨rfl, hb20⟩
    rw [HQ.out]
    have HX20 : Hid _ := hide (below_trans HX19.out hb20)
    clear hb20 HX19 HK19 HOW19 s0 s1 s2
    go_wp2
    go_ret
    exact ⟨rfl, HX20.out⟩
end Go.Proofs.Ythlnfomhbnpcoaa
