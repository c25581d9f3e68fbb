/- The walk of the law FnReceived. -/
import Derived.Test.YtmgjblgmmdnekaaDrA
import Derived.Test.YtmgjblgmmdnekaaSRcv2
import Derived.Test.YtmgjblgmmdnekaaAck
import Derived.Test.YtmgjblgmmdnekaaOf
namespace Go.Proofs.Ytmgjblgmmdnekaa
open Go.ChangeShapes Go.WideShapes Go.ChangeAt Go.RowKit
set_option linter.unusedVariables false
theorem big_any (a : Option Addr) (len cap : Nat) (w : World) : Calls Try.prog 4 #[.slice a len cap] w fun e w' => e = .returned (.bool (decide (1048576 < (len : Int)))) ∧ w' = w := by
  go_enter Try.func4, Try.ntmps4
  go_wp2
  go_ret
  exact ⟨rfl, rfl⟩
/-- a block of three cells, one of two -/
structure Cells3 (B : Nat) (v0 v1 v2 : Value) (x : World) : Prop where
  lt : B < x.heap.size
  c0 : x.cell? ⟨B, 0, none⟩ = some v0
  c1 : x.cell? ⟨B, 1, none⟩ = some v1
  c2 : x.cell? ⟨B, 2, none⟩ = some v2
theorem Cells3.on {B : Nat} {v0 v1 v2 : Value} {x y : World} (h : Cells3 B v0 v1 v2 x) (b : Below x.heap.size x y) : Cells3 B v0 v1 v2 y :=
  ⟨Nat.lt_of_lt_of_le h.lt b.size, (b.cell h.lt).trans h.c0, (b.cell h.lt).trans h.c1, (b.cell h.lt).trans h.c2⟩
structure Cells2 (B : Nat) (v0 v1 : Value) (x : World) : Prop where
  lt : B < x.heap.size
  c0 : x.cell? ⟨B, 0, none⟩ = some v0
  c1 : x.cell? ⟨B, 1, none⟩ = some v1
theorem Cells2.on {B : Nat} {v0 v1 : Value} {x y : World} (h : Cells2 B v0 v1 x) (b : Below x.heap.size x y) : Cells2 B v0 v1 y :=
  ⟨Nat.lt_of_lt_of_le h.lt b.size, (b.cell h.lt).trans h.c0, (b.cell h.lt).trans h.c1⟩
theorem cells3_alloc (x : World) (v0 v1 v2 : Value) (T : TypeId) : Cells3 x.heap.size v0 v1 v2 (x.alloc (.cells #[v0, v1, v2] T)) :=
  ⟨by simp, World.cell?_alloc_at _ _ _ _ rfl, World.cell?_alloc_at _ _ _ _ rfl, World.cell?_alloc_at _ _ _ _ rfl⟩
theorem cells2_alloc (x : World) (v0 v1 : Value) (T : TypeId) : Cells2 x.heap.size v0 v1 (x.alloc (.cells #[v0, v1] T)) :=
  ⟨by simp, World.cell?_alloc_at _ _ _ _ rfl, World.cell?_alloc_at _ _ _ _ rfl⟩
/-- how a parcel is received, twice -/
theorem rcv_cases (E : En) (p : Prc) : (rcvOk E p = false ∧ rcvX E p = 0 ∧ rcvY E p = -1) ∨
    (∃ b : Bool, 0 ≤ rcvY E p ∧ (decide (0 < rcvX E p) = b) ∧ ((p.seq == E.got + 1) = b) ∧ (0 ≤ E.got ∧ E.got ≤ 1000000000) ∧ (rcvE E p).out.length ≤ 8 ∧ (rcvE E p).got = rcvY E p ∧ rcvE (rcvE E p) p = rcvE E p ∧ rcvX (rcvE E p) p = 0 ∧ rcvY (rcvE E p) p = rcvY E p) := by
  cases hok : rcvOk E p
  · exact .inl ⟨rfl, by simp [rcvX, hok], by simp [rcvY, hok]⟩
  · right
    have h1 : endB E = true := by cases h1 : endB E <;> simp [rcvOk, h1] at hok ⊢
    have h2 : pOkB p = true := by cases h2 : pOkB p <;> simp [rcvOk, h2] at hok ⊢
    obtain ⟨h8, ⟨s0, s1⟩, ⟨g0, g1⟩, hl⟩ := endB_parts h1
    have hp : (1 ≤ p.seq ∧ p.seq ≤ 1000000000) ∧ 1 ≤ p.amt ∧ p.amt ≤ 1000000000000 := by simpa [pOkB, inB] using h2
    by_cases hs : p.seq = E.got + 1
    · have e1 : rcvE E p = ⟨E.out, E.sent, p.seq⟩ := by simp only [rcvE, hok, if_true]; rw [if_pos hs]
      have hE1 : endB ⟨E.out, E.sent, p.seq⟩ = true := endB_yes h8 ⟨by simp [inB]; omega, by simp [inB]; omega⟩ (fun j hj hj2 => by
        obtain ⟨q1, q2, q3, q4⟩ := hl j hj
        simp only [prcB, inB]
        simp
        omega)
      have ok1 : rcvOk ⟨E.out, E.sent, p.seq⟩ p = true := by simp [rcvOk, hE1, h2]
      have ne : ¬ p.seq = p.seq + 1 := by omega
      have y1 : rcvY E p = p.seq := by simp only [rcvY, hok, if_true]; rw [if_pos hs]
      have x1 : rcvX E p = p.amt := by simp only [rcvX, hok, if_true]; rw [if_pos hs]
      refine ⟨true, by omega, by rw [x1]; simp; omega, by simp [hs], ⟨g0, g1⟩, by rw [e1]; exact h8, by rw [e1, y1], ?_, ?_, ?_⟩
      · rw [e1]; simp only [rcvE, ok1, if_true]; rw [if_neg ne]
      · rw [e1]; simp only [rcvX, ok1, if_true]; rw [if_neg ne]
      · rw [e1, y1]; simp only [rcvY, ok1, if_true]; rw [if_neg ne]
    · have e1 : rcvE E p = E := by simp only [rcvE, hok, if_true]; rw [if_neg hs]
      have y1 : rcvY E p = E.got := by simp only [rcvY, hok, if_true]; rw [if_neg hs]
      have x1 : rcvX E p = 0 := by simp only [rcvX, hok, if_true]; rw [if_neg hs]
      refine ⟨false, by omega, by rw [x1]; simp, by simp [hs], ⟨g0, g1⟩, by rw [e1]; exact h8, by rw [e1, y1], by rw [e1, e1], by rw [e1, x1], by rw [e1]⟩
theorem openL_filter (s : Int) (l : List Prc) : openL s (l.filter (fun p => decide (s < p.seq))) = openL s l := by
  induction l with
  | nil => rfl
  | cons x t ih =>
    by_cases h : s < x.seq
    · rw [List.filter_cons_of_pos (by simpa using h)]; simp only [openL, ih]
    · rw [List.filter_cons_of_neg (by simpa using h), ih]; simp [openL, h]
theorem openL_all (s : Int) (h0 : 0 ≤ s) (l : List Prc) (h : ∀ x ∈ l, s < x.seq) : openL 0 l = openL s l := by
  induction l with
  | nil => rfl
  | cons x t ih =>
    have hx := h x List.mem_cons_self
    simp only [openL, ih (fun y hy => h y (List.mem_cons_of_mem _ hy))]
    rw [if_pos hx, if_pos (show (0 : Int) < x.seq by omega)]
theorem ack_open {E : En} {s : Int} (h : ackOk E s = true) : openOf (ackE E s) s = openOf E s ∧ openOf (ackE E s) 0 = openOf E s ∧ endB (ackE E s) = true ∧ (ackE E s).sent = E.sent := by
  have h1 : endB E = true := by cases h1 : endB E <;> simp [ackOk, h1] at h ⊢
  have hs : 0 ≤ s ∧ s ≤ E.sent := by
    have : inB 0 E.sent s = true := by cases hi : inB 0 E.sent s <;> simp [ackOk, hi] at h ⊢
    simpa [inB] using this
  have he := ack_right h1 s
  have e : ackE E s = ⟨E.out.filter (fun p => decide (s < p.seq)), E.sent, E.got⟩ := by simp only [ackE, h, if_true]
  have o1 : openOf (ackE E s) s = openOf E s := by
    simp only [openOf, he, h1, if_true]; rw [e]; exact openL_filter s E.out
  refine ⟨o1, ?_, he, by rw [e]⟩
  rw [← o1]
  simp only [openOf, he, if_true]
  rw [e]
  exact openL_all s hs.1 _ (fun x hx => by simpa using (List.mem_filter.1 hx).2)
theorem ackE_len8 (E : En) (s : Int) (h : E.out.length ≤ 8) : (ackE E s).out.length ≤ 8 := by
  unfold ackE
  split
  · exact Nat.le_trans (List.length_filter_le _ _) h
  · simp
set_option maxRecDepth 100000 in
set_option maxHeartbeats 4000000 in
theorem walkReceived (a : Option Addr) (len cap : Nat) (w : World) (h : IsCode w a len) :
    Calls Try.prog 3 #[.slice a len cap] w fun e w' => YesEnd w e w' := by
  have HC : Hid _ := hide h
  clear h
  by_cases hbig : 1048576 < (len : Int)
  · have hd : decide (1048576 < (len : Int)) = true := by simp; omega
    go_enter Try.func3, Try.ntmps3
    go_wp2_with fail
    refine (big_any _ _ _ _).mono ?_
    rintro e w1 ⟨rfl, hw1⟩
    have hw1' := hw1.symm
    subst hw1'
    go_wp2
    go_ret
    exact ⟨rfl, Below.refl _ _⟩
  · have hd : decide (1048576 < (len : Int)) = false := by simp; omega
    go_enter Try.func3, Try.ntmps3
    go_wp2_with fail
    refine (big_any _ _ _ _).mono ?_
    rintro e w1 ⟨rfl, hw1⟩
    have hw1' := hw1.symm
    subst hw1'
    go_wp2_with fail
    refine (drawReceived_any a len cap w HC.out).mono ?_
    rintro e w2 ⟨E, ea, ec, ps, pa, rfl, h8, hs, hg, ip, iq, hn0, hrow, hb2⟩
    obtain ⟨w3, hw3⟩ : ∃ w3, w3 = w2.alloc (.cells #[.slice ea E.out.length ec, .int .i64 E.sent, .int .i64 E.got] 26) := ⟨_, rfl⟩
    obtain ⟨w4, hw4⟩ : ∃ w4, w4 = w3.alloc (.cells #[.int .i64 ps, .int .i64 pa] 28) := ⟨_, rfl⟩
    have HW4 : Hid ((w2.alloc (.cells #[.slice ea E.out.length ec, .int .i64 E.sent, .int .i64 E.got] 26)).alloc (.cells #[.int .i64 ps, .int .i64 pa] 28) = w4) := hide (by rw [hw4, hw3])
    have s3 : w3.heap.size = w2.heap.size + 1 := by rw [hw3]; simp
    have b34 : Below w3.heap.size w3 w4 := by rw [hw4]; exact below_alloc (Below.refl _ _) _
    have b24 : Below w2.heap.size w2 w4 := below_trans (by rw [hw3]; exact below_alloc (Below.refl _ _) _) b34
    have HV4 : Hid (Cells3 w2.heap.size (.slice ea E.out.length ec) (.int .i64 E.sent) (.int .i64 E.got) w4) := hide ((by rw [hw3]; exact cells3_alloc _ _ _ _ _ : Cells3 w2.heap.size (.slice ea E.out.length ec) (.int .i64 E.sent) (.int .i64 E.got) w3).on b34)
    have HP4 : Hid (Cells2 (w2.heap.size + 1) (.int .i64 ps) (.int .i64 pa) w4) := hide (by rw [hw4, ← s3]; exact cells2_alloc _ _ _ _)
    have HR4 : Hid (RowAt 2 prcCells w4 ea E.out) := hide (hrow.below b24)
    have HX4 : Hid (Below w.heap.size w w4) := hide (below_trans hb2 b24)
    obtain ⟨M, hM⟩ : ∃ M, M = w2.heap.size := ⟨_, rfl⟩
    rw [← hM] at HV4 HP4
    clear hw3 hw4 s3 b34 b24 hrow hb2
    have HIR : Hid (∀ (F : En) (fa : Option Addr) (fc : Nat) (x : World), F.out.length ≤ 8 → RowAt 2 prcCells x fa F.out → Calls Try.prog 6 #[.agg #[.slice fa F.out.length fc, .int .i64 F.sent, .int .i64 F.got], .agg #[.int .i64 ps, .int .i64 pa]] x fun e w' => EndTwo (rcvE F ⟨ps, pa⟩) (rcvX F ⟨ps, pa⟩) (rcvY F ⟨ps, pa⟩) x e w') := hide (fun F fa fc x h8 hx => implReceived_any fa F.out fc F.sent F.got ps pa x (by omega) hx)
    have HSR : Hid (∀ (x : World), RowAt 2 prcCells x ea E.out → Calls Try.prog 7 #[.agg #[.slice ea E.out.length ec, .int .i64 E.sent, .int .i64 E.got], .agg #[.int .i64 ps, .int .i64 pa]] x fun e w' => EndTwo (rcvE E ⟨ps, pa⟩) (rcvX E ⟨ps, pa⟩) (rcvY E ⟨ps, pa⟩) x e w') := hide (fun x hx => specReceived_any ea E.out ec E.sent E.got ps pa x (by omega) hn0 hx)
    have HCS : Hid _ := hide (rcv_cases E ⟨ps, pa⟩)
    have HI1 : Hid _ := hide (fun x => HIR.out E ea ec x h8)
    have HI2 : Hid _ := hide (fun fa fc x => HIR.out (rcvE E ⟨ps, pa⟩) fa fc x)
    clear HIR
    obtain ⟨c0, c1, c2⟩ := And.intro HV4.out.c0 (And.intro HV4.out.c1 HV4.out.c2)
    obtain ⟨p0, p1⟩ := And.intro HP4.out.c0 HP4.out.c1
    rw [← HW4.out] at c0 c1 c2 p0 p1
    rw [hM] at c0 c1 c2 p0 p1
    go_wp2_with fail
    rw [HW4.out]
    rw [HW4.out] at c0 c1 c2 p0 p1
    rw [← hM]
    clear c0 c1 c2 p0 p1 HW4 hM
    refine (HI1.out w4 HR4.out).mono ?_
    rintro e w5 ⟨hb5, v5, rfl, g5, fa, fc, hg5, rfl, ho5⟩
    generalize rcvE E ⟨ps, pa⟩ = F at *
    generalize rcvX E ⟨ps, pa⟩ = X at *
    generalize rcvY E ⟨ps, pa⟩ = Y at *
    obtain ⟨w6, hw6⟩ : ∃ w6, w6 = w5.alloc (.cells #[.slice fa F.out.length fc, .int .i64 F.sent, .int .i64 F.got] 26) := ⟨_, rfl⟩
    have b56 : Below w5.heap.size w5 w6 := by rw [hw6]; exact below_alloc (Below.refl _ _) _
    have b46 := below_trans hb5 b56
    have HW6 : Hid (w5.alloc (.cells #[.slice fa F.out.length fc, .int .i64 F.sent, .int .i64 F.got] 26) = w6) := hide hw6.symm
    have HF6 : Hid (Cells3 w5.heap.size (.slice fa F.out.length fc) (.int .i64 F.sent) (.int .i64 F.got) w6) := hide (by rw [hw6]; exact cells3_alloc _ _ _ _ _)
    have HG6 : Hid (RowAt 2 prcCells w6 fa F.out) := hide (ho5.rows.below b56)
    have HV6 : Hid _ := hide (HV4.out.on b46)
    have HP6 : Hid _ := hide (HP4.out.on b46)
    have HR6 : Hid _ := hide (HR4.out.below b46)
    have HX6 : Hid _ := hide (below_trans HX4.out b46)
    clear hw6 b56 b46 hb5 hg5 ho5 HV4 HP4 HR4 HX4 HI1
    obtain ⟨c0, c1, c2⟩ := And.intro HV6.out.c0 (And.intro HV6.out.c1 HV6.out.c2)
    obtain ⟨p0, p1⟩ := And.intro HP6.out.c0 HP6.out.c1
    rw [← HW6.out] at c0 c1 c2 p0 p1
    go_wp2_with fail
    rw [HW6.out]
    clear c0 c1 c2 p0 p1 HW6
    refine (HSR.out w6 HR6.out).mono ?_
    rintro e w7 ⟨hb7, v7, rfl, g7, ga, gc, hg7, rfl, ho7⟩
    have HB7 : Hid (Below w6.heap.size w6 (w7.alloc (.cells #[.slice ga F.out.length gc, .int .i64 F.sent, .int .i64 F.got] 26))) := hide (below_trans hb7 (below_alloc (Below.refl _ _) _))
    have hq1 : (X != X) = false := by simp
    have hq2 : (Y != Y) = false := by simp
    have hq3 : (X == X) = true := by simp
    have hq4 : (Y == Y) = true := by simp
    clear hb7 hg7 ho7
    rcases HCS.out with ⟨_, x0, y0⟩ | ⟨b, hy, hb1, hb2, hgE, hF8, hFg, hFF, hFX, hFY⟩
    · subst x0 y0
      have HX7 : Hid _ := hide (below_trans HX6.out HB7.out)
      clear HCS HI2 HSR hq1 hq2 hq3 hq4
      go_wp2
      go_ret
      exact ⟨rfl, HX7.out⟩
    · have HX7 : Hid _ := hide (below_trans HX6.out HB7.out)
      have HV7 : Hid _ := hide (HV6.out.on HB7.out)
      have HP7 : Hid _ := hide (HP6.out.on HB7.out)
      have HF7 : Hid _ := hide (HF6.out.on HB7.out)
      have HG7 : Hid _ := hide (HG6.out.below HB7.out)
      have HFG : Hid (F.got = Y) := hide hFg
      have hI := fun fa fc x => HI2.out fa fc x hF8
      rw [hFF, hFX, hFY] at hI
      have HI3 : Hid _ := hide hI
      have hy' : ¬ Y < 0 := by omega
      clear hFg hFF hFX hFY
      clear HCS HI2 HSR hI HX6 HV6 HP6 HF6 HG6 HB7 HR6
      obtain ⟨c0, c1, c2⟩ := And.intro HF7.out.c0 (And.intro HF7.out.c1 HF7.out.c2)
      obtain ⟨p0, p1⟩ := And.intro HP7.out.c0 HP7.out.c1
      obtain ⟨w8, hw8⟩ : ∃ w8, w8 = w7.alloc (.cells #[.slice ga F.out.length gc, .int .i64 F.sent, .int .i64 F.got] 26) := ⟨_, rfl⟩
      have HW8 : Hid (w7.alloc (.cells #[.slice ga F.out.length gc, .int .i64 F.sent, .int .i64 F.got] 26) = w8) := hide hw8.symm
      go_wp2_with fail
      rw [HW8.out]
      rw [HW8.out] at HX7 HV7 HP7 HF7 HG7
      clear c0 c1 c2 p0 p1 HW8 hw8
      refine (HI3.out fa fc w8 HG7.out).mono ?_
      rintro e w9 ⟨hb9, v9, rfl, g9, ka, kc, hg9, rfl, ho9⟩
      obtain ⟨w10, hw10⟩ : ∃ w10, w10 = w9.alloc (.cells #[.slice ka F.out.length kc, .int .i64 F.sent, .int .i64 F.got] 26) := ⟨_, rfl⟩
      have HW10 : Hid (w9.alloc (.cells #[.slice ka F.out.length kc, .int .i64 F.sent, .int .i64 F.got] 26) = w10) := hide hw10.symm
      have b10 : Below w8.heap.size w8 w10 := below_trans hb9 (by rw [hw10]; exact below_alloc (Below.refl _ _) _)
      have HK10 : Hid (Cells3 w9.heap.size (.slice ka F.out.length kc) (.int .i64 F.sent) (.int .i64 F.got) w10) := hide (by rw [hw10]; exact cells3_alloc _ _ _ _ _)
      have HX10 : Hid _ := hide (below_trans HX7.out b10)
      have HV10 : Hid _ := hide (HV7.out.on b10)
      have HP10 : Hid _ := hide (HP7.out.on b10)
      have HF10 : Hid _ := hide (HF7.out.on b10)
      clear hb9 hg9 ho9 hw10 b10 HX7 HV7 HP7 HF7 HG7 HI3
      have hq5 : (F.got != F.got) = false := by simp
      have hq6 : (F.got != Y) = false := by rw [HFG.out]; simp
      have hbb : (b != b) = false := by simp
      have hc2 := HF10.out.c2
      have hk2 := HK10.out.c2
      have hp0 := HP10.out.c0
      have hv2 := HV10.out.c2
      rw [← HW10.out] at hc2 hk2 hp0 hv2
      have HC10 : Hid (IsCode w10 a len) := hide (HC.out.below HX10.out)
      go_wp2_with fail
      rw [HW10.out]
      clear hc2 hk2 hp0 hv2 HW10 hq1 hq2 hq3 hq4 hq5 hq6 hbb hb1 hb2 hy hy' HV10 HP10 HF10 HK10 HFG hgE
      refine (drawAcked_any a len cap w10 HC10.out).mono ?_
      rintro e w12 ⟨E2, ha, hc, s, rfl, h28, hs2, hg2, is, hn2, hrow2, hb12⟩
      obtain ⟨w13, hw13⟩ : ∃ w13, w13 = w12.alloc (.cells #[.slice ha E2.out.length hc, .int .i64 E2.sent, .int .i64 E2.got] 26) := ⟨_, rfl⟩
      have HW13 : Hid (w12.alloc (.cells #[.slice ha E2.out.length hc, .int .i64 E2.sent, .int .i64 E2.got] 26) = w13) := hide hw13.symm
      have b13 : Below w12.heap.size w12 w13 := by rw [hw13]; exact below_alloc (Below.refl _ _) _
      have HH13 : Hid (Cells3 w12.heap.size (.slice ha E2.out.length hc) (.int .i64 E2.sent) (.int .i64 E2.got) w13) := hide (by rw [hw13]; exact cells3_alloc _ _ _ _ _)
      have HR13 : Hid (RowAt 2 prcCells w13 ha E2.out) := hide (hrow2.below b13)
      have HX13 : Hid _ := hide (below_trans (below_trans HX10.out hb12) b13)
      clear hw13 b13 hrow2 hb12 HX10 HC10 HC
      have HSA : Hid (∀ (x : World), RowAt 2 prcCells x ha E2.out → Calls Try.prog 10 #[.agg #[.slice ha E2.out.length hc, .int .i64 E2.sent, .int .i64 E2.got], .int .i64 s] x fun e w' => EndFlag (ackE E2 s) (ackOk E2 s) x e w') := hide (fun x hx => specAcked_any ha E2.out hc E2.sent E2.got s x (by omega) hx)
      have HIA : Hid (∀ (x : World), RowAt 2 prcCells x ha E2.out → Calls Try.prog 9 #[.agg #[.slice ha E2.out.length hc, .int .i64 E2.sent, .int .i64 E2.got], .int .i64 s] x fun e w' => EndFlag (ackE E2 s) (ackOk E2 s) x e w') := hide (fun x hx => implAcked_any ha E2.out hc E2.sent E2.got s x (by omega) hx)
      have HOP : Hid (ackOk E2 s = true → openOf (ackE E2 s) s = openOf E2 s ∧ openOf (ackE E2 s) 0 = openOf E2 s ∧ endB (ackE E2 s) = true ∧ (ackE E2 s).sent = E2.sent) := hide ack_open
      have HA8 : Hid ((ackE E2 s).out.length ≤ 8) := hide (ackE_len8 E2 s h28)
      generalize ackE E2 s = A at *
      generalize ackOk E2 s = F2 at *
      obtain ⟨c0, c1, c2⟩ := And.intro HH13.out.c0 (And.intro HH13.out.c1 HH13.out.c2)
      rw [← HW13.out] at c0 c1 c2
      go_wp2_with fail
      rw [HW13.out]
      clear c0 c1 c2 HW13
      refine (HIA.out w13 HR13.out).mono ?_
      rintro e w14 ⟨hb14, v14, rfl, g14, xa, xc, hg14, rfl, ho14⟩
      obtain ⟨w15, hw15⟩ : ∃ w15, w15 = w14.alloc (.cells #[.slice xa A.out.length xc, .int .i64 A.sent, .int .i64 A.got] 26) := ⟨_, rfl⟩
      have HW15 : Hid (w14.alloc (.cells #[.slice xa A.out.length xc, .int .i64 A.sent, .int .i64 A.got] 26) = w15) := hide hw15.symm
      have b15 : Below w14.heap.size w14 w15 := by rw [hw15]; exact below_alloc (Below.refl _ _) _
      have b135 := below_trans hb14 b15
      have HA15 : Hid (Cells3 w14.heap.size (.slice xa A.out.length xc) (.int .i64 A.sent) (.int .i64 A.got) w15) := hide (by rw [hw15]; exact cells3_alloc _ _ _ _ _)
      have HQ15 : Hid (RowAt 2 prcCells w15 xa A.out) := hide (ho14.rows.below b15)
      have HH15 : Hid _ := hide (HH13.out.on b135)
      have HR15 : Hid _ := hide (HR13.out.below b135)
      have HX15 : Hid _ := hide (below_trans HX13.out b135)
      clear hb14 hg14 ho14 hw15 b15 b135 HH13 HR13 HX13 HIA
      obtain ⟨c0, c1, c2⟩ := And.intro HH15.out.c0 (And.intro HH15.out.c1 HH15.out.c2)
      rw [← HW15.out] at c0 c1 c2
      go_wp2_with fail
      rw [HW15.out]
      clear c0 c1 c2 HW15
      refine (HSA.out w15 HR15.out).mono ?_
      rintro e w16 ⟨hb16, v16, rfl, g16, ya, yc, hg16, rfl, ho16⟩
      obtain ⟨w17, hw17⟩ : ∃ w17, w17 = w16.alloc (.cells #[.slice ya A.out.length yc, .int .i64 A.sent, .int .i64 A.got] 26) := ⟨_, rfl⟩
      have HW17 : Hid (w16.alloc (.cells #[.slice ya A.out.length yc, .int .i64 A.sent, .int .i64 A.got] 26) = w17) := hide hw17.symm
      have b17 : Below w15.heap.size w15 w17 := below_trans hb16 (by rw [hw17]; exact below_alloc (Below.refl _ _) _)
      have HY17 : Hid (Cells3 w16.heap.size (.slice ya A.out.length yc) (.int .i64 A.sent) (.int .i64 A.got) w17) := hide (by rw [hw17]; exact cells3_alloc _ _ _ _ _)
      have HA17 : Hid _ := hide (HA15.out.on b17)
      have HQ17 : Hid _ := hide (HQ15.out.below b17)
      have HH17 : Hid _ := hide (HH15.out.on b17)
      have HR17 : Hid _ := hide (HR15.out.below b17)
      have HX17 : Hid _ := hide (below_trans HX15.out b17)
      clear hb16 hg16 ho16 hw17 b17 HA15 HQ15 HH15 HR15 HX15 HSA
      have hln : ((A.out.length : Int) != (A.out.length : Int)) = false := by simp
      have a0 := HA17.out.c0
      have y0 := HY17.out.c0
      rw [← HW17.out] at a0 y0
      cases F2
      · go_wp2
        go_ret
        rw [HW17.out]
        exact ⟨rfl, HX17.out⟩
      · obtain ⟨o1, o2, o3, o4⟩ := HOP.out rfl
        have hA8 := HA8.out
        generalize hO : openOf E2 s = O at *
        have hOO : (O == O) = true := by simp
        have hSS : (E2.sent == E2.sent) = true := by simp
        have z0 := later_cell HA17.out.c0
        have z1 := later_cell HA17.out.c1
        have z2 := later_cell HA17.out.c2
        have x0 := later_cell HH17.out.c0
        have x1 := later_cell HH17.out.c1
        have x2 := later_cell HH17.out.c2
        rw [o4] at z1
        have HO1 : Hid (∀ y : Later w17, Calls Try.prog 11 #[.agg #[.slice xa A.out.length xc, .int .i64 E2.sent, .int .i64 A.got], .int .i64 s] y.w fun e w'' => e = .returned (.int .i64 O) ∧ ∃ z : Later w17, w'' = z.w) := hide (fun y => by
          have := implOpenOf_any xa A.out xc A.sent A.got s y.w (by omega) (HQ17.out.below y.below)
          rw [show openOf ⟨A.out, A.sent, A.got⟩ s = O from o1, o4] at this
          exact later_of this)
        have HO2 : Hid (∀ y : Later w17, Calls Try.prog 11 #[.agg #[.slice ha E2.out.length hc, .int .i64 E2.sent, .int .i64 E2.got], .int .i64 s] y.w fun e w'' => e = .returned (.int .i64 O) ∧ ∃ z : Later w17, w'' = z.w) := hide (fun y => by
          have := implOpenOf_any ha E2.out hc E2.sent E2.got s y.w (by omega) (HR17.out.below y.below)
          rw [show openOf ⟨E2.out, E2.sent, E2.got⟩ s = O from hO] at this
          exact later_of this)
        have HO3 : Hid (∀ y : Later w17, Calls Try.prog 11 #[.agg #[.slice xa A.out.length xc, .int .i64 E2.sent, .int .i64 A.got], .int .i64 0] y.w fun e w'' => e = .returned (.int .i64 O) ∧ ∃ z : Later w17, w'' = z.w) := hide (fun y => by
          have := implOpenOf_any xa A.out xc A.sent A.got 0 y.w (by omega) (HQ17.out.below y.below)
          rw [show openOf ⟨A.out, A.sent, A.got⟩ 0 = O from o2, o4] at this
          exact later_of this)
        have HO4 : Hid (∀ y : Later w17, Calls Try.prog 12 #[.agg #[.slice xa A.out.length xc, .int .i64 E2.sent, .int .i64 A.got]] y.w fun e w'' => e = .returned (.bool true) ∧ ∃ z : Later w17, w'' = z.w) := hide (fun y => by
          have := implEndOk_any xa A.out xc A.sent A.got y.w (by omega) (HQ17.out.below y.below)
          rw [show endB ⟨A.out, A.sent, A.got⟩ = true from o3, o4] at this
          exact later_of this)
        have hne : Nonempty (Later w17) := later_there _
        clear o1 o2 o3 o4 hO HOP HA17 HH17 HQ17 HR17 HY17 HA8
        go_wp2_with fail
        rw [HW17.out]
        clear a0 y0 HW17
        refine wp_region_later w17 (by kernel_rfl) (by kernel_rfl) ((Below.refl _ _).drew) ?_
        repeat (go_big_quiet_step (first
          | (go_at_call 11; with_reducible exact HO1.out _)
          | (go_at_call 11; with_reducible exact HO2.out _)
          | (go_at_call 11; with_reducible exact HO3.out _)
          | (go_at_call 12; with_reducible exact HO4.out _)))
        refine wpQuiet_nil ?_
        intro _ hw'
        obtain ⟨nx, rfl⟩ := hw'
        have HX18 : Hid _ := hide (below_trans HX17.out nx.below)
        go_wp2
        go_ret
        exact ⟨rfl, HX18.out⟩
end Go.Proofs.Ytmgjblgmmdnekaa
