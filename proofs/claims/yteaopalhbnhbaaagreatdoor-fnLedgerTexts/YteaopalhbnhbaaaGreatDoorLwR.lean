/- The law FnExactReadLedger. -/
import Derived.Test.YteaopalhbnhbaaaGreatDoorH1
import Derived.Test.YteaopalhbnhbaaaGreatDoorH3
import Derived.Test.YteaopalhbnhbaaaGreatDoorLdR
namespace Go.Proofs.YteaopalhbnhbaaaGreatDoor
open Go.ChangeShapes Go.WideShapes Go.ChangeAt Go.RowKit
set_option linter.unusedVariables false
set_option maxRecDepth 100000
theorem orow_in {A : Type} {sz : Nat} {f : A → List Value} {a : Option Addr} {c : Nat} {l : List A} {x : World} (o : OwnRow sz f x (gOf a) a c l) (h : 0 < l.length) : gOf a ∈ (orow sz f a c l).fp := by
  rw [orow_fp, (o.own h).1]
  simp [Value.ownBlock, gOf]
theorem led_own {p : LP} {Y : Led} {w w' : World} (hq : Pool [] w [ledL p Y] w') : Below w.heap.size w w' ∧ OwnR w.heap.size w'.heap.size p.aa p.ha p.sa p.ca p.ch p.cs (gOf p.aa) (gOf p.ha) (gOf p.sa) Y.acc Y.hold Y.seen w' := by
  have st := hq.st
  simp only [List.flatten_cons, List.flatten_nil, List.append_nil] at st
  unfold ledL at st
  have nd := st.nd
  rw [fps_cons, fps_cons, fps_one, List.nodup_append, List.nodup_append] at nd
  obtain ⟨_, ⟨_, _, n23⟩, n1⟩ := nd
  have low : ∀ b ∈ fps [orow 4 accCells p.aa p.ca Y.acc, orow 4 hldCells p.ha p.ch Y.hold, orow 2 snCells p.sa p.cs Y.seen], w.heap.size ≤ b ∧ b < w'.heap.size := fun b hb => ⟨(hq.hi b (by simpa [ledL] using hb)).resolve_left (by simp), st.lt b hb⟩
  have o1 := (st.get (r := orow 4 accCells p.aa p.ca Y.acc) (by simp)).2
  have o2 := (st.get (r := orow 4 hldCells p.ha p.ch Y.hold) (by simp)).2
  have o3 := (st.get (r := orow 2 snCells p.sa p.cs Y.seen) (by simp)).2
  refine ⟨hq.below, ⟨o1, o2, o3, fun p1 p2 => ?_, fun p1 p2 => ?_, fun p1 p2 => ?_, fun p1 => ?_, fun p1 => ?_, fun p1 => ?_⟩⟩
  · exact n1 _ (orow_in o1 p1) _ (List.mem_append_left _ (orow_in o2 p2))
  · exact n1 _ (orow_in o1 p1) _ (List.mem_append_right _ (orow_in o3 p2))
  · exact n23 _ (orow_in o2 p1) _ (orow_in o3 p2)
  · exact low _ (by rw [fps_cons]; exact List.mem_append_left _ (orow_in o1 p1))
  · exact low _ (by rw [fps_cons, fps_cons]; exact List.mem_append_right _ (List.mem_append_left _ (orow_in o2 p1)))
  · exact low _ (by rw [fps_cons, fps_cons, fps_one]; exact List.mem_append_right _ (List.mem_append_right _ (orow_in o3 p1)))
theorem both_led {s : List UInt8} {L D : Led} {p q : LP} {b c : Bool} (h : RlIs s L p b) (k : SlIs s D q c) : L = D ∧ b = c := by
  cases b
  · obtain ⟨h1, h2, _⟩ := h.no rfl
    cases c
    · exact ⟨h2.trans (k.no rfl).2.1.symm, rfl⟩
    · obtain ⟨k1, k2⟩ := k.yes rfl
      exact absurd (k1 ▸ text_ledP k2) (h1 D)
  · have h1 := h.yes rfl
    obtain ⟨t1, t2⟩ := ledP_text h1
    cases c
    · exact absurd t1 ((k.no rfl).1 L t2)
    · obtain ⟨k1, k2⟩ := k.yes rfl
      refine ⟨?_, rfl⟩
      rw [← t1] at k1
      have := text_ledP k2
      rw [k1, t1] at this
      exact (h1.inj this).1
set_option maxHeartbeats 8000000 in
theorem walkReadLedger (s : ByteArray) (t td : TypeId) (v vd : Value) (w : World) (E : Env t v w) (ED : w.cell? ⟨1, 0, none⟩ = some (.iface td vd)) : Calls Tryz.prog 4 #[.string s] w fun e w' => YesEnd w e w' := by
  obtain ⟨l, rfl⟩ : ∃ l, s = bs l := ⟨_, bs_of rfl⟩
  have HE : Hid _ := hide E
  have HD : Hid _ := hide ED
  have hsz : (bs l).size = l.length := bs_size l
  clear E ED
  by_cases hbig : (1048576 : Int) < (l.length : Int)
  · go_enter Tryz.func4, Tryz.ntmps4
    go_wp2
    go_ret
    exact ⟨rfl, Below.refl _ _⟩
  · have hbig' : ¬ (1048576 : Int) < (l.length : Int) := hbig
    go_enter Tryz.func4, Tryz.ntmps4
    go_wp2_with fail
    refine (specReadLedger_any l w (by omega)).mono ?_
    rintro e w1 ⟨Y, p, b, hi, rfl, hp⟩
    have HS : Hid _ := hide hi
    have HML : Hid _ := hide hi.sz
    obtain ⟨hb1, hr1⟩ := led_own hp
    have HX1 : Hid _ := hide hb1
    have R1 : Hid _ := hide hr1
    clear hp hi hb1 hr1
    unfold ledV
    go_upto_region 4 with fail
    refine cnm_world (fun w2 hw2 => ?_)
    have b2 : Below w1.heap.size w1 w2 := by rw [hw2]; exact below_alloc (Below.refl _ _) _
    have K2 : Hid (Blk w1.heap.size [.slice p.aa Y.acc.length p.ca, .slice p.ha Y.hold.length p.ch, .slice p.sa Y.seen.length p.cs] w2) := hide (by rw [hw2]; exact Blk.new)
    have N2 : Hid (w2.heap.size = w1.heap.size + 1) := hide (by rw [hw2]; simp)
    have HX2 : Hid _ := hide (below_trans HX1.out b2)
    have R2 : Hid _ := hide (R1.out.below b2)
    clear hw2 b2 R1
    go_wp2_with fail
    refine (implReadLedger_any l t td v vd _ (HE.out.below HX2.out) (below_keeps HX2.out _ _ HD.out) (by omega)).mono ?_
    rintro e w3 ⟨L3, p3, b3, hi3, rfl, hp3⟩
    obtain ⟨rfl, rfl⟩ := both_led hi3 HS.out
    obtain ⟨hb3, hr3⟩ := led_own hp3
    have HX3 : Hid _ := hide (below_trans HX2.out hb3)
    have R3 : Hid _ := hide (R2.out.below hb3)
    have K3 : Hid _ := hide (K2.out.below hb3)
    have Q3 : Hid _ := hide hr3
    have N3 : Hid (w.heap.size ≤ w1.heap.size ∧ w2.heap.size = w1.heap.size + 1 ∧ w2.heap.size ≤ w3.heap.size) := hide ⟨HX1.out.size, N2.out, hb3.size⟩
    clear hp3 hi3 hb3 hr3 R2 K2 HX2 N2 HX1
    unfold ledV
    go_upto_region 5 with fail
    refine cnm_world (fun w4 hw4 => ?_)
    have b4 : Below w3.heap.size w3 w4 := by rw [hw4]; exact below_alloc (Below.refl _ _) _
    have J4 : Hid (Blk w3.heap.size [.slice p3.aa L3.acc.length p3.ca, .slice p3.ha L3.hold.length p3.ch, .slice p3.sa L3.seen.length p3.cs] w4) := hide (by rw [hw4]; exact Blk.new)
    have HX4 : Hid _ := hide (below_trans HX3.out b4)
    have R4 : Hid _ := hide (R3.out.below b4)
    have K4 : Hid _ := hide (K3.out.below b4)
    have Q4 : Hid _ := hide (Q3.out.below b4)
    clear hw4 b4 R3 K3 Q3 HX3
    have s0 := K4.out.c 0 _ rfl
    have s1 := K4.out.c 1 _ rfl
    have s2 := K4.out.c 2 _ rfl
    have p0 := J4.out.c 0 _ rfl
    have p1 := J4.out.c 1 _ rfl
    have p2 := J4.out.c 2 _ rfl
    have hcc : (b3 != b3) = false := by simp
    go_wp2_with fail
    refine (eqLedger_row _ _ _ _ _ _ L3 _ _ _ _ _ _ _ Q4.out.r3 R4.out.r3 HML.out.1 HML.out.2.1 HML.out.2.2).mono ?_
    rintro e w5 ⟨rfl, hb5⟩
    have HX5 : Hid _ := hide (below_trans HX4.out hb5)
    have R5 : Hid _ := hide (R4.out.below hb5)
    have K5 : Hid _ := hide (K4.out.below hb5)
    have Q5 : Hid _ := hide (Q4.out.below hb5)
    have J5 : Hid _ := hide (J4.out.below hb5)
    clear hb5 HX4 R4 K4 Q4 J4 s0 s1 s2 p0 p1 p2
    have p0 := J5.out.c 0 _ rfl
    have p1 := J5.out.c 1 _ rfl
    have p2 := J5.out.c 2 _ rfl
    go_wp2_with fail
    refine (markLedger_any _ _ 1 _ _ _ _ _ _ _ _ _ L3.acc L3.hold L3.seen _ HML.out.1 HML.out.2.1 HML.out.2.2 (by omega) (by omega) Q5.out).mono ?_
    rintro e w6 ⟨rfl, hc6, hr6⟩
    have HX6 : Hid (Below w.heap.size w w6) := hide (HX5.out.trans (hc6.low (by have := N3.out; omega) HX5.out.size))
    have R6 : Hid _ := hide (hc6.keep R5.out (.inl (by have := N3.out; omega)))
    have K6 : Hid _ := hide (hc6.blk K5.out (.inl (by have := N3.out; omega)))
    have J6 : Hid _ := hide (hc6.blk J5.out (.inr (Nat.le_refl _)))
    have Q6 : Hid (Row3 w6 p3.aa p3.ha p3.sa (markD L3)) := hide ⟨hr6.o1.rows, hr6.o2.rows, hr6.o3.rows⟩
    have HQ2 : Hid (1 + 4 * L3.acc.length + 4 * L3.hold.length + 2 * L3.seen.length ≤ 20000000) := hide (by have := HML.out; omega)
    clear hc6 hr6 HX5 R5 K5 Q5 J5 p0 p1 p2
    have HH : Hid (∀ x : World, Row3 x p3.aa p3.ha p3.sa (markD L3) → Calls Tryz.prog 16 #[.agg #[.slice p3.aa L3.acc.length p3.ca, .slice p3.ha L3.hold.length p3.ch, .slice p3.sa L3.seen.length p3.cs], .int .i64 1] x fun e w' => HeldEnd (1 + 4 * L3.acc.length + 4 * L3.hold.length + 2 * L3.seen.length) x e w') := hide (fun x hx => heldLedger_any 1 p3.aa p3.ha p3.sa p3.ca p3.ch p3.cs L3.acc.length L3.hold.length L3.seen.length x HML.out.1 HML.out.2.1 HML.out.2.2 (by omega) (by omega) ⟨hx.acc, hx.hold, hx.seen⟩)
    generalize 1 + 4 * L3.acc.length + 4 * L3.hold.length + 2 * L3.seen.length = m2 at *
    have j1 : (m2 : Int) ≤ 20000000 := by have := HQ2.out; omega
    have j2 : ¬ ((m2 : Int) < 0) := by omega
    have j3 : ((m2 : Int) != (m2 : Int)) = false := by simp
    have p0 := J6.out.c 0 _ rfl
    have p1 := J6.out.c 1 _ rfl
    have p2 := J6.out.c 2 _ rfl
    go_wp2_with fail
    refine (HH.out w6 Q6.out).mono ?_
    rintro e w7 ⟨rfl, hb7⟩
    have HX7 : Hid _ := hide (below_trans HX6.out hb7)
    have R7 : Hid _ := hide (R6.out.below hb7)
    have K7 : Hid _ := hide (K6.out.below hb7)
    have Q7 : Hid _ := hide (Q6.out.below hb7)
    have J7 : Hid _ := hide (J6.out.below hb7)
    clear hb7 HX6 R6 K6 Q6 J6 p0 p1 p2
    go_wp2_with fail
    refine (implReadLedger_any l t td v vd _ (HE.out.below HX7.out) (below_keeps HX7.out _ _ HD.out) (by omega)).mono ?_
    rintro e w8 ⟨L8, p8, b8, hi8, rfl, hp8⟩
    obtain ⟨rfl, rfl⟩ := both_led hi8 HS.out
    obtain ⟨hb8, hr8⟩ := led_own hp8
    have HX8 : Hid _ := hide (below_trans HX7.out hb8)
    have R8 : Hid _ := hide (R7.out.below hb8)
    have K8 : Hid _ := hide (K7.out.below hb8)
    have Q8 : Hid _ := hide (Q7.out.below hb8)
    have J8 : Hid _ := hide (J7.out.below hb8)
    have M8 : Hid _ := hide hr8
    clear hp8 hi8 hb8 hr8 R7 K7 Q7 J7 HX7
    unfold ledV
    go_upto_region 16 with fail
    refine cnm_world (fun w9 hw9 => ?_)
    have b9 : Below w8.heap.size w8 w9 := by rw [hw9]; exact below_alloc (Below.refl _ _) _
    have I9 : Hid (Blk w8.heap.size [.slice p8.aa L8.acc.length p8.ca, .slice p8.ha L8.hold.length p8.ch, .slice p8.sa L8.seen.length p8.cs] w9) := hide (by rw [hw9]; exact Blk.new)
    have HX9 : Hid _ := hide (below_trans HX8.out b9)
    have R9 : Hid _ := hide (R8.out.below b9)
    have K9 : Hid _ := hide (K8.out.below b9)
    have Q9 : Hid _ := hide (Q8.out.below b9)
    have J9 : Hid _ := hide (J8.out.below b9)
    have M9 : Hid _ := hide (M8.out.below b9)
    clear hw9 b9 R8 K8 Q8 J8 M8 HX8
    have s0 := K9.out.c 0 _ rfl
    have s1 := K9.out.c 1 _ rfl
    have s2 := K9.out.c 2 _ rfl
    have p0 := I9.out.c 0 _ rfl
    have p1 := I9.out.c 1 _ rfl
    have p2 := I9.out.c 2 _ rfl
    go_wp2_with fail
    refine (eqLedger_row _ _ _ _ _ _ L8 _ _ _ _ _ _ _ M9.out.r3 R9.out.r3 HML.out.1 HML.out.2.1 HML.out.2.2).mono ?_
    rintro e w10 ⟨rfl, hb10⟩
    have HX10 : Hid _ := hide (below_trans HX9.out hb10)
    have Q10 : Hid _ := hide (Q9.out.below hb10)
    have J10 : Hid _ := hide (J9.out.below hb10)
    clear hb10 HX9 R9 K9 Q9 J9 M9 I9 s0 s1 s2 p0 p1 p2
    have p0 := J10.out.c 0 _ rfl
    have p1 := J10.out.c 1 _ rfl
    have p2 := J10.out.c 2 _ rfl
    go_wp2_with fail
    refine (HH.out w10 Q10.out).mono ?_
    rintro e w11 ⟨rfl, hb11⟩
    have HX11 : Hid (Below w.heap.size w w11) := hide (below_trans HX10.out hb11)
    clear hb11 p0 p1 p2
    go_wp2
    go_ret
    exact ⟨rfl, HX11.out⟩
end Go.Proofs.YteaopalhbnhbaaaGreatDoor
