/- The walk of the law FnWorldNew. -/
import Derived.Test.YtilacamcedjbmaaDrN
import Derived.Test.YtilacamcedjbmaaNwM
import Derived.Test.YtilacamcedjbmaaIWn
import Derived.Test.YtilacamcedjbmaaSWn
import Derived.Test.YtilacamcedjbmaaSOk
import Derived.Deep.QuietTactic
import Derived.BigQuiet
namespace Go.Proofs.Ytilacamcedjbmaa
open Go.ChangeShapes Go.WideShapes Go.ChangeAt Go.RowKit
set_option linter.unusedVariables false
theorem big_any (a : Option Addr) (len cap : Nat) (w : World) : Calls Try.prog 4 #[.slice a len cap] w fun e w' => e = .returned (.bool (decide (1048576 < (len : Int)))) ∧ w' = w := by
  go_enter Try.func4, Try.ntmps4
  go_wp2
  go_ret
  exact ⟨rfl, rfl⟩
def YesC (w : World) (e : Ending) (w' : World) : Prop := e = .returned (.bool true) ∧ Below w.heap.size w w'
theorem nodes_fst {base : Nat} {l : List Slt} {v : Value} {L : List Nd} {x : World} (h : Fst base l l.length v L x) : ∃ a cap, v = .slice a L.length cap ∧ NodesAt x a L := by
  obtain ⟨g, a, cap, _, e, ho⟩ := own_of_row ndLen h.row
  refine ⟨a, cap, e, ho.rows, fun n hn => ?_⟩
  obtain ⟨i, hi, rfl⟩ := List.getElem_of_mem hn
  obtain ⟨pa, pc, e2⟩ := h.is i hi (by have := h.len; omega)
  obtain ⟨g2, a2, c2, _, e3, ho2⟩ := own_of_row prLen (h.prs i hi)
  have e4 : L[i].pa = a2 := by
    simp only [Nd.pv, Value.slice.injEq] at e3
    exact e3.1
  refine ⟨by rw [e2]; exact RowAt.nil, by rw [e4]; exact ho2.rows, fun p hp => ?_⟩
  rw [e2] at hp
  simp only [mkN, peersL, List.mem_map] at hp
  obtain ⟨o, _, rfl⟩ := hp
  exact RowAt.nil
theorem sm_fst {base : Nat} {l : List Slt} {v : Value} {L : List Nd} {x : World} (h : Fst base l l.length v L x) (h8 : l.length ≤ 8) : ∀ n ∈ L, SmN n := fun n hn => by
  obtain ⟨i, hi, rfl⟩ := List.getElem_of_mem hn
  obtain ⟨pa, pc, e2⟩ := h.is i hi (by have := h.len; omega)
  rw [e2]
  refine ⟨by simp [mkN], Nat.le_trans (peersL_len l _) (by omega), fun p hp => ?_⟩
  simp only [mkN, peersL, List.mem_map] at hp
  obtain ⟨o, _, rfl⟩ := hp
  simp [newP]
theorem node_is {base : Nat} {l : List Slt} {v : Value} {L : List Nd} {x : World} (h : Fst base l l.length v L x) (i : Nat) (hi : i < L.length) (hi' : i < l.length) : (L[i]).id = (l[i]).id ∧ (L[i]).has = (l[i]).has ∧ (L[i]).peers.length = (peersL l l[i]).length := by
  obtain ⟨pa, pc, e2⟩ := h.is i hi hi'
  rw [e2]
  exact ⟨rfl, rfl, rfl⟩
theorem later_int2 {P : Program} {f : FuncId} {args : Array Value} {W : World} {x : Later W} {b b' : Int} (e : b = b') (h : Calls P f args x.w fun e w'' => e = .returned (.int .i64 b) ∧ ∃ y : Later W, w'' = y.w) : Calls P f args x.w fun e w'' => e = .returned (.int .i64 b') ∧ ∃ y : Later W, w'' = y.w := by rw [← e]; exact h
set_option maxRecDepth 100000 in
set_option maxHeartbeats 8000000 in
theorem walkWorldNew (a : Option Addr) (len cap : Nat) (w : World) (h : IsCode w a len) :
    Calls Try.prog 3 #[.slice a len cap] w fun e w' => YesC w e w' := by
  have HC : Hid _ := hide h
  clear h
  by_cases hbig : 1048576 < (len : Int)
  · have hd : decide (1048576 < (len : Int)) = true := by simp; omega
    go_enter Try.func3, Try.ntmps3
    go_wp2_with fail
    refine (big_any _ _ _ _).mono ?_
    rintro e w1 ⟨rfl, hw1⟩
    have hw1' := hw1.symm
    subst hw1'
    go_wp2
    go_ret
    exact ⟨rfl, Below.refl _ _⟩
  · have hd : decide (1048576 < (len : Int)) = false := by simp; omega
    go_enter Try.func3, Try.ntmps3
    go_wp2_with fail
    refine (big_any _ _ _ _).mono ?_
    rintro e w1 ⟨rfl, hw1⟩
    have hw1' := hw1.symm
    subst hw1'
    go_wp2_with fail
    refine (drawWorldNew_any a len cap w HC.out).mono ?_
    rintro e w2 ⟨l, g, gc, h1, h7, hp, hgc, rfl, hrow, hb2⟩
    have HX2 : Hid _ := hide hb2
    have HS2 : Hid (SlotAt w2 (some ⟨g, 0, none⟩) l) := hide (slot_of_row hrow hp)
    clear hp hrow hb2
    go_wp2_with fail
    refine (implWorldNew_any (some ⟨g, 0, none⟩) l gc w2 (by omega) hgc HS2.out).mono ?_
    rintro e w3 ⟨hb3, v3, L, st, base, hbase, rfl, hyes, hno⟩
    have HX3 : Hid _ := hide (below_trans HX2.out hb3)
    have HS3 : Hid _ := hide (HS2.out.below hb3)
    have HY3 : Hid _ := hide hyes
    have HN3 : Hid _ := hide hno
    clear hb3 hyes hno hbase HX2 HS2
    cases hr : rightsB l
    · obtain ⟨rfl, rfl, rfl⟩ := HN3.out hr
      have HR : Hid (rightsB l = false) := hide hr
      clear HN3 HY3
      have HX4 : Hid (Below w.heap.size w (w3.alloc (.cells #[.int .i64 0, .slice none 0 0, .slice none 0 0] 29))) := hide (below_alloc HX3.out _)
      have HS4 : Hid (SlotAt (w3.alloc (.cells #[.int .i64 0, .slice none 0 0, .slice none 0 0] 29)) (some ⟨g, 0, none⟩) l) := hide (HS3.out.below (below_alloc (Below.refl _ _) _))
      go_wp2_with fail
      refine (specWorldNew_any (some ⟨g, 0, none⟩) l gc _ (by omega) hgc HS4.out).mono ?_
      rintro e w4 ⟨hb4, v4, L4, st4, base4, hbase4, rfl, hyes4, hno4⟩
      have c1 : w4.cell? ⟨w3.heap.size, 1, none⟩ = some (.slice none 0 0) := (hb4.cell (by simp)).trans (World.cell?_alloc_at _ _ _ _ rfl)
      have c1' : w3.heap.size < w4.heap.size := by have := hb4.size; simp at this; omega
      obtain ⟨rfl, rfl, rfl⟩ := hno4 hr
      have HX5 : Hid (Below w.heap.size w w4) := hide (below_trans HX4.out hb4)
      clear hyes4 hno4 hb4 hbase4 HX4 HS4 HS3
      go_wp2
      go_ret
      exact ⟨rfl, below_alloc HX5.out _⟩
    · obtain ⟨rfl, hf3⟩ := HY3.out hr
      obtain ⟨na, nc, hv, hn3⟩ := nodes_fst hf3
      have hL : L.length = l.length := hf3.len
      rw [hL] at hv
      subst hv
      have HIS : Hid (∀ i (h : i < L.length) (h' : i < l.length), (L[i]).id = (l[i]).id ∧ (L[i]).has = (l[i]).has ∧ (L[i]).peers.length = (peersL l l[i]).length) := hide (node_is hf3)
      have HD : Hid (L.map Nd.d = l.map (nwD l)) := hide (fst_d hf3)
      have HSM : Hid (∀ n ∈ L, SmN n) := hide (sm_fst hf3 (by omega))
      have HN : Hid (NodesAt w3 na L) := hide hn3
      have HLL : Hid (L.length = l.length) := hide hL
      have HR : Hid (rightsB l = true) := hide hr
      clear hf3 hn3 HN3 HY3 hL
      generalize hst : sumL l = st at *
      have HST : Hid (sumL l = st) := hide hst
      clear hst
      have HX4 : Hid (Below w.heap.size w (w3.alloc (.cells #[.int .i64 st, .slice na l.length nc, .slice none 0 0] 29))) := hide (below_alloc HX3.out _)
      have HS4 : Hid (SlotAt (w3.alloc (.cells #[.int .i64 st, .slice na l.length nc, .slice none 0 0] 29)) (some ⟨g, 0, none⟩) l) := hide (HS3.out.below (below_alloc (Below.refl _ _) _))
      have HN4 : Hid (NodesAt (w3.alloc (.cells #[.int .i64 st, .slice na l.length nc, .slice none 0 0] 29)) na L) := hide (HN.out.below (below_alloc (Below.refl _ _) _))
      clear HX3 HS3 HN
      go_wp2_with fail
      refine (specWorldNew_any (some ⟨g, 0, none⟩) l gc _ (by omega) hgc HS4.out).mono ?_
      rintro e w4 ⟨hb4, v4, L4, st4, base4, hbase4, rfl, hyes4, hno4⟩
      have c0 : w4.cell? ⟨w3.heap.size, 0, none⟩ = some (.int .i64 st) := (hb4.cell (by simp)).trans (World.cell?_alloc_at _ _ _ _ rfl)
      have c1 : w4.cell? ⟨w3.heap.size, 1, none⟩ = some (.slice na l.length nc) := (hb4.cell (by simp)).trans (World.cell?_alloc_at _ _ _ _ rfl)
      have c2 : w4.cell? ⟨w3.heap.size, 2, none⟩ = some (.slice none 0 0) := (hb4.cell (by simp)).trans (World.cell?_alloc_at _ _ _ _ rfl)
      have hB : w3.heap.size < w4.heap.size := by have := hb4.size; simp at this; omega
      obtain ⟨_, hf4⟩ := hyes4 hr
      obtain ⟨na4, nc4, hv4, _⟩ := nodes_fst hf4
      subst hv4
      generalize L4.length = n4 at *
      have HX5 : Hid (Below w.heap.size w w4) := hide (below_trans HX4.out hb4)
      have HS5 : Hid _ := hide (HS4.out.below hb4)
      have HN5 : Hid _ := hide (HN4.out.below hb4)
      generalize w3.heap.size = B at *
      have K0 : Hid _ := hide c0
      have K1 : Hid _ := hide c1
      have K2 : Hid _ := hide c2
      have KB : Hid _ := hide hB
      clear hyes4 hno4 hb4 hbase4 HX4 HS4 HN4 hf4 c0 c1 c2 hB
      go_wp2
      go_loopw [8, 9] (fun s i wr => ∃ (k : Nat) (z : Int), k ≤ l.length ∧ s = .int .i64 z ∧ i = .int .i64 (k : Int) ∧ 0 ≤ z ∧ z ≤ 64 ∧ Hid (z = (lnkN l (l.take k) : Int)) ∧ Below w4.heap.size w4 wr) (fun s i wr => l.length - (intOf i).toNat)
      case atStart => exact ⟨0, 0, Nat.zero_le _, rfl, rfl, by omega, by omega, hide (by simp [lnkN]), below_alloc (Below.refl _ _) _⟩
      case round =>
        obtain ⟨k, z, hk, rfl, rfl, hz0, hz1, HZ, HB⟩ := hrel
        have hB : B < wr.heap.size := Nat.lt_of_lt_of_le KB.out HB.size
        have c0 : wr.cell? ⟨B, 0, none⟩ = some (.int .i64 st) := (HB.cell KB.out).trans K0.out
        have c1 : wr.cell? ⟨B, 1, none⟩ = some (.slice na l.length nc) := (HB.cell KB.out).trans K1.out
        have c2 : wr.cell? ⟨B, 2, none⟩ = some (.slice none 0 0) := (HB.cell KB.out).trans K2.out
        by_cases hlt : k < l.length
        · have hlt' : (k : Int) < (l.length : Int) := by omega
          have hltL : k < L.length := by rw [HLL.out]; exact hlt
          obtain ⟨b, off, rfl, hb, n0, n1, _, _, _, n5⟩ := nd_row (HN5.out.below HB).row k hltL
          obtain ⟨i1, i2, i3⟩ := HIS.out k hltL hlt
          rw [i1] at n0
          rw [i2] at n1
          rw [i3] at n5
          obtain ⟨sb, so, se, hsb, s0, s1, s2, _⟩ := (HS5.out.below HB) k hlt
          simp only [Option.some.injEq, Addr.mk.injEq, and_true] at se
          obtain ⟨rfl, rfl⟩ := se
          simp only [Nat.zero_add] at s0 s1 s2
          have hp8 := peersL_len l l[k]
          have HZ2 : Hid (z + ((peersL l l[k]).length : Int) = (lnkN l (l.take (k + 1)) : Int)) := hide (by rw [HZ.out, lnkN_next l k hlt]; push_cast; rfl)
          have hz2 : z + ((peersL l l[k]).length : Int) ≤ 64 := by
            rw [HZ2.out]
            have := lnkN_bd l (by omega) (k + 1)
            omega
          have e1 : ((l[k]).id != (l[k]).id) = false := by simp
          have e2 : ((l[k]).has != (l[k]).has) = false := by simp
          clear i1 i2 i3 HZ
          generalize (peersL l l[k]).length = np at *
          go_wp2_with fail
          go_quiet (fail)
          go_wp2
          exact ⟨⟨k + 1, z + (np : Int), by omega, by go_num, by go_num, by omega, by omega, HZ2, below_drewN HB _⟩, by simp [intOf]; omega⟩
        · have hk' : ¬ (k : Int) < (l.length : Int) := by omega
          have hkk : k = l.length := by omega
          have hz : z = 2 * ((l.length : Int) - 1) := by
            rw [HZ.out, hkk, List.take_length]
            have := nw_links2 HR.out
            omega
          have hzb : (z == 2 * ((l.length : Int) - 1)) = true := by simpa using hz
          have hll : ((l.length : Int) == (l.length : Int)) = true := by simp
          have hss : (st == st) = true := by simp
          have HX6 : Hid (Below w.heap.size w wr) := hide (below_trans HX5.out HB)
          have HCS : Hid (∀ y : Later wr, Calls Try.prog 8 #[.slice (some ⟨g, 0, none⟩) l.length gc] y.w fun e w'' => e = .returned (.int .i64 st) ∧ ∃ z : Later wr, w'' = z.w) := hide (fun y => later_int2 (show sumOf l = st by simp only [sumOf, HR.out, if_true]; exact HST.out) (later_of (implSumOf_any _ l gc _ (by omega) hgc ((HS5.out.below HB).below y.below))))
          have HCT : Hid (∀ y : Later wr, Calls Try.prog 9 #[.agg #[.int .i64 st, .slice na l.length nc, .slice none 0 0]] y.w fun e w'' => e = .returned (.bool true) ∧ ∃ z : Later wr, w'' = z.w) := hide (fun y => later_val (show setB ⟨st, L.map Nd.d, []⟩ = true by rw [HD.out, ← HST.out]; exact nw_set HR.out) (later_of (by
            have := implSettled_any st na L nc none [] 0 y.w (by rw [HLL.out]; omega) (by simp) HSM.out ((HN5.out.below HB).below y.below) RowAt.nil
            rw [HLL.out] at this
            exact this)))
          have HCF : Hid (∀ y : Later wr, Calls Try.prog 10 #[.agg #[.int .i64 st, .slice na l.length nc, .slice none 0 0]] y.w fun e w'' => e = .returned (.int .i64 0) ∧ ∃ z : Later wr, w'' = z.w) := hide (fun y => later_int2 (show flyV ⟨st, L.map Nd.d, []⟩ = 0 by rw [HD.out, ← HST.out]; exact nw_flying HR.out) (later_of (by
            have := implFlying_any st na L nc none [] 0 y.w (by rw [HLL.out]; omega) (by simp) HSM.out ((HN5.out.below HB).below y.below) RowAt.nil
            rw [HLL.out] at this
            exact this)))
          have c0' : ∀ y : Later wr, y.w.cell? ⟨B, 0, none⟩ = some (.int .i64 st) := later_cell c0
          have c1' : ∀ y : Later wr, y.w.cell? ⟨B, 1, none⟩ = some (.slice na l.length nc) := later_cell c1
          have c2' : ∀ y : Later wr, y.w.cell? ⟨B, 2, none⟩ = some (.slice none 0 0) := later_cell c2
          have hne : Nonempty (Later wr) := later_there _
          clear HZ hkk hz c0 c2
          go_wp2_with fail
          refine wp_region_later wr (by kernel_rfl) (by kernel_rfl) ((Below.refl _ _).drew) ?_
          repeat (go_big_quiet_step (first | (go_at_call 8; with_reducible exact HCS.out _) | (go_at_call 9; with_reducible exact HCT.out _) | (go_at_call 10; with_reducible exact HCF.out _)))
          refine wpQuiet_nil ?_
          intro _ hw'
          obtain ⟨nx, rfl⟩ := hw'
          go_wp2
          go_ret
          exact ⟨rfl, below_trans HX6.out nx.below⟩
end Go.Proofs.Ytilacamcedjbmaa
