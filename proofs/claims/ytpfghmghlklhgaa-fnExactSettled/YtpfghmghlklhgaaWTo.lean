/- The contracts of the laws' helpers over worlds: sizes, copies, comparisons. -/
import Derived.Test.YtpfghmghlklhgaaNEq
import Derived.Test.YtpfghmghlklhgaaNLaw
namespace Go.Proofs.Ytpfghmghlklhgaa
open Go.ChangeShapes Go.WideShapes Go.ChangeAt Go.RowKit
set_option linter.unusedVariables false
set_option maxRecDepth 100000
set_option maxHeartbeats 1000000 in
theorem szMsgS_any (a : Option Addr) (n : Nat) (cap : Nat) (left : Int) (w : World) (hn : n ≤ maxLen) (hl : 0 ≤ left ∧ left ≤ 1048576) :
    Calls Try.prog 38 #[.slice a n cap, .int .i64 left] w fun e w' => SzP left (n ≤ 1048576) w e w' := by
  obtain ⟨l0, l1⟩ := hl
  unfold maxLen at hn
  by_cases a1 : left - (n : Int) < 0
  · go_enter Try.func38, Try.ntmps38
    go_wp2
    go_ret
    exact ⟨Below.refl _ _, -1, rfl, by omega, by omega, fun h => by omega⟩
  · go_enter Try.func38, Try.ntmps38
    go_wp2
    go_ret
    exact ⟨Below.refl _ _, _, rfl, by omega, by omega, fun h => by omega⟩
def LimN (n : Nd) : Prop := n.seen.length ≤ maxLen ∧ n.peers.length ≤ maxLen ∧ LimP n.peers
def SmNs (l : List Nd) : Prop := l.length ≤ 1048576 ∧ ∀ n ∈ l, SmN n
set_option maxHeartbeats 2000000 in
theorem szNodeS_any (a : Option Addr) (l : List Nd) (cap : Nat) (left : Int) (w : World) (hn : l.length ≤ maxLen) (hm : ∀ n ∈ l, LimN n) (hl : 0 ≤ left ∧ left ≤ 1048576) (h : NodesAt w a l) :
    Calls Try.prog 37 #[.slice a l.length cap, .int .i64 left] w fun e w' => SzP left (SmNs l) w e w' := by
  have HL : Hid _ := hide h
  have HM : Hid _ := hide hm
  clear h hm
  obtain ⟨l0, l1⟩ := hl
  have hnn := hn
  unfold maxLen at hnn
  by_cases a1 : left - (l.length : Int) < 0
  · go_enter Try.func37, Try.ntmps37
    go_wp2
    go_ret
    exact ⟨Below.refl _ _, -1, rfl, by omega, by omega, fun h => by omega⟩
  · have hle : l.length ≤ 1048576 := by omega
    go_enter Try.func37, Try.ntmps37
    go_wp2
    go_loopw [1, 5] (fun s i wr => ∃ (k : Nat) (r : Int), k ≤ l.length ∧ i = .int .i64 (k : Int) ∧ s = .int .i64 r ∧ (0 ≤ r ∧ r ≤ left) ∧ Below w.heap.size w wr ∧ Hid (∀ j (hj : j < l.length), j < k → SmN l[j])) (fun s i wr => l.length - (intOf i).toNat)
    case atStart => exact ⟨0, _, Nat.zero_le _, rfl, rfl, ⟨by omega, by omega⟩, Below.refl _ _, hide (fun j _ hj => by omega)⟩
    case round =>
      obtain ⟨k, r, hk, rfl, rfl, ⟨r0, r1⟩, HB, HS⟩ := hrel
      by_cases hlt : k < l.length
      · obtain ⟨b, off, rfl, hb, c0, c1, c2, c3, c4, c5⟩ := nd_row (HL.out.row.below HB) k hlt
        have hlt' : (k : Int) < (l.length : Int) := by omega
        have HLm : Hid _ := hide (HM.out (l[k]) (List.getElem_mem hlt))
        go_wp2_with fail
        refine (szNode_any l[k] _ _ HLm.out (And.intro r0 (by omega)) ((HL.out.each _ (List.getElem_mem hlt)).peers.below HB)).mono ?_
        rintro e w1 ⟨hb1, r', rfl, hr0, hr1, hr⟩
        have HB1 : Hid _ := hide (below_trans HB hb1)
        have HR : Hid _ := hide hr
        clear hb1 hr
        by_cases q : r' < 0
        · go_wp2
          go_ret
          exact ⟨HB1.out, -1, rfl, by omega, by omega, fun h => by omega⟩
        · have HS2 : Hid (∀ j (hj : j < l.length), j < k + 1 → SmN l[j]) := hide (fun j hj hjk => by
            rcases Nat.lt_or_ge j k with h1 | h1
            · exact HS.out j hj h1
            · obtain rfl : j = k := by omega
              exact HR.out (by omega))
          go_wp2
          exact ⟨⟨k + 1, r', by omega, by go_num, rfl, ⟨by omega, by omega⟩, HB1.out, HS2⟩, by simp [intOf]; omega⟩
      · have hk' : ¬ (k : Int) < (l.length : Int) := by omega
        have HE : Hid (SmNs l) := hide ⟨hle, fun p hp => by
          obtain ⟨j, hj, rfl⟩ := List.mem_iff_getElem.1 hp
          exact HS.out j hj (by omega)⟩
        go_wp2
        go_ret
        exact ⟨HB, r, rfl, by omega, by omega, fun _ => HE.out⟩
def SmW (l : List Nd) (ms : List Mg) : Prop := SmNs l ∧ ms.length ≤ 1048576
set_option maxHeartbeats 2000000 in
theorem szWorld_any (st : Int) (na : Option Addr) (l : List Nd) (nc : Nat) (ma : Option Addr) (ms : List Mg) (mc : Nat) (left : Int) (w : World) (hn : l.length ≤ maxLen ∧ ms.length ≤ maxLen ∧ ∀ n ∈ l, LimN n) (hl : 0 ≤ left ∧ left ≤ 1048576) (h : NodesAt w na l) :
    Calls Try.prog 13 #[.agg #[.int .i64 st, .slice na l.length nc, .slice ma ms.length mc], .int .i64 left] w fun e w' => SzP left (SmW l ms) w e w' := by
  have HN : Hid _ := hide hn
  have HL : Hid _ := hide hl
  have HP : Hid _ := hide h
  have HB0 : Hid (Below w.heap.size w (w.alloc (.cells #[.int .i64 st, .slice na l.length nc, .slice ma ms.length mc] 38))) := hide (below_alloc (Below.refl _ _) _)
  clear h hn hl
  go_enter Try.func13, Try.ntmps13
  go_wp2_with fail
  refine (szNodeS_any _ l _ _ _ HN.out.1 HN.out.2.2 HL.out (HP.out.below HB0.out)).mono ?_
  rintro e w1 ⟨hb1, r, rfl, hr0, hr1, hr⟩
  have c2 := boxN (hb1.mono (by simp)) 2 _ rfl
  have HB1 : Hid _ := hide (below_trans HB0.out hb1)
  have HR : Hid _ := hide hr
  clear hb1 hr
  by_cases q : r < 0
  · go_wp2
    go_ret
    exact ⟨HB1.out, -1, rfl, by omega, by have := HL.out; omega, fun h => by omega⟩
  · go_wp2_with fail
    refine (szMsgS_any _ ms.length _ _ _ HN.out.2.1 (And.intro (by omega) (by have := HL.out; omega))).mono ?_
    rintro e w2 ⟨hb2, r2, rfl, hs0, hs1, hs⟩
    have HB2 : Hid _ := hide (below_trans HB1.out hb2)
    have HS : Hid _ := hide hs
    clear hb2 hs c2
    by_cases q2 : r2 < 0
    · go_wp2
      go_ret
      exact ⟨HB2.out, -1, rfl, by omega, by have := HL.out; omega, fun h => by omega⟩
    · go_wp2
      go_ret
      exact ⟨HB2.out, r2, rfl, by omega, by omega, fun h => ⟨HR.out (by omega), HS.out h⟩⟩
/-- nodes that lie from B on -/
def HiN (B : Nat) (n : Nd) : Prop := HiA B n.sa ∧ HiA B n.pa ∧ HiP B n.peers
theorem HiN.mono {B C : Nat} {n : Nd} (h : HiN B n) (hc : C ≤ B) : HiN C n := ⟨h.1.mono hc, h.2.1.mono hc, fun p hp => (h.2.2 p hp).mono hc⟩
theorem NodeAt.upper {w w' : World} {n : Nd} {B : Nat} (h : NodeAt w n) (hb : HiN B n) (k : Upper B w w') : NodeAt w' n := ⟨h.seen.upper hb.1 k, h.peers.upper hb.2.1 hb.2.2 k⟩
theorem NodesAt.upper {w w' : World} {a : Option Addr} {l : List Nd} {B : Nat} (h : NodesAt w a l) (ha : HiA B a) (hb : ∀ n ∈ l, HiN B n) (k : Upper B w w') : NodesAt w' a l := ⟨h.row.upper ha k, fun n hn => (h.each n hn).upper (hb n hn) k⟩
theorem infoNd : (Try.prog.info? 31).map (fun i => (i.zero, i.size, i.bytes)) = some (some (.agg #[.int .i64 0, .int .i64 0, .int .i64 0, .int .i64 0, .slice none 0 0, .slice none 0 0]), 6, 80) := by kernel_rfl
def NodesMid (g : Nat) (l : List Nd) (k : Nat) (x : World) : Prop := ∃ l1 : List Nd, l1.length = k ∧ l1.map Nd.d = (l.take k).map Nd.d ∧ RowMid g l.length 6 (fun i => (l1[i]?).elim [] ndCells) k x ∧ (∀ n ∈ l1, NodeAt x n) ∧ ∀ n ∈ l1, HiN (g + 1) n
theorem NodesMid.mid {g : Nat} {l : List Nd} {k : Nat} {x : World} (h : NodesMid g l k x) : ∃ c, RowMid g l.length 6 c k x := by
  obtain ⟨l1, _, _, h3, _⟩ := h
  exact ⟨_, h3⟩
set_option maxHeartbeats 2000000 in
theorem NodesMid.step {g : Nat} {l : List Nd} {k : Nat} {x y : World} (h : NodesMid g l k x) (hk : k < l.length) (b : Below x.heap.size x y) {g1 g2 : Nat} {l' : List Pr} (hd : l'.map Pr.d = (l[k]).peers.map Pr.d) (hs : RowAt 2 snCells y (some ⟨g1, 0, none⟩) (l[k]).seen) (hp : PeersAt y (some ⟨g2, 0, none⟩) l') (hg : x.heap.size ≤ g1 ∧ x.heap.size ≤ g2) (hh : HiP x.heap.size l') :
    NodesMid g l (k + 1) ((((((y.setCell ⟨g, k * 6, none⟩ (.int .i64 (l[k]).id)).setCell ⟨g, k * 6 + 1, none⟩ (.int .i64 (l[k]).has)).setCell ⟨g, k * 6 + 2, none⟩ (.int .i64 (l[k]).spent)).setCell ⟨g, k * 6 + 3, none⟩ (.int .i64 (l[k]).earned)).setCell ⟨g, k * 6 + 4, none⟩ (.slice (some ⟨g1, 0, none⟩) (l[k]).seen.length (l[k]).seen.length)).setCell ⟨g, k * 6 + 5, none⟩ (.slice (some ⟨g2, 0, none⟩) (l[k]).peers.length (l[k]).peers.length)) := by
  obtain ⟨l1, h1, h2, h3, h4, h5⟩ := h
  have hgx := h3.lt
  have hln := same_len hd
  obtain ⟨p, hpq⟩ : ∃ p : Nd, p = ⟨(l[k]).id, (l[k]).has, (l[k]).spent, (l[k]).earned, some ⟨g1, 0, none⟩, (l[k]).seen.length, (l[k]).seen, some ⟨g2, 0, none⟩, (l[k]).peers.length, l'⟩ := ⟨_, rfl⟩
  have e1 : ((l1 ++ [p])[k]?).elim [] ndCells = ndCells p := by rw [List.getElem?_append_right (by omega), h1]; simp
  have e2 : ndCells p = [.int .i64 (l[k]).id, .int .i64 (l[k]).has, .int .i64 (l[k]).spent, .int .i64 (l[k]).earned, .slice (some ⟨g1, 0, none⟩) (l[k]).seen.length (l[k]).seen.length, .slice (some ⟨g2, 0, none⟩) (l[k]).peers.length (l[k]).peers.length] := by rw [hpq]; simp only [ndCells, hln]
  have up : Upper (g + 1) y ((((((y.setCell ⟨g, k * 6, none⟩ (.int .i64 (l[k]).id)).setCell ⟨g, k * 6 + 1, none⟩ (.int .i64 (l[k]).has)).setCell ⟨g, k * 6 + 2, none⟩ (.int .i64 (l[k]).spent)).setCell ⟨g, k * 6 + 3, none⟩ (.int .i64 (l[k]).earned)).setCell ⟨g, k * 6 + 4, none⟩ (.slice (some ⟨g1, 0, none⟩) (l[k]).seen.length (l[k]).seen.length)).setCell ⟨g, k * 6 + 5, none⟩ (.slice (some ⟨g2, 0, none⟩) (l[k]).peers.length (l[k]).peers.length)) := (((((((Upper.refl _ _).set (by omega) _).set (by omega) _).set (by omega) _).set (by omega) _).set (by omega) _).set (by omega) _)
  refine ⟨l1 ++ [p], by simp [h1], ?_, ?_, fun q hq => ?_, fun q hq => ?_⟩
  · rw [take_next l k hk, List.map_append, List.map_append, h2, hpq]
    show _ ++ [(⟨(l[k]).id, (l[k]).has, (l[k]).spent, (l[k]).earned, (l[k]).seen, l'.map Pr.d⟩ : NdD)] = _
    rw [hd]; rfl
  · have m := (h3.below b).congr (c' := fun i => ((l1 ++ [p])[i]?).elim [] ndCells) (fun i hi => by rw [List.getElem?_append_left (by omega)])
    exact (((((((m.put).set hk (by decide) (v := .int .i64 (l[k]).id) (by simp only [e1, e2]; rfl) rfl).set hk (by decide) (v := .int .i64 (l[k]).has) (by simp only [e1, e2]; rfl) rfl).set hk (by decide) (v := .int .i64 (l[k]).spent) (by simp only [e1, e2]; rfl) rfl).set hk (by decide) (v := .int .i64 (l[k]).earned) (by simp only [e1, e2]; rfl) rfl).set hk (by decide) (v := .slice (some ⟨g1, 0, none⟩) (l[k]).seen.length (l[k]).seen.length) (by simp only [e1, e2]; rfl) rfl).set hk (by decide) (v := .slice (some ⟨g2, 0, none⟩) (l[k]).peers.length (l[k]).peers.length) (by simp only [e1, e2]; rfl) rfl).whole
  · rcases List.mem_append.1 hq with hq | hq
    · exact ((h4 q hq).below b).upper (h5 q hq) up
    · obtain rfl := List.mem_singleton.1 hq
      rw [hpq]
      exact ⟨hs.upper (hi_at (by omega)) up, hp.upper (hi_at (by omega)) (fun p hp => (hh p hp).mono (by omega)) up⟩
  · rcases List.mem_append.1 hq with hq | hq
    · exact h5 q hq
    · obtain rfl := List.mem_singleton.1 hq
      rw [hpq]
      exact ⟨hi_at (by show g + 1 ≤ g1; omega), hi_at (by show g + 1 ≤ g2; omega), fun p hp => (hh p hp).mono (by omega)⟩
def ToNodes (l : List Nd) (w : World) (e : Ending) (w' : World) : Prop := Below w.heap.size w w' ∧ ∃ (g : Nat) (l' : List Nd), e = .returned (.slice (some ⟨g, 0, none⟩) l.length l.length) ∧ l'.map Nd.d = l.map Nd.d ∧ NodesAt w' (some ⟨g, 0, none⟩) l' ∧ (w.heap.size ≤ g ∧ g < w'.heap.size) ∧ ∀ n ∈ l', HiN w.heap.size n
set_option maxHeartbeats 4000000 in
theorem toNodeS_any (a : Option Addr) (l : List Nd) (cap : Nat) (w : World) (hsm : SmNs l) (h : NodesAt w a l) :
    Calls Try.prog 42 #[.slice a l.length cap] w fun e w' => ToNodes l w e w' := by
  obtain ⟨i0, hi, hz0, hz1, hz2⟩ := info_parts infoNd
  have HL : Hid _ := hide h
  have HM : Hid _ := hide hsm
  have hn := hsm.1
  clear h hsm
  have uS : Try.prog.underlying 41 = some (.slice 31) := by kernel_rfl
  go_enter Try.func42, Try.ntmps42
  go_wp2_with (first | (at_make; refine Shut2.mk ?_) | go_in)
  refine Shut2.mk' ?_
  refine wpList_make_full _ rfl _ _ 41 rfl w.heap.size 31 i0 _ 6 uS hi hz0 hz1 .i64 .i64 _ _ l.length rfl rfl rfl rfl (by rw [hz2]; omega) (by unfold maxLen; omega) (Nat.le_refl _) ?_
  intro w0 hown hgrow
  have HB0 : Hid (Below w.heap.size w w0) := hide ((Below.refl _ _).grown hgrow (Nat.le_refl _) (fun j hj => by cases hj))
  have HM0 : Hid (NodesMid w.heap.size l 0 w0) := hide ⟨[], rfl, rfl, rowMid_made hown, fun p hp => by simp at hp, fun p hp => by simp at hp⟩
  clear hown hgrow
  go_wp2
  go_loopw [4] (fun i wr => ∃ k : Nat, k ≤ l.length ∧ i = .int .i64 (k : Int) ∧ Below w.heap.size w wr ∧ Hid (NodesMid w.heap.size l k wr)) (fun i wr => l.length - (intOf i).toNat)
  case atStart => exact ⟨0, Nat.zero_le _, rfl, HB0.out, HM0⟩
  case round =>
    obtain ⟨k, hk, rfl, HB, HMd⟩ := hrel
    by_cases hlt : k < l.length
    · obtain ⟨b, off, rfl, hb, d0, d1, d2, d3, d4, d5⟩ := nd_row (HL.out.row.below HB) k hlt
      have hlt' : (k : Int) < (l.length : Int) := by omega
      go_wp2_with fail
      refine (toNode_any l[k] wr (HM.out.2 _ (List.getElem_mem hlt)) ((HL.out.each _ (List.getElem_mem hlt)).below HB)).mono ?_
      rintro e w1 ⟨hb1, g1, g2, l', rfl, hd1, hs1, hp1, hg1, hh1⟩
      obtain ⟨c, hc⟩ := HMd.out.mid
      have hM1 := hc.below hb1
      have HP : Hid _ := hide (HMd.out.step hlt hb1 hd1 hs1 hp1 hg1 hh1)
      have HB1 : Hid _ := hide (below_trans HB hb1)
      obtain ⟨v0, f0⟩ := hM1.there (k * 6 + 0) (by omega)
      obtain ⟨v1, f1⟩ := hM1.there (k * 6 + 1) (by omega)
      obtain ⟨v2, f2⟩ := hM1.there (k * 6 + 2) (by omega)
      obtain ⟨v3, f3⟩ := hM1.there (k * 6 + 3) (by omega)
      obtain ⟨v4, f4⟩ := hM1.there (k * 6 + 4) (by omega)
      obtain ⟨v5, f5⟩ := hM1.there (k * 6 + 5) (by omega)
      have z0 := hM1.free (k * 6 + 0)
      have z1 := hM1.free (k * 6 + 1)
      have z2 := hM1.free (k * 6 + 2)
      have z3 := hM1.free (k * 6 + 3)
      have z4 := hM1.free (k * 6 + 4)
      have z5 := hM1.free (k * 6 + 5)
      simp only [Nat.add_zero] at f0 z0
      clear hM1 hb1 hc hd1 hs1 hp1 hg1 hh1
      go_wp2
      exact ⟨⟨k + 1, by omega, by go_num, ((((((HB1.out.setCell (Nat.le_refl _) _).setCell (Nat.le_refl _) _).setCell (Nat.le_refl _) _).setCell (Nat.le_refl _) _).setCell (Nat.le_refl _) _).setCell (Nat.le_refl _) _), HP⟩, by simp [intOf]; omega⟩
    · have hk' : ¬ (k : Int) < (l.length : Int) := by omega
      have HE : Hid (ToNodes l w (.returned (.slice (some ⟨w.heap.size, 0, none⟩) l.length l.length)) wr) := hide (by
        obtain ⟨l1, h1, h2, h3, h4, h5⟩ := HMd.out
        have ek : k = l.length := by omega
        subst ek
        rw [List.take_length] at h2
        have O := own_of_mid (l := l1) (cap := l.length) ndLen (by rw [h1]; exact h3) (by omega)
        exact ⟨HB, w.heap.size, l1, rfl, h2, ⟨O.rows, h4⟩, ⟨Nat.le_refl _, h3.lt⟩, fun p hp => (h5 p hp).mono (by omega)⟩)
      go_wp2
      go_ret
      exact HE.out

def ToWorld (st : Int) (l : List Nd) (ms : List Mg) (w : World) (e : Ending) (w' : World) : Prop := Below w.heap.size w w' ∧ ∃ (g1 g2 : Nat) (l' : List Nd), e = .returned (.agg #[(.int .i64 st), (.slice (some ⟨g1, 0, none⟩) l.length l.length), (.slice (some ⟨g2, 0, none⟩) ms.length ms.length)]) ∧ l'.map Nd.d = l.map Nd.d ∧ NodesAt w' (some ⟨g1, 0, none⟩) l' ∧ RowAt 5 mgCells w' (some ⟨g2, 0, none⟩) ms
set_option maxHeartbeats 8000000 in
theorem toWorld_any (st : Int) (na : Option Addr) (l : List Nd) (nc : Nat) (ma : Option Addr) (ms : List Mg) (mc : Nat) (w : World) (hsm : SmW l ms) (h : NodesAt w na l) (hm : RowAt 5 mgCells w ma ms) :
    Calls Try.prog 15 #[.agg #[.int .i64 st, .slice na l.length nc, .slice ma ms.length mc]] w fun e w' => ToWorld st l ms w e w' := by
  have HL : Hid _ := hide h
  have HMm : Hid _ := hide hm
  have HM : Hid _ := hide hsm
  clear h hsm hm

  obtain ⟨wa, hwa⟩ : ∃ wa, wa = w.alloc (.cells #[.int .i64 st, .slice na l.length nc, .slice ma ms.length mc] 38) := ⟨_, rfl⟩
  obtain ⟨wb, hwb⟩ : ∃ wb, wb = wa.alloc (.cells #[.int .i64 0, .slice none 0 0, .slice none 0 0] 44) := ⟨_, rfl⟩
  obtain ⟨wc, hwc⟩ : ∃ wc, wc = wb.alloc (.cells #[.int .i64 st, .slice none 0 0, .slice none 0 0] 44) := ⟨_, rfl⟩
  have sa : wa.heap.size = w.heap.size + 1 := by rw [hwa]; simp
  have sb : wb.heap.size = w.heap.size + 1 + 1 := by rw [hwb]; simp [sa]
  have sc : wc.heap.size = w.heap.size + 1 + 1 + 1 := by rw [hwc]; simp [sb]
  have kA : Blk w.heap.size [.int .i64 st, .slice na l.length nc, .slice ma ms.length mc] wc := by rw [hwc, hwb, hwa]; exact (Blk.new.alloc _).alloc _
  have kR : Blk (w.heap.size + 1) [.int .i64 0, .slice none 0 0, .slice none 0 0] wc := by rw [← sa, hwc, hwb]; exact Blk.new.alloc _
  have kO : Blk (w.heap.size + 1 + 1) [.int .i64 st, .slice none 0 0, .slice none 0 0] wc := by rw [← sb, hwc]; exact Blk.new
  have b3 : Below w.heap.size w wc := by rw [hwc, hwb, hwa]; exact below_alloc (below_alloc (below_alloc (Below.refl _ _) _) _) _
  have HW : Hid (((w.alloc (.cells #[.int .i64 st, .slice na l.length nc, .slice ma ms.length mc] 38)).alloc (.cells #[.int .i64 0, .slice none 0 0, .slice none 0 0] 44)).alloc (.cells #[.int .i64 st, .slice none 0 0, .slice none 0 0] 44) = wc) := hide (by rw [hwc, hwb, hwa])
  clear hwa hwb hwc sa sb
  have HB3 : Hid _ := hide b3
  have HS : Hid _ := hide sc
  have KA : Hid _ := hide kA
  have KR : Hid _ := hide kR
  have KO : Hid _ := hide kO
  clear kA kR kO b3 sc

  go_enter Try.func15, Try.ntmps15
  go_wp2_with fail
  rw [HW.out]
  refine (toNodeS_any _ l _ wc HM.out.1 (HL.out.below HB3.out)).mono ?_
  rintro e w1 ⟨hb1, g1, l', rfl, hd1, ho1, ⟨hg1, hgl1⟩, hh1⟩
  have KA1 : Hid _ := hide (KA.out.below hb1)
  have KR1 : Hid _ := hide (KR.out.below hb1)
  have KO1 : Hid _ := hide (KO.out.below hb1)
  have HB1 : Hid _ := hide (below_trans HB3.out hb1)
  have HO1 : Hid _ := hide ho1
  have HD1 : Hid _ := hide hd1
  have HG1 : Hid (w.heap.size + 1 + 1 + 1 ≤ g1) := hide (by rw [HS.out] at hg1; exact hg1)
  have HH1 : Hid (∀ n ∈ l', HiN (w.heap.size + 1 + 1 + 1) n) := hide (fun n hn => (hh1 n hn).mono (by rw [HS.out]; exact Nat.le_refl _))
  have HL1 : Hid (w.heap.size + 1 + 1 + 1 ≤ w1.heap.size) := hide (by have := hb1.size; rw [HS.out] at this; exact this)
  clear hb1 ho1 hg1 hgl1 hd1 hh1
  have y2 := KA1.out.c 2 _ rfl
  have t1 := KO1.out.c 1 _ rfl
  have ft1 := KO1.out.f 1
  go_wp2_with fail
  have hb1' : Below w.heap.size w (w1.setCell ⟨w.heap.size + 1 + 1, 1, none⟩ (.slice (some ⟨g1, 0, none⟩) l.length l.length)) := HB1.out.setCell (p := ⟨w.heap.size + 1 + 1, 1, none⟩) (by show w.heap.size ≤ w.heap.size + 1 + 1; omega) _
  refine (toMsgS_any _ ms _ (w1.setCell ⟨w.heap.size + 1 + 1, 1, none⟩ (.slice (some ⟨g1, 0, none⟩) l.length l.length)) HM.out.2 (HMm.out.below hb1')).mono ?_
  rintro e w2 ⟨hb2, g2, rfl, ⟨hg2, hgl2⟩, ho2⟩
  have jR := (KR1.out.other 1 (.slice (some ⟨g1, 0, none⟩) l.length l.length) (show w.heap.size + 1 + 1 ≠ w.heap.size + 1 by omega)).below hb2
  have jO := (KO1.out.set 1 (.slice (some ⟨g1, 0, none⟩) l.length l.length) (by simp)).below hb2
  clear y2 t1 ft1
  have t0 := jO.c 0 _ rfl
  have t1 := jO.c 1 _ rfl
  have t2 := jO.c 2 _ rfl
  have ft0 := jO.f 0
  have ft1 := jO.f 1
  have ft2 := jO.f 2
  have u0 := jR.c 0 _ rfl
  have u1 := jR.c 1 _ rfl
  have u2 := jR.c 2 _ rfl
  have fu0 := jR.f 0
  have fu1 := jR.f 1
  have fu2 := jR.f 2

  have hsz : (w1.setCell ⟨w.heap.size + 1 + 1, 1, none⟩ (.slice (some ⟨g1, 0, none⟩) l.length l.length)).heap.size = w1.heap.size := size_setCell _ _ _
  rw [hsz] at hg2
  have HU1 : Hid (Upper (w.heap.size + 1 + 1 + 1) w1 ((((w2.setCell ⟨w.heap.size + 1 + 1, 2, none⟩ (.slice (some ⟨g2, 0, none⟩) ms.length ms.length)).setCell ⟨w.heap.size + 1, 0, none⟩ (.int .i64 st)).setCell ⟨w.heap.size + 1, 1, none⟩ (.slice (some ⟨g1, 0, none⟩) l.length l.length)).setCell ⟨w.heap.size + 1, 2, none⟩ (.slice (some ⟨g2, 0, none⟩) ms.length ms.length))) := hide ((((((((Upper.refl _ _).set (by omega) _).trans (Upper.of hb2)).set (by omega) _).set (by omega) _).set (by omega) _).set (by omega) _))
  have HU2 : Hid (Upper (w.heap.size + 1 + 1 + 1) w2 ((((w2.setCell ⟨w.heap.size + 1 + 1, 2, none⟩ (.slice (some ⟨g2, 0, none⟩) ms.length ms.length)).setCell ⟨w.heap.size + 1, 0, none⟩ (.int .i64 st)).setCell ⟨w.heap.size + 1, 1, none⟩ (.slice (some ⟨g1, 0, none⟩) l.length l.length)).setCell ⟨w.heap.size + 1, 2, none⟩ (.slice (some ⟨g2, 0, none⟩) ms.length ms.length))) := hide ((((((Upper.refl _ _).set (by omega) _).set (by omega) _).set (by omega) _).set (by omega) _))
  have HB : Hid (Below w.heap.size w ((((w2.setCell ⟨w.heap.size + 1 + 1, 2, none⟩ (.slice (some ⟨g2, 0, none⟩) ms.length ms.length)).setCell ⟨w.heap.size + 1, 0, none⟩ (.int .i64 st)).setCell ⟨w.heap.size + 1, 1, none⟩ (.slice (some ⟨g1, 0, none⟩) l.length l.length)).setCell ⟨w.heap.size + 1, 2, none⟩ (.slice (some ⟨g2, 0, none⟩) ms.length ms.length))) := hide ((((((below_trans hb1' hb2).setCell (p := ⟨w.heap.size + 1 + 1, 2, none⟩) (by show w.heap.size ≤ w.heap.size + 1 + 1; omega) _).setCell (p := ⟨w.heap.size + 1, 0, none⟩) (by show w.heap.size ≤ w.heap.size + 1; omega) _).setCell (p := ⟨w.heap.size + 1, 1, none⟩) (by show w.heap.size ≤ w.heap.size + 1; omega) _).setCell (p := ⟨w.heap.size + 1, 2, none⟩) (by show w.heap.size ≤ w.heap.size + 1; omega) _))
  have HO2 : Hid _ := hide ho2
  have HG2 : Hid (w1.heap.size ≤ g2) := hide hg2
  clear jR jO ho2 hg2 hb2 hgl2 hb1' hsz
  have HE : Hid (ToWorld st l ms w (.returned (.agg #[(.int .i64 st), (.slice (some ⟨g1, 0, none⟩) l.length l.length), (.slice (some ⟨g2, 0, none⟩) ms.length ms.length)])) ((((w2.setCell ⟨w.heap.size + 1 + 1, 2, none⟩ (.slice (some ⟨g2, 0, none⟩) ms.length ms.length)).setCell ⟨w.heap.size + 1, 0, none⟩ (.int .i64 st)).setCell ⟨w.heap.size + 1, 1, none⟩ (.slice (some ⟨g1, 0, none⟩) l.length l.length)).setCell ⟨w.heap.size + 1, 2, none⟩ (.slice (some ⟨g2, 0, none⟩) ms.length ms.length))) := hide ⟨HB.out, g1, g2, l', rfl, HD1.out, HO1.out.upper (hi_at HG1.out) HH1.out HU1.out, HO2.out.upper (hi_at (Nat.le_trans HL1.out HG2.out)) HU2.out⟩
  go_wp2
  exact bodyPost_ret (v := .agg #[(.int .i64 st), (.slice (some ⟨g1, 0, none⟩) l.length l.length), (.slice (some ⟨g2, 0, none⟩) ms.length ms.length)]) (by simp [results, Try.results15, go_sem, u0, u1, u2]) rfl HE.out
theorem samen_len {l l' : List Nd} (h : l'.map Nd.d = l.map Nd.d) : l'.length = l.length := by have := congrArg List.length h; simpa using this
theorem samen_at {l l' : List Nd} (h : l'.map Nd.d = l.map Nd.d) {k : Nat} (hk : k < l.length) : ∃ hk' : k < l'.length, (l'[k]).d = (l[k]).d := by
  have hk' : k < l'.length := by rw [samen_len h]; exact hk
  have e := congrArg (fun m => m[k]?) h
  simp only [List.getElem?_map, List.getElem?_eq_getElem hk, List.getElem?_eq_getElem hk', Option.map_some, Option.some.injEq] at e
  exact ⟨hk', e⟩
theorem smN_same {n n' : Nd} (h : n'.d = n.d) (hs : SmN n) : SmN n' := by
  have e1 : n'.seen = n.seen := congrArg NdD.seen h
  have e2 : n'.peers.map Pr.d = n.peers.map Pr.d := congrArg NdD.peers h
  exact ⟨by rw [e1]; exact hs.1, by rw [same_len e2]; exact hs.2.1, same_small e2 hs.2.2⟩
theorem smNs_same {l l' : List Nd} (h : l'.map Nd.d = l.map Nd.d) (hs : SmNs l) : SmNs l' := ⟨by rw [samen_len h]; exact hs.1, fun n hn => by
  obtain ⟨k, hk, rfl⟩ := List.mem_iff_getElem.1 hn
  obtain ⟨_, e⟩ := samen_at h (show k < l.length by rw [← samen_len h]; exact hk)
  exact smN_same e (hs.2 _ (List.getElem_mem _))⟩
/-- two nodes of the same data are told to be equal -/
theorem eqNode2 (n n' : Nd) (w : World) (hd : n'.d = n.d) (hm : SmN n) (h : NodeAt w n) (h' : NodeAt w n') :
    Calls Try.prog 12 #[.agg #[.int .i64 n.id, .int .i64 n.has, .int .i64 n.spent, .int .i64 n.earned, .slice n.sa n.seen.length n.sc, .slice n.pa n.peers.length n.pc], .agg #[.int .i64 n'.id, .int .i64 n'.has, .int .i64 n'.spent, .int .i64 n'.earned, .slice n'.sa n'.seen.length n'.sc, .slice n'.pa n'.peers.length n'.pc]] w fun e w' => YesEnd w e w' := by
  have e0 : n'.id = n.id := congrArg NdD.id hd
  have e1 : n'.has = n.has := congrArg NdD.has hd
  have e2 : n'.spent = n.spent := congrArg NdD.spent hd
  have e3 : n'.earned = n.earned := congrArg NdD.earned hd
  have e4 : n'.seen = n.seen := congrArg NdD.seen hd
  have e5 : n'.peers.map Pr.d = n.peers.map Pr.d := congrArg NdD.peers hd
  have t := eqNode_any n.id n.has n.spent n.earned n.seen n.peers n'.peers n.sa n'.sa n.pa n'.pa n.sc n'.sc n.pc n'.pc w hm.1 hm.2 e5 h.seen (by rw [← e4]; exact h'.seen) h.peers h'.peers
  rw [e0, e1, e2, e3, e4, same_len e5]
  exact t
set_option maxHeartbeats 4000000 in
theorem eqNodeS_any (a c : Option Addr) (l l' : List Nd) (ca cc : Nat) (w : World) (hsm : SmNs l) (hd : l'.map Nd.d = l.map Nd.d) (h : NodesAt w a l) (h' : NodesAt w c l') :
    Calls Try.prog 49 #[.slice a l.length ca, .slice c l.length cc] w fun e w' => YesEnd w e w' := by
  have HL : Hid _ := hide h
  have HL' : Hid _ := hide h'
  have HD : Hid _ := hide hd
  have HM : Hid _ := hide hsm
  have hn := hsm.1
  clear h h' hd hsm
  have hln : ((l.length : Int) != (l.length : Int)) = false := by simp
  go_enter Try.func49, Try.ntmps49
  go_wp2
  go_loopw [5] (fun i wr => ∃ k : Nat, k ≤ l.length ∧ i = .int .i64 (k : Int) ∧ Below w.heap.size w wr) (fun i wr => l.length - (intOf i).toNat)
  case atStart => exact ⟨0, Nat.zero_le _, rfl, Below.refl _ _⟩
  case round =>
    obtain ⟨k, hk, rfl, HB⟩ := hrel
    by_cases hlt : k < l.length
    · obtain ⟨hk2, hdk⟩ := samen_at HD.out hlt
      obtain ⟨b, off, rfl, hb, d0, d1, d2, d3, d4, d5⟩ := nd_row (HL.out.row.below HB) k hlt
      obtain ⟨b2, off2, rfl, hc, e0, e1, e2, e3, e4, e5⟩ := nd_row (HL'.out.row.below HB) k hk2
      have HDk : Hid _ := hide hdk
      have HR : Hid _ := hide ((HL.out.each (l[k]) (List.getElem_mem hlt)).below HB)
      have HR' : Hid _ := hide ((HL'.out.each (l'[k]) (List.getElem_mem hk2)).below HB)
      have HSm : Hid _ := hide (HM.out.2 _ (List.getElem_mem hlt))
      have hlt' : (k : Int) < (l.length : Int) := by omega
      have d0' := later_cell d0
      have e0' := later_cell e0
      have d1' := later_cell d1
      have e1' := later_cell e1
      have d2' := later_cell d2
      have e2' := later_cell e2
      have d3' := later_cell d3
      have e3' := later_cell e3
      have d4' := later_cell d4
      have e4' := later_cell e4
      have d5' := later_cell d5
      have e5' := later_cell e5
      clear d0 d1 d2 d3 d4 d5 e0 e1 e2 e3 e4 e5 hdk
      have hne : Nonempty (Later wr) := later_there _
      go_wp2_with fail
      refine wp_region_later wr (by kernel_rfl) (by kernel_rfl) ((Below.refl _ _).drew) ?_
      repeat (go_big_quiet_step (first | (go_at_call 12; exact later_of (eqNode2 l[k] l'[k] _ HDk.out HSm.out (HR.out.below (Later.below _)) (HR'.out.below (Later.below _))))))
      refine wpQuiet_nil ?_
      intro _ hw'
      obtain ⟨nx, rfl⟩ := hw'
      go_wp2
      exact ⟨⟨k + 1, by omega, by go_num, below_trans HB nx.below⟩, by simp [intOf]; omega⟩
    · have hk' : ¬ (k : Int) < (l.length : Int) := by omega
      go_wp2
      go_ret
      exact ⟨rfl, HB⟩
set_option maxHeartbeats 4000000 in
theorem eqWorld_any (st : Int) (l l' : List Nd) (ms : List Mg) (na na' ma ma' : Option Addr) (nc nc' mc mc' : Nat) (w : World) (hsm : SmW l ms) (hd : l'.map Nd.d = l.map Nd.d) (h1 : NodesAt w na l) (h1' : NodesAt w na' l') (h2 : RowAt 5 mgCells w ma ms) (h2' : RowAt 5 mgCells w ma' ms) :
    Calls Try.prog 17 #[.agg #[.int .i64 st, .slice na l.length nc, .slice ma ms.length mc], .agg #[.int .i64 st, .slice na' l.length nc', .slice ma' ms.length mc']] w fun e w' => YesEnd w e w' := by
  have H1 : Hid _ := hide (And.intro h1 h1')
  have H2 : Hid _ := hide (And.intro h2 h2')
  have HD : Hid _ := hide hd
  have HM : Hid _ := hide hsm
  clear h1 h1' h2 h2' hd hsm
  have i0 : (st != st) = false := by simp
  obtain ⟨wa, hwa⟩ : ∃ wa, wa = w.alloc (.cells #[.int .i64 st, .slice na l.length nc, .slice ma ms.length mc] 44) := ⟨_, rfl⟩
  obtain ⟨wb, hwb⟩ : ∃ wb, wb = wa.alloc (.cells #[.int .i64 st, .slice na' l.length nc', .slice ma' ms.length mc'] 44) := ⟨_, rfl⟩
  have sa0 : wa.heap.size = w.heap.size + 1 := by rw [hwa]; simp
  have kA : Blk w.heap.size [.int .i64 st, .slice na l.length nc, .slice ma ms.length mc] wb := by rw [hwb, hwa]; exact Blk.new.alloc _
  have kB : Blk (w.heap.size + 1) [.int .i64 st, .slice na' l.length nc', .slice ma' ms.length mc'] wb := by rw [← sa0, hwb]; exact Blk.new
  have b2 : Below w.heap.size w wb := by rw [hwb, hwa]; exact below_alloc (below_alloc (Below.refl _ _) _) _
  have HW : Hid ((w.alloc (.cells #[.int .i64 st, .slice na l.length nc, .slice ma ms.length mc] 44)).alloc (.cells #[.int .i64 st, .slice na' l.length nc', .slice ma' ms.length mc'] 44) = wb) := hide (by rw [hwb, hwa])
  clear hwa hwb sa0
  have HB2 : Hid _ := hide b2
  have KA : Hid _ := hide kA
  have KB : Hid _ := hide kB
  clear kA kB b2
  go_enter Try.func17, Try.ntmps17
  go_wp2_with fail
  rw [HW.out]
  refine (eqNodeS_any _ _ l l' _ _ wb HM.out.1 HD.out (H1.out.1.below HB2.out) (H1.out.2.below HB2.out)).mono ?_
  rintro e w1 ⟨rfl, hb1⟩
  have y2 := (KA.out.below hb1).c 2 _ rfl
  have z2 := (KB.out.below hb1).c 2 _ rfl
  have HB : Hid (Below w.heap.size w w1) := hide (below_trans HB2.out hb1)
  clear hb1
  go_wp2_with fail
  refine (eqMsgS_any _ _ ms _ _ w1 HM.out.2 (H2.out.1.below HB.out) (H2.out.2.below HB.out)).mono ?_
  rintro e w2 ⟨rfl, hb2⟩
  have HB3 : Hid (Below w.heap.size w w2) := hide (below_trans HB.out hb2)
  clear hb2 y2 z2
  go_wp2
  go_ret
  exact ⟨rfl, HB3.out⟩
end Go.Proofs.Ytpfghmghlklhgaa
