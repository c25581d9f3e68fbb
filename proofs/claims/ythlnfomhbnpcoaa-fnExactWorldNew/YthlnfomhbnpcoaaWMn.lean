/- Marks in a new world's nodes, and what is found of them. -/
import Derived.Test.YthlnfomhbnpcoaaWMk
import Derived.Test.YthlnfomhbnpcoaaSWn
namespace Go.Proofs.Ythlnfomhbnpcoaa
open Go.ChangeShapes Go.WideShapes Go.ChangeAt Go.RowKit
set_option linter.unusedVariables false
structure OwnW (G : Nat) (a : Option Addr) (cap : Nat) (gs : Nat → Nat) (L : List Nd) (x : World) : Prop where
  row : OwnRow 6 ndCells x G a cap L
  prs : ∀ i (h : i < L.length), OwnRow 4 prCells x (gs i) L[i].pa L[i].pc L[i].peers
def Emp (n : Nd) : Prop := n.sa = none ∧ n.sc = 0 ∧ n.seen = [] ∧ ∀ p ∈ n.peers, p.a = none ∧ p.cap = 0 ∧ p.E.out = []
def szN (n : Nd) : Int := 4 + 3 * (n.peers.length : Int)
def qn (q : Int) (L : List Nd) (k : Nat) : Int := q + ((L.take k).map szN).sum
theorem qn_zero (q : Int) (L : List Nd) : qn q L 0 = q := by simp [qn]
theorem qn_step (q : Int) (L : List Nd) (k : Nat) (hk : k < L.length) : qn q L (k + 1) = qn q L k + szN L[k] := by
  have e : (L.take (k + 1)).map szN = (L.take k).map szN ++ [szN L[k]] := by rw [List.take_succ_eq_append_getElem hk, List.map_append]; rfl
  unfold qn
  rw [e, List.sum_append]
  simp only [List.sum_cons, List.sum_nil]
  omega
theorem qn_bd (q : Int) (L : List Nd) (hL : ∀ n ∈ L, n.peers.length ≤ 8) : ∀ k, k ≤ L.length → q ≤ qn q L k ∧ qn q L k ≤ q + 28 * (k : Int) := by
  intro k
  induction k with
  | zero => intro _; rw [qn_zero]; omega
  | succ k ih =>
    intro hk
    have := ih (by omega)
    have h8 := hL L[k] (List.getElem_mem (by omega))
    rw [qn_step q L k (by omega)]
    unfold szN
    omega
def mkD (q : Int) (n : Nd) : Nd := ⟨q, q + 1, q + 2, q + 3, none, 0, [], n.pa, n.pc, pmix (q + 4) n.peers n.peers.length⟩
def nmix (q : Int) (L : List Nd) (k : Nat) : List Nd := L.mapIdx (fun i n => if i < k then mkD (qn q L i) n else n)
theorem nmix_len (q : Int) (L : List Nd) (k : Nat) : (nmix q L k).length = L.length := by simp [nmix]
theorem nmix_zero (q : Int) (L : List Nd) : nmix q L 0 = L := by
  apply List.ext_getElem
  · simp [nmix]
  · intro i h1 h2
    simp [nmix]
theorem nmix_step (q : Int) (L : List Nd) (k : Nat) (hk : k < L.length) : (nmix q L k).set k (mkD (qn q L k) L[k]) = nmix q L (k + 1) := by
  apply List.ext_getElem
  · simp [nmix]
  · intro i h1 h2
    rw [List.getElem_set]
    simp only [nmix, List.getElem_mapIdx]
    by_cases e : k = i
    · subst e; simp
    · rw [if_neg e]
      by_cases e2 : i < k
      · rw [if_pos e2, if_pos (by omega)]
      · rw [if_neg e2, if_neg (by omega)]
theorem nmix_at (q : Int) (L : List Nd) (k : Nat) (hk : k < L.length) (hk' : k < (nmix q L k).length) : (nmix q L k)[k] = L[k] := by simp [nmix]
theorem nmix_done (q : Int) (L : List Nd) (i : Nat) (h : i < L.length) (h' : i < (nmix q L L.length).length) : (nmix q L L.length)[i] = mkD (qn q L i) L[i] := by simp [nmix, h]
/-- four numbers of a node are marked -/
theorem nmark {q : Int} {L : List Nd} {k G : Nat} {a : Option Addr} {cap : Nat} {x : World} (h : OwnRow 6 ndCells x G a cap (nmix q L k)) (hk : k < L.length) (he : Emp L[k]) {Q : Int} (hQ : Q = qn q L k) :
    OwnRow 6 ndCells ((((x.setCell ⟨G, k * 6, none⟩ (.int .i64 Q)).setCell ⟨G, k * 6 + 1, none⟩ (.int .i64 (Q + 1))).setCell ⟨G, k * 6 + 2, none⟩ (.int .i64 (Q + 2))).setCell ⟨G, k * 6 + 3, none⟩ (.int .i64 (Q + 3))) G a cap (nmix q L (k + 1)) := by
  have hlp : k < (nmix q L k).length := by rw [nmix_len]; exact hk
  have e0 := nmix_at q L k hk hlp
  obtain ⟨ea, ec, eo, _⟩ := he
  have h1 := own_turn ndLen h hlp (r := 0) (u := .int .i64 Q) { mkD Q L[k] with has := L[k].has, spent := L[k].spent, earned := L[k].earned } (by decide) (fun r v hv => by
    rw [e0]
    match r, hv with
    | 0, hv => simp [ndCells, mkD] at hv; exact .inl ⟨rfl, hv.symm⟩
    | 1, hv => simp [ndCells, mkD] at hv; exact .inr ⟨by omega, by simp [ndCells, hv]⟩
    | 2, hv => simp [ndCells, mkD] at hv; exact .inr ⟨by omega, by simp [ndCells, hv]⟩
    | 3, hv => simp [ndCells, mkD] at hv; exact .inr ⟨by omega, by simp [ndCells, hv]⟩
    | 4, hv => simp [ndCells, mkD] at hv; exact .inr ⟨by omega, by simp [ndCells, ea, ec, eo, hv]⟩
    | 5, hv => simp [ndCells, mkD, pmix_len] at hv; exact .inr ⟨by omega, by simp [ndCells, hv]⟩)
  have h2 := own_turn ndLen h1 (by simpa using hlp) (r := 1) (u := .int .i64 (Q + 1)) { mkD Q L[k] with spent := L[k].spent, earned := L[k].earned } (by decide) (fun r v hv => by
    rw [List.getElem_set_self]
    match r, hv with
    | 0, hv => simp [ndCells, mkD] at hv; exact .inr ⟨by omega, by simp [ndCells, mkD, hv]⟩
    | 1, hv => simp [ndCells, mkD] at hv; exact .inl ⟨rfl, hv.symm⟩
    | 2, hv => simp [ndCells, mkD] at hv; exact .inr ⟨by omega, by simp [ndCells, mkD, hv]⟩
    | 3, hv => simp [ndCells, mkD] at hv; exact .inr ⟨by omega, by simp [ndCells, mkD, hv]⟩
    | 4, hv => simp [ndCells, mkD] at hv; exact .inr ⟨by omega, by simp [ndCells, mkD, hv]⟩
    | 5, hv => simp [ndCells, mkD] at hv; exact .inr ⟨by omega, by simp [ndCells, mkD, hv]⟩)
  have h3 := own_turn ndLen h2 (by simpa using hlp) (r := 2) (u := .int .i64 (Q + 2)) { mkD Q L[k] with earned := L[k].earned } (by decide) (fun r v hv => by
    rw [List.getElem_set_self]
    match r, hv with
    | 0, hv => simp [ndCells, mkD] at hv; exact .inr ⟨by omega, by simp [ndCells, mkD, hv]⟩
    | 1, hv => simp [ndCells, mkD] at hv; exact .inr ⟨by omega, by simp [ndCells, mkD, hv]⟩
    | 2, hv => simp [ndCells, mkD] at hv; exact .inl ⟨rfl, hv.symm⟩
    | 3, hv => simp [ndCells, mkD] at hv; exact .inr ⟨by omega, by simp [ndCells, mkD, hv]⟩
    | 4, hv => simp [ndCells, mkD] at hv; exact .inr ⟨by omega, by simp [ndCells, mkD, hv]⟩
    | 5, hv => simp [ndCells, mkD] at hv; exact .inr ⟨by omega, by simp [ndCells, mkD, hv]⟩)
  have h4 := own_turn ndLen h3 (by simpa using hlp) (r := 3) (u := .int .i64 (Q + 3)) (mkD Q L[k]) (by decide) (fun r v hv => by
    rw [List.getElem_set_self]
    match r, hv with
    | 0, hv => simp [ndCells, mkD] at hv; exact .inr ⟨by omega, by simp [ndCells, mkD, hv]⟩
    | 1, hv => simp [ndCells, mkD] at hv; exact .inr ⟨by omega, by simp [ndCells, mkD, hv]⟩
    | 2, hv => simp [ndCells, mkD] at hv; exact .inr ⟨by omega, by simp [ndCells, mkD, hv]⟩
    | 3, hv => simp [ndCells, mkD] at hv; exact .inl ⟨rfl, hv.symm⟩
    | 4, hv => simp [ndCells, mkD] at hv; exact .inr ⟨by omega, by simp [ndCells, mkD, hv]⟩
    | 5, hv => simp [ndCells, mkD] at hv; exact .inr ⟨by omega, by simp [ndCells, mkD, hv]⟩)
  simp only [List.set_set] at h4
  rw [hQ, nmix_step q L k hk] at h4
  rw [hQ]
  exact h4
/-- the next node is marked, its peers too -/
theorem OwnW.next {q : Int} {L : List Nd} {k G : Nat} {a : Option Addr} {cap : Nat} {gs : Nat → Nat} {x y z : World} (h : OwnW G a cap gs (nmix q L k) x) (hk : k < L.length) (ty : Turned G x y) (hy : OwnRow 6 ndCells y G a cap (nmix q L (k + 1))) (far : ∀ i, gs i ≠ G) (inj : ∀ i j, i ≠ j → gs i ≠ gs j)
    (tz : Turned (gs k) y z) (hz : OwnRow 4 prCells z (gs k) L[k].pa L[k].pc (pmix (qn q L k + 4) L[k].peers L[k].peers.length)) : OwnW G a cap gs (nmix q L (k + 1)) z := by
  refine ⟨hy.turned tz (fun _ e => far k e.symm), fun i hi => ?_⟩
  have hi' : i < L.length := by rw [nmix_len] at hi; exact hi
  by_cases e : i = k
  · subst e
    have : (nmix q L (i + 1))[i] = mkD (qn q L i) L[i] := by simp [nmix]
    rw [this]
    exact hz
  · have e2 : (nmix q L (k + 1))[i] = (nmix q L k)[i]'(by rw [nmix_len]; exact hi') := by
      simp only [nmix, List.getElem_mapIdx]
      by_cases e2 : i < k
      · rw [if_pos e2, if_pos (by omega)]
      · rw [if_neg e2, if_neg (by omega)]
    rw [e2]
    exact ((h.prs i (by rw [nmix_len]; exact hi')).turned ty (fun _ => far i)).turned tz (fun _ => inj i k e)
/-- only the blocks of a world's rows are turned -/
structure Trn (G : Nat) (gs : Nat → Nat) (w x : World) : Prop where
  size : x.heap.size = w.heap.size
  block : ∀ b, b ≠ G → (∀ i, b ≠ gs i) → x.heap[b]? = w.heap[b]?
  below : ∀ B, B ≤ G → (∀ i, B ≤ gs i) → Below B w x
theorem Trn.refl (G : Nat) (gs : Nat → Nat) (w : World) : Trn G gs w w := ⟨rfl, fun _ _ _ => rfl, fun _ _ _ => Below.refl _ _⟩
theorem Trn.step {G : Nat} {gs : Nat → Nat} {w x y z : World} {k : Nat} (h : Trn G gs w x) (ty : Turned G x y) (tz : Turned (gs k) y z) : Trn G gs w z :=
  ⟨by rw [tz.size, ty.size, h.size], fun b hb hs => (tz.block b (hs k)).trans ((ty.block b hb).trans (h.block b hb hs)), fun B hB hs => ((h.below B hB hs).trans (ty.below hB)).trans (tz.below (hs k))⟩
theorem OwnW.below {G : Nat} {a : Option Addr} {cap : Nat} {gs : Nat → Nat} {L : List Nd} {x y : World} (h : OwnW G a cap gs L x) (b : Below x.heap.size x y) : OwnW G a cap gs L y := ⟨h.row.below b, fun i hi => (h.prs i hi).below b⟩
set_option maxRecDepth 100000 in
set_option maxHeartbeats 4000000 in
theorem markNodeS_any (a : Option Addr) (L : List Nd) (cap G : Nat) (gs : Nat → Nat) (q : Int) (w : World) (hn : L.length ≤ 8) (hq : 0 ≤ q ∧ q ≤ 100) (h8 : ∀ n ∈ L, n.peers.length ≤ 8) (he : ∀ n ∈ L, Emp n) (far : ∀ i, gs i ≠ G) (inj : ∀ i j, i ≠ j → gs i ≠ gs j) (h : OwnW G a cap gs L w) :
    Calls Try.prog 22 #[.slice a L.length cap, .int .i64 q] w fun e w' => e = .returned (.int .i64 (qn q L L.length)) ∧ Trn G gs w w' ∧ OwnW G a cap gs (nmix q L L.length) w' := by
  have HE : Hid _ := hide he
  have H8 : Hid _ := hide h8
  have HF : Hid _ := hide (And.intro far inj)
  have HQ : Hid _ := hide hq
  have HO : Hid (OwnW G a cap gs (nmix q L 0) w) := hide (by rw [nmix_zero]; exact h)
  have HZ : Hid (q = qn q L 0) := hide (qn_zero q L).symm
  clear h he h8 far inj hq
  go_enter Try.func22, Try.ntmps22
  go_wp2
  go_loopw [1, 5] (fun s i wr => ∃ k : Nat, k ≤ L.length ∧ i = .int .i64 (k : Int) ∧ s = .int .i64 (qn q L k) ∧ Hid (Trn G gs w wr) ∧ Hid (OwnW G a cap gs (nmix q L k) wr)) (fun s i wr => L.length - (intOf i).toNat)
  case atStart => exact ⟨0, Nat.zero_le _, rfl, by rw [← HZ.out], hide (Trn.refl _ _ _), HO⟩
  case round =>
    obtain ⟨k, hk, rfl, rfl, HT, HM⟩ := hrel
    clear HO HZ
    by_cases hlt : k < L.length
    · have hlt' : (k : Int) < (L.length : Int) := by omega
      have hlp : k < (nmix q L k).length := by rw [nmix_len]; exact hlt
      obtain ⟨rfl, hfz⟩ := HM.out.row.own (by omega)
      have hem := HE.out L[k] (List.getElem_mem hlt)
      obtain ⟨ea, ec, eo, _⟩ := hem
      obtain ⟨b2, off2, e2, hb2, d0, d1, d2, d3, d4, d5⟩ := nd_row HM.out.row.rows k hlp
      simp only [Option.some.injEq, Addr.mk.injEq, and_true] at e2
      obtain ⟨rfl, rfl⟩ := e2
      rw [nmix_at q L k hlt hlp] at d0 d1 d2 d3 d4 d5
      rw [ea, ec, eo] at d4
      simp only [Nat.zero_add, List.length_nil] at d0 d1 d2 d3 d4 d5
      have z0 := hfz (k * 6)
      have z1 := hfz (k * 6 + 1)
      have z2 := hfz (k * 6 + 2)
      have z3 := hfz (k * 6 + 3)
      clear hfz ea ec eo
      have HPK : Hid (OwnRow 4 prCells wr (gs k) L[k].pa L[k].pc L[k].peers) := hide (by have := HM.out.prs k hlp; rw [nmix_at q L k hlt hlp] at this; exact this)
      have hqb := qn_bd q L H8.out k hk
      have hq0 := HQ.out
      obtain ⟨Q, HQQ⟩ : ∃ Q, Hid (Q = qn q L k) := ⟨_, hide rfl⟩
      rw [← HQQ.out] at hqb
      rw [← HQQ.out]
      have hQ0 : 0 ≤ Q := by omega
      have hQ1 : Q ≤ 500 := by omega
      clear hqb hq0
      have e2 : Q + 1 + 1 = Q + 2 := by omega
      have e3 : Q + 2 + 1 = Q + 3 := by omega
      have e4 : Q + 3 + 1 = Q + 4 := by omega
      obtain ⟨y, HY⟩ : ∃ y, Hid ((((wr.setCell ⟨G, k * 6, none⟩ (.int .i64 Q)).setCell ⟨G, k * 6 + 1, none⟩ (.int .i64 (Q + 1))).setCell ⟨G, k * 6 + 2, none⟩ (.int .i64 (Q + 2))).setCell ⟨G, k * 6 + 3, none⟩ (.int .i64 (Q + 3)) = y) := ⟨_, hide rfl⟩
      have HTY : Hid (Turned G wr y) := hide (by rw [← HY.out]; exact ((((Turned.refl _ _).setCell _).setCell _).setCell _).setCell _)
      have HRY : Hid _ := hide (nmark HM.out.row hlt (HE.out L[k] (List.getElem_mem hlt)) HQQ.out)
      rw [HY.out] at HRY
      have hlp5 : k < (nmix q L (k + 1)).length := by rw [nmix_len]; exact hlt
      obtain ⟨b2, off2, e5, hb5, g0, g1, g2, g3, g4, g5⟩ := nd_row HRY.out.rows k hlp5
      simp only [Option.some.injEq, Addr.mk.injEq, and_true] at e5
      obtain ⟨rfl, rfl⟩ := e5
      have e6 : (nmix q L (k + 1))[k] = mkD (qn q L k) L[k] := by simp [nmix]
      rw [e6] at g5
      simp only [Nat.zero_add, mkD, pmix_len] at g5
      clear g0 g1 g2 g3 g4 e6
      go_wp2_with fail
      rw [HY.out]
      refine (markAnsweredS_none _ _).mono ?_
      rintro e w1 ⟨rfl, rfl⟩
      clear d0 d1 d2 d3 d4 d5 z0 z1 z2 z3
      go_wp2_with fail
      refine (markPeerS_any L[k].pa L[k].peers L[k].pc (gs k) (Q + 4) _ (Nat.le_trans (H8.out L[k] (List.getElem_mem hlt)) (by omega)) (by omega) (HE.out L[k] (List.getElem_mem hlt)).2.2.2 (HPK.out.turned HTY.out (fun _ => HF.out.1 k))).mono ?_
      rintro e z ⟨rfl, tz, oz⟩
      have HNW : Hid (OwnW G (some ⟨G, 0, none⟩) cap gs (nmix q L (k + 1)) z) := hide (HM.out.next hlt HTY.out HRY.out HF.out.1 HF.out.2 tz (by rw [← HQQ.out]; exact oz))
      have HNB : Hid (Trn G gs w z) := hide (HT.out.step HTY.out tz)
      have HNQ : Hid (Q + 4 + 3 * (L[k].peers.length : Int) = qn q L (k + 1)) := hide (by rw [qn_step q L k hlt, ← HQQ.out]; unfold szN; omega)
      clear tz oz HRY HTY HY HM HT HPK
      go_wp2
      exact ⟨⟨k + 1, by omega, by go_num, by rw [← HNQ.out], HNB, HNW⟩, by simp [intOf]; omega⟩
    · have hk' : ¬ (k : Int) < (L.length : Int) := by omega
      have HX : Hid (k = L.length) := hide (by omega)
      go_wp2
      go_ret
      exact ⟨by rw [HX.out]; rfl, HT.out, by rw [← HX.out]; exact HM.out⟩
set_option maxRecDepth 100000 in
set_option maxHeartbeats 4000000 in
theorem heldNodeS_any (a : Option Addr) (L : List Nd) (cap G : Nat) (gs : Nat → Nat) (q : Int) (w : World) (hn : L.length ≤ 8) (hq : 0 ≤ q ∧ q ≤ 100) (h8 : ∀ n ∈ L, n.peers.length ≤ 8) (h : OwnW G a cap gs (nmix q L L.length) w) :
    Calls Try.prog 24 #[.slice a L.length cap, .int .i64 q] w fun e w' => e = .returned (.int .i64 (qn q L L.length)) ∧ w' = w := by
  have H8 : Hid _ := hide h8
  have HQ : Hid _ := hide hq
  have HO : Hid _ := hide h
  have HZ : Hid (q = qn q L 0) := hide (qn_zero q L).symm
  clear h h8 hq
  go_enter Try.func24, Try.ntmps24
  go_wp2
  go_loop [1, 5] (fun s i => ∃ k : Nat, k ≤ L.length ∧ i = .int .i64 (k : Int) ∧ s = .int .i64 (qn q L k)) (fun s i => L.length - (intOf i).toNat)
  case atStart => exact ⟨0, Nat.zero_le _, rfl, by rw [← HZ.out]⟩
  case round =>
    obtain ⟨k, hk, rfl, rfl⟩ := hrel
    clear HZ
    by_cases hlt : k < L.length
    · have hlt' : (k : Int) < (L.length : Int) := by omega
      have hlp : k < (nmix q L L.length).length := by rw [nmix_len]; exact hlt
      have hqb := qn_bd q L H8.out k hk
      have hq0 := HQ.out
      obtain ⟨Q, HQQ⟩ : ∃ Q, Hid (Q = qn q L k) := ⟨_, hide rfl⟩
      have HPK : Hid (RowAt 4 prCells w L[k].pa (pmix (Q + 4) L[k].peers L[k].peers.length)) := hide (by
        have := (HO.out.prs k hlp).rows
        rw [nmix_done q L k hlt hlp, ← HQQ.out] at this
        exact this)
      obtain ⟨b, off, rfl, hb, d0, d1, d2, d3, d4, d5⟩ := nd_row HO.out.row.rows k hlp
      rw [nmix_done q L k hlt hlp, ← HQQ.out] at d0 d1 d2 d3 d4 d5
      simp only [mkD, List.length_nil, pmix_len] at d0 d1 d2 d3 d4 d5
      rw [← HQQ.out] at hqb
      rw [← HQQ.out]
      have hQ0 : 0 ≤ Q := by omega
      have hQ1 : Q ≤ 500 := by omega
      clear hqb hq0
      have e2 : Q + 1 + 1 = Q + 2 := by omega
      have e3 : Q + 2 + 1 = Q + 3 := by omega
      have e4 : Q + 3 + 1 = Q + 4 := by omega
      have e5 : ¬ Q + 4 < 0 := by omega
      have e6 : ¬ Q + 4 + 3 * (L[k].peers.length : Int) < 0 := by omega
      have HNQ : Hid (Q + 4 + 3 * (L[k].peers.length : Int) = qn q L (k + 1)) := hide (by rw [qn_step q L k hlt, ← HQQ.out]; unfold szN; omega)
      go_wp2_with fail
      refine (heldAnsweredS_none _ _).mono ?_
      rintro e w1 ⟨rfl, rfl⟩
      go_wp2_with fail
      refine (heldPeerS_any L[k].pa L[k].peers L[k].pc (Q + 4) _ (Nat.le_trans (H8.out L[k] (List.getElem_mem hlt)) (by omega)) (by omega) HPK.out).mono ?_
      rintro e z ⟨rfl, rfl⟩
      go_wp2
      exact ⟨⟨k + 1, by omega, by go_num, by rw [← HNQ.out]⟩, by simp [intOf]; omega⟩
    · have hk' : ¬ (k : Int) < (L.length : Int) := by omega
      have HX : Hid (k = L.length) := hide (by omega)
      go_wp2
      go_ret
      exact ⟨by rw [HX.out]; rfl, rfl⟩
end Go.Proofs.Ythlnfomhbnpcoaa
