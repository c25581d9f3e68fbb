/- Marks in a node's peers, and what is found of them. -/
import Derived.Test.YtaohhdlkgnjphaaGreatMkN
namespace Go.Proofs.YtaohhdlkgnjphaaGreat
open Go.Value renaming int → J, slice → V
open Go.IntKind renaming i64 → Z
open Go.ChangeShapes Go.WideShapes Go.ChangeAt Go.RowKit
set_option linter.unusedVariables false
set_option maxRecDepth 100000
theorem wrapIn {n : Int} (h1 : -9223372036854775808 ≤ n) (h2 : n ≤ 9223372036854775807) : IntKind.i64.wrap n = n := by simp only [IntKind.wrap, IntKind.signed, IntKind.bits]; simp; omega
/-- how many numbers a peer takes -/
def wP (p : Pr) : Int := 3 + 2 * (p.E.out.length : Int)
def qP (q : Int) (l : List Pr) (k : Nat) : Int := q + ((l.take k).map wP).sum
theorem qP_zero (q : Int) (l : List Pr) : qP q l 0 = q := by simp [qP]
theorem qP_step (q : Int) (l : List Pr) (k : Nat) (hk : k < l.length) : qP q l (k + 1) = qP q l k + 3 + 2 * (l[k].E.out.length : Int) := by
 unfold qP
 rw [List.take_succ_eq_append_getElem hk, List.map_append, List.sum_append]
 simp [wP]
 omega
theorem qP_bd (q : Int) (l : List Pr) (hs : SmP l) : ∀ k, k ≤ l.length → q ≤ qP q l k ∧ qP q l k ≤ q + 2097155 * (k : Int) := by
 intro k
 induction k with
 | zero => intro _; rw [qP_zero]; omega
 | succ k ih =>
  intro hk
  have h1 := ih (by omega)
  have h2 := hs l[k] (List.getElem_mem (by omega))
  rw [qP_step q l k (by omega)]
  omega
def mkP1 (q : Int) (p : Pr) : Pr := ⟨q, p.a, p.cap, ⟨mkC (q + 1) p.E.out.length, q + 1 + 2 * (p.E.out.length : Int), q + 1 + 2 * (p.E.out.length : Int) + 1⟩⟩
def pmx (q : Int) (l : List Pr) (k : Nat) : List Pr := l.mapIdx (fun i p => if i < k then mkP1 (qP q l i) p else p)
theorem pmx_len (q : Int) (l : List Pr) (k : Nat) : (pmx q l k).length = l.length := by simp [pmx]
theorem pmx_zero (q : Int) (l : List Pr) : pmx q l 0 = l := by
 apply List.ext_getElem
 ·simp [pmx]
 ·intro i h1 h2
  simp [pmx]
theorem pmx_at (q : Int) (l : List Pr) (k : Nat) (hk : k < l.length) (hk' : k < (pmx q l k).length) : (pmx q l k)[k] = l[k] := by simp [pmx]
theorem pmx_step (q : Int) (l : List Pr) (k : Nat) (hk : k < l.length) : (pmx q l k).set k (mkP1 (qP q l k) l[k]) = pmx q l (k + 1) := by
 apply List.ext_getElem
 ·simp [pmx]
 ·intro i h1 h2
  rw [List.getElem_set]
  simp only [pmx, List.getElem_mapIdx]
  by_cases e : k = i
  ·subst e; simp
  ·rw [if_neg e]
   by_cases e2 : i < k
   ·rw [if_pos e2, if_pos (by omega)]
   ·rw [if_neg e2, if_neg (by omega)]
theorem pmx_all (q : Int) (l : List Pr) (i : Nat) (hi : i < l.length) (h' : i < (pmx q l l.length).length) : (pmx q l l.length)[i] = mkP1 (qP q l i) l[i] := by simp [pmx, hi]
/-- a call turns one end's row -/
theorem Pool.callEnd {F : List Nat} {w x y : World} {S : List (List Rs)} (h : Pool F w S x) {i : Nat} {l : List Pr} (hi : S[i]? = some (endsL l)) {k : Nat} (hk : k < l.length) (p : Pr) (hc : Pool (fps [orow 2 prcCells l[k].a l[k].cap l[k].E.out]) x [[orow 2 prcCells p.a p.cap p.E.out]] y) : Pool F w (S.set i (endsL (l.set k p))) y := by
 obtain ⟨A, B, e1, e2⟩ := endsL_set hk p
 have hs := h.get hi
 rw [e1] at hs
 have p1 := ((Pool.of hs).cast (S' := [A, [orow 2 prcCells l[k].a l[k].cap l[k].E.out], B]) (by simp)).call (i := 1) rfl hc
 rw [← e1] at p1
 exact h.call hi (p1.cast (by simp [e2]))
theorem Pool.turnP {F : List Nat} {w x : World} {S : List (List Rs)} (h : Pool F w S x) {i k g r : Nat} {a : Option Addr} {cap : Nat} {l : List Pr} {u : Value} (hi : S[i]? = some [orow 4 prCells a cap l]) (hk : k < l.length) (p : Pr) (hr : r < 4) (hc : ∀ r' v, (prCells p)[r']? = some v → (r' = r ∧ v = u) ∨ (r' ≠ r ∧ (prCells l[k])[r']? = some v)) (hg : gOf a = g) :
  Pool F w (S.set i [orow 4 prCells a cap (l.set k p)]) (x.setCell ⟨g, k * 4 + r, none⟩ u) := by
 subst hg
 obtain ⟨st, _⟩ := Star.ofOrow (own_turn prLen (h.orowAt hi) hk p hr hc)
 have hm : gOf a ∈ fps [orow 4 prCells a cap l] := by rw [fps_one, orow_fp, if_neg (by omega)]; simp
 refine h.step hi ((Fr.refl _ _).set (.inl hm)) st (fun b hb => .inl ?_)
 rw [fps_one] at hb ⊢
 obtain ⟨_, rfl⟩ := orow_mem hb
 rw [fps_one] at hm
 exact hm
theorem peerAt {x : World} {g : Nat} {a : Option Addr} {cap : Nat} {l : List Pr} (h : OwnRow 4 prCells x g a cap l) {k : Nat} (hk : k < l.length) : x.cell? ⟨g, k * 4, none⟩ = some (J Z l[k].id) ∧ x.cell? ⟨g, k * 4 + 1, none⟩ = some (V l[k].a l[k].E.out.length l[k].cap) ∧ x.cell? ⟨g, k * 4 + 2, none⟩ = some (J Z l[k].E.sent) ∧ x.cell? ⟨g, k * 4 + 3, none⟩ = some (J Z l[k].E.got) := by
 obtain ⟨b, off, e, _, c0, c1, c2, c3⟩ := pr_row h.rows k hk
 rw [(h.own (by omega)).1] at e
 simp only [Option.some.injEq, Addr.mk.injEq, and_true] at e
 obtain ⟨rfl, rfl⟩ := e
 simp only [Nat.zero_add] at c0 c1 c2 c3
 exact ⟨c0, c1, c2, c3⟩
set_option maxHeartbeats 4000000 in
theorem markPeerS_pool (a : Option Addr) (l : List Pr) (cap : Nat) (q : Int) (w : World) (hn : l.length ≤ 1048576) (hs : SmP l) (hq : 0 ≤ q ∧ q ≤ 1000000000000) (st : Star (orow 4 prCells a cap l :: endsL l) w) :
  Calls Tryz.prog 36 #[V a l.length cap, J Z q] w fun e w' => e = .returned (J Z (qP q l l.length)) ∧ Pool (fps (orow 4 prCells a cap l :: endsL l)) w [orow 4 prCells a cap (pmx q l l.length) :: endsL (pmx q l l.length)] w' := by
 have HS : Hid _ := hide hs
 obtain ⟨q0, q1⟩ := hq
 have HP : Hid (Pool (fps (orow 4 prCells a cap l :: endsL l)) w [[orow 4 prCells a cap (pmx q l 0)], endsL (pmx q l 0)] w) := hide (by rw [pmx_zero]; exact (Pool.of st).cast (by simp))
 clear st hs
 go_enter Tryz.func36, Tryz.ntmps36
 go_wp2
 go_loopw [1, 5] (fun s i wr => ∃ k : Nat, k ≤ l.length ∧ i = J Z (k : Int) ∧ s = J Z (qP q l k) ∧ Hid (Pool (fps (orow 4 prCells a cap l :: endsL l)) w [[orow 4 prCells a cap (pmx q l k)], endsL (pmx q l k)] wr)) (fun s i wr => l.length - (intOf i).toNat)
 case atStart => exact ⟨0, Nat.zero_le _, rfl, by rw [qP_zero], HP⟩
 case round =>
  clear HP
  obtain ⟨k, hk, rfl, rfl, HM⟩ := hrel
  have hb := qP_bd q l HS.out k hk
  by_cases hlt : k < l.length
  ·have hlt' : (k : Int) < (l.length : Int) := by omega
   have hlp : k < (pmx q l k).length := by rw [pmx_len]; exact hlt
   have hsm := HS.out l[k] (List.getElem_mem hlt)
   obtain ⟨Q, hQ⟩ : ∃ Q, Q = qP q l k := ⟨_, rfl⟩
   have eQ2 := qP_step q l k hlt
   rw [← hQ] at hb eQ2 ⊢
   have HQ : Hid _ := hide hQ
   obtain ⟨G, hG⟩ : ∃ G, G = gOf a := ⟨_, rfl⟩
   have hpa : a = some ⟨G, 0, none⟩ := by rw [hG]; exact ((HM.out.orowAt (i := 0) rfl).own (by omega)).1
   clear hG hQ
   subst hpa
   obtain ⟨c0, c1, c2, c3⟩ := peerAt (g := G) (HM.out.orowAt (i := 0) rfl) hlp
   rw [pmx_at q l k hlt hlp] at c0 c1 c2 c3
   have fz : ∀ j, wr.frozen? ⟨G, j, none⟩ = false := ((HM.out.orowAt (i := 0) rfl).own (by omega)).2
   have z0 := fz (k * 4)
   have p1 := HM.out.turnP (i := 0) (r := 0) (u := J Z Q) rfl hlp (⟨Q, l[k].a, l[k].cap, l[k].E⟩ : Pr) (by decide) (fun r v hv => by
    rw [pmx_at q l k hlt hlp]
    match r, hv with
    | 0, hv => simp [prCells] at hv; exact .inl ⟨rfl, hv.symm⟩
    | 1, hv => simp [prCells] at hv; exact .inr ⟨by omega, by simp [prCells, hv]⟩
    | 2, hv => simp [prCells] at hv; exact .inr ⟨by omega, by simp [prCells, hv]⟩
    | 3, hv => simp [prCells] at hv; exact .inr ⟨by omega, by simp [prCells, hv]⟩) (g := G) rfl
   have HP1 : Hid (Pool (fps (orow 4 prCells (some ⟨G, 0, none⟩) cap l :: endsL l)) w [[orow 4 prCells (some ⟨G, 0, none⟩) cap ((pmx q l k).set k ⟨Q, l[k].a, l[k].cap, l[k].E⟩)], endsL (pmx q l k)] (wr.setCell ⟨G, k * 4, none⟩ (J Z Q))) := hide p1
   have d1 : (wr.setCell ⟨G, k * 4, none⟩ (J Z Q)).cell? ⟨G, k * 4 + 1, none⟩ = some (V l[k].a l[k].E.out.length l[k].cap) := by rw [cell_set_other (.inr (by omega))]; exact c1
   have hst := HP1.out.get (i := 1) rfl
   have hse : Star [orow 2 prcCells l[k].a l[k].cap l[k].E.out] (wr.setCell ⟨G, k * 4, none⟩ (J Z Q)) := by
    obtain ⟨A, B, e1, _⟩ := endsL_set hlp (pmx q l k)[k]
    rw [pmx_at q l k hlt hlp] at e1
    rw [e1] at hst
    exact (hst.right).perm (List.Perm.refl _) |>.left (a := [_])
   have HSE : Hid _ := hide hse
   clear p1 c1 fz hst hse HM
   have e1 : IntKind.i64.wrap (Q + 1) = Q + 1 := wrapIn (by omega) (by omega)
   go_wp2_with fail
   refine (markC_pool l[k].a l[k].E.out l[k].cap (Q + 1) _ hsm (And.intro (by omega) (by omega)) HSE.out).mono ?_
   rintro e w1 ⟨rfl, hP2⟩
   have hlp2 : k < ((pmx q l k).set k ⟨Q, l[k].a, l[k].cap, l[k].E⟩).length := by rw [List.length_set]; exact hlp
   have p2 := HP1.out.callEnd (i := 1) rfl hlp (mkP1 Q l[k]) (by rw [pmx_at q l k hlt hlp]; exact hP2)
   obtain ⟨f0, f1, f2, f3⟩ := peerAt (g := G) (p2.orowAt (i := 0) rfl) hlp2
   have fz : ∀ j, w1.frozen? ⟨G, j, none⟩ = false := ((p2.orowAt (i := 0) rfl).own (by omega)).2
   have y2 := fz (k * 4 + 2)
   have y3 := fz (k * 4 + 3)
   simp only [List.getElem_set_self] at f2 f3
   have p3 := p2.turnP (i := 0) (r := 2) (u := J Z (Q + 1 + 2 * (l[k].E.out.length : Int))) rfl hlp2 (⟨Q, l[k].a, l[k].cap, ⟨mkC (Q + 1) l[k].E.out.length, Q + 1 + 2 * (l[k].E.out.length : Int), l[k].E.got⟩⟩ : Pr) (by decide) (fun r v hv => by
    rw [List.getElem_set_self]
    match r, hv with
    | 0, hv => simp [prCells] at hv; exact .inr ⟨by omega, by simp [prCells, hv]⟩
    | 1, hv => simp [prCells, mkC_len] at hv; exact .inr ⟨by omega, by simp [prCells, hv]⟩
    | 2, hv => simp [prCells] at hv; exact .inl ⟨rfl, hv.symm⟩
    | 3, hv => simp [prCells] at hv; exact .inr ⟨by omega, by simp [prCells, hv]⟩) (g := G) rfl
   have p4 := p3.turnP (i := 0) (k := k) (r := 3) (u := J Z (Q + 1 + 2 * (l[k].E.out.length : Int) + 1)) rfl (by simpa using hlp) (mkP1 Q l[k]) (by decide) (fun r v hv => by
    rw [List.getElem_set_self]
    match r, hv with
    | 0, hv => simp [prCells, mkP1] at hv; exact .inr ⟨by omega, by simp [prCells, hv]⟩
    | 1, hv => simp [prCells, mkP1] at hv; exact .inr ⟨by omega, by simp [prCells, hv]⟩
    | 2, hv => simp [prCells, mkP1] at hv; exact .inr ⟨by omega, by simp [prCells, hv]⟩
    | 3, hv => simp [prCells, mkP1] at hv; exact .inl ⟨rfl, hv.symm⟩) (g := G) rfl
   have HP4 : Hid (Pool (fps (orow 4 prCells (some ⟨G, 0, none⟩) cap l :: endsL l)) w [[orow 4 prCells (some ⟨G, 0, none⟩) cap (pmx q l (k + 1))], endsL (pmx q l (k + 1))] ((w1.setCell ⟨G, k * 4 + 2, none⟩ (J Z (Q + 1 + 2 * (l[k].E.out.length : Int)))).setCell ⟨G, k * 4 + 3, none⟩ (J Z (Q + 1 + 2 * (l[k].E.out.length : Int) + 1)))) := hide (by
    rw [← pmx_step q l k hlt, ← HQ.out]
    simp only [List.set_set] at p4
    exact p4)
   have x3 : (w1.setCell ⟨G, k * 4 + 2, none⟩ (J Z (Q + 1 + 2 * (l[k].E.out.length : Int)))).cell? ⟨G, k * 4 + 3, none⟩ = some (J Z l[k].E.got) := by rw [cell_set_other (.inr (by omega))]; exact f3
   clear p2 p3 p4 hP2 f0 f1 fz HP1 d1 c0 c2 c3
   have e2 : IntKind.i64.wrap (Q + 1 + 2 * (l[k].E.out.length : Int) + 1) = Q + 1 + 2 * (l[k].E.out.length : Int) + 1 := wrapIn (by omega) (by omega)
   have e3 : IntKind.i64.wrap (Q + 1 + 2 * (l[k].E.out.length : Int) + 1 + 1) = Q + 1 + 2 * (l[k].E.out.length : Int) + 1 + 1 := wrapIn (by omega) (by omega)
   have HE2 : Hid _ := hide eQ2
   clear eQ2
   go_wp2
   exact ⟨⟨k + 1, by omega, by go_num, by rw [HE2.out]; congr 1; omega, HP4⟩, by simp [intOf]; omega⟩
  ·have hk' : ¬ (k : Int) < (l.length : Int) := by omega
   have HK : Hid (k = l.length) := hide (by omega)
   have HM2 : Hid (Pool (fps (orow 4 prCells a cap l :: endsL l)) w [orow 4 prCells a cap (pmx q l l.length) :: endsL (pmx q l l.length)] wr) := hide (by
    have := HM.out
    rw [HK.out] at this
    exact this.cast (by simp))
   clear HM
   go_wp2
   go_ret
   exact ⟨by rw [HK.out]; rfl, HM2.out⟩
set_option maxHeartbeats 4000000 in
theorem heldPeerS_pool (a : Option Addr) (l : List Pr) (cap : Nat) (q : Int) (w : World) (hn : l.length ≤ 1048576) (hs : SmP l) (hq : 0 ≤ q ∧ q ≤ 1000000000000) (h : PeersAt w a (pmx q l l.length)) :
  Calls Tryz.prog 38 #[V a l.length cap, J Z q] w fun e w' => e = .returned (J Z (qP q l l.length)) ∧ w' = w := by
 have HL : Hid _ := hide h
 have HS : Hid _ := hide hs
 obtain ⟨q0, q1⟩ := hq
 clear h hs
 go_enter Tryz.func38, Tryz.ntmps38
 go_wp2
 go_loop [1, 5] (fun s i => ∃ k : Nat, k ≤ l.length ∧ i = J Z (k : Int) ∧ s = J Z (qP q l k)) (fun s i => l.length - (intOf i).toNat)
 case atStart => exact ⟨0, Nat.zero_le _, rfl, by rw [qP_zero]⟩
 case round =>
  obtain ⟨k, hk, rfl, rfl⟩ := hrel
  have hb := qP_bd q l HS.out k hk
  by_cases hlt : k < l.length
  ·have hlt' : (k : Int) < (l.length : Int) := by omega
   have hlp : k < (pmx q l l.length).length := by rw [pmx_len]; exact hlt
   have hsm := HS.out l[k] (List.getElem_mem hlt)
   obtain ⟨b, off, rfl, hbb, d0, d1, d2, d3⟩ := pr_row HL.out.row k hlp
   rw [pmx_all q l k hlt hlp] at d0 d1 d2 d3
   have hr := HL.out.ends _ (List.getElem_mem hlp)
   rw [pmx_all q l k hlt hlp] at hr
   obtain ⟨Q, hQ⟩ : ∃ Q, Q = qP q l k := ⟨_, rfl⟩
   have eQ2 := qP_step q l k hlt
   rw [← hQ] at hb eQ2 d0 d1 d2 d3 hr ⊢
   simp only [mkP1, mkC_len] at d0 d1 d2 d3 hr
   have HR : Hid _ := hide hr
   have HE2 : Hid _ := hide eQ2
   clear hQ hr eQ2
   have e1 : IntKind.i64.wrap (Q + 1) = Q + 1 := wrapIn (by omega) (by omega)
   have e2 : IntKind.i64.wrap (Q + 1 + 2 * (l[k].E.out.length : Int) + 1) = Q + 1 + 2 * (l[k].E.out.length : Int) + 1 := wrapIn (by omega) (by omega)
   have e3 : IntKind.i64.wrap (Q + 1 + 2 * (l[k].E.out.length : Int) + 1 + 1) = Q + 1 + 2 * (l[k].E.out.length : Int) + 1 + 1 := wrapIn (by omega) (by omega)
   go_wp2_with fail
   refine (heldC_any l[k].a l[k].E.out.length l[k].cap (Q + 1) _ hsm (And.intro (by omega) (by omega)) HR.out).mono ?_
   rintro e w1 ⟨rfl, hw1⟩
   rw [hw1]
   clear hw1
   have b1 : ¬ (Q + 1 + 2 * (l[k].E.out.length : Int) < 0) := by omega
   go_wp2
   exact ⟨⟨k + 1, by omega, by go_num, by rw [HE2.out]; congr 1; omega⟩, by simp [intOf]; omega⟩
  ·have hk' : ¬ (k : Int) < (l.length : Int) := by omega
   have HE : Hid (k = l.length) := hide (by omega)
   go_wp2
   go_ret
   exact ⟨by rw [HE.out]; rfl, rfl⟩
/-- a node whose rows are marked -/
def mkN (q : Int) (n : Nd) : Nd := ⟨n.id, n.has, n.spent, n.earned, n.sa, n.sc, mkS q n.seen.length, n.pa, n.pc, pmx (q + 2 * (n.seen.length : Int)) n.peers n.peers.length⟩
def qN (q : Int) (n : Nd) : Int := qP (q + 2 * (n.seen.length : Int)) n.peers n.peers.length
theorem qN_bd {q : Int} {n : Nd} (hs : SmN n) (hq : 0 ≤ q ∧ q ≤ 1000) : 0 ≤ qN q n ∧ qN q n ≤ 10000000000000 := by
 obtain ⟨h1, h2, h3⟩ := hs
 have := qP_bd (q + 2 * (n.seen.length : Int)) n.peers h3 n.peers.length (Nat.le_refl _)
 unfold qN
 omega
set_option maxHeartbeats 4000000 in
theorem markNode_pool (n : Nd) (q : Int) (w : World) (hs : SmN n) (hq : 0 ≤ q ∧ q ≤ 1000) (st : Star (ndL n) w) :
  Calls Tryz.prog 11 #[ndV n, J Z q] w fun e w' => e = .returned (J Z (qN q n)) ∧ Pool (fps (ndL n)) w [ndL (mkN q n)] w' := by
 obtain ⟨h1, h2, h3⟩ := hs
 obtain ⟨q0, q1⟩ := hq
 have HS : Hid _ := hide h3
 obtain ⟨W, hW⟩ : ∃ W, W = w.alloc (.cells #[J Z n.id, J Z n.has, J Z n.spent, J Z n.earned, V n.sa n.seen.length n.sc, V n.pa n.peers.length n.pc] 34) := ⟨_, rfl⟩
 have HP : Hid (Pool (fps (ndL n)) w [[orow 2 snCells n.sa n.sc n.seen], orow 4 prCells n.pa n.pc n.peers :: endsL n.peers, [blk w.heap.size [J Z n.id, J Z n.has, J Z n.spent, J Z n.earned, V n.sa n.seen.length n.sc, V n.pa n.peers.length n.pc]]] W) := hide (by
  rw [hW]
  exact ((Pool.of st).cast (S' := [[orow 2 snCells n.sa n.sc n.seen], orow 4 prCells n.pa n.pc n.peers :: endsL n.peers, []]) (by simp [ndL])).newBlk (i := 2) rfl [J Z n.id, J Z n.has, J Z n.spent, J Z n.earned, V n.sa n.seen.length n.sc, V n.pa n.peers.length n.pc] 34)
 have HW : Hid _ := hide hW.symm
 clear hW st h3
 unfold ndV
 go_enter Tryz.func11, Tryz.ntmps11
 go_wp2_with fail
 rw [HW.out]
 refine (markS_pool n.sa n.seen n.sc q W h1 (And.intro q0 (by omega)) (HP.out.get (i := 0) rfl)).mono ?_
 rintro e w1 ⟨rfl, hP1⟩
 have HP1 := HP.out.call (i := 0) rfl hP1
 have c5 := (HP1.blkAt (i := 2) rfl).c 5 _ rfl
 have HQ1 : Hid _ := hide HP1
 clear HP1 hP1 HP HW
 go_wp2_with fail
 refine (markPeerS_pool n.pa n.peers n.pc (q + 2 * (n.seen.length : Int)) w1 h2 HS.out (And.intro (by omega) (by omega)) (HQ1.out.get (i := 1) rfl)).mono ?_
 rintro e w2 ⟨rfl, hP2⟩
 have HP2 := HQ1.out.call (i := 1) rfl hP2
 have HQ2 : Hid _ := hide HP2
 clear HP2 hP2 HQ1 c5
 go_wp2
 go_ret
 refine ⟨rfl, (HQ2.out.drop (i := 2) rfl).cast ?_⟩
 simp [ndL, mkN]
set_option maxHeartbeats 4000000 in
theorem heldNode_pool (n : Nd) (q : Int) (w : World) (hs : SmN n) (hq : 0 ≤ q ∧ q ≤ 1000) (h : NodeAt w (mkN q n)) :
  Calls Tryz.prog 13 #[ndV n, J Z q] w fun e w' => e = .returned (J Z (qN q n)) ∧ Below w.heap.size w w' := by
 have HB := qN_bd hs hq
 obtain ⟨h1, h2, h3⟩ := hs
 obtain ⟨q0, q1⟩ := hq
 have HS : Hid _ := hide h3
 obtain ⟨W, hW⟩ : ∃ W, W = w.alloc (.cells #[J Z n.id, J Z n.has, J Z n.spent, J Z n.earned, V n.sa n.seen.length n.sc, V n.pa n.peers.length n.pc] 34) := ⟨_, rfl⟩
 have hb : Below w.heap.size w W := by rw [hW]; exact below_alloc (Below.refl _ _) _
 have H1 : Hid (RowAt 2 snCells W n.sa (mkS q n.seen.length)) := hide (h.seen.below hb)
 have H2 : Hid (PeersAt W n.pa (pmx (q + 2 * (n.seen.length : Int)) n.peers n.peers.length)) := hide (h.peers.below hb)
 have c5 : W.cell? ⟨w.heap.size, 5, none⟩ = some (V n.pa n.peers.length n.pc) := by rw [hW]; exact World.cell?_alloc_at _ _ _ _ rfl
 have HBB : Hid _ := hide hb
 have HW : Hid _ := hide hW.symm
 clear hW h h3 hb
 unfold ndV
 go_enter Tryz.func13, Tryz.ntmps13
 go_wp2_with fail
 rw [HW.out]
 refine (heldS_any n.sa n.seen.length n.sc q W h1 (And.intro q0 (by omega)) H1.out).mono ?_
 rintro e w1 ⟨rfl, hw1⟩
 rw [hw1]
 clear hw1
 have b1 : ¬ (q + 2 * (n.seen.length : Int) < 0) := by omega
 go_wp2_with fail
 refine (heldPeerS_pool n.pa n.peers n.pc (q + 2 * (n.seen.length : Int)) W h2 HS.out (And.intro (by omega) (by omega)) H2.out).mono ?_
 rintro e w2 ⟨rfl, hw2⟩
 rw [hw2]
 clear hw2
 obtain ⟨R, hR⟩ : ∃ R, R = qN q n := ⟨_, rfl⟩
 rw [← hR] at HB
 rw [show qP (q + 2 * (n.seen.length : Int)) n.peers n.peers.length = R from hR.symm]
 have HR : Hid _ := hide hR
 clear hR
 have b2 : ¬ (R < 0) := by omega
 go_wp2
 go_ret
 exact ⟨by rw [← HR.out]; rfl, HBB.out⟩
end Go.Proofs.YtaohhdlkgnjphaaGreat
