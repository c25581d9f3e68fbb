/- Marks in the rows of a new world, and what is found of them. -/
import Derived.Test.YthlnfomhbnpcoaaWEq
namespace Go.Proofs.Ythlnfomhbnpcoaa
open Go.ChangeShapes Go.WideShapes Go.ChangeAt Go.RowKit
set_option linter.unusedVariables false
set_option maxHeartbeats 1000000 in
theorem markParcelS_none (q : Int) (w : World) : Calls Try.prog 41 #[.slice none 0 0, .int .i64 q] w fun e w' => e = .returned (.int .i64 q) ∧ w' = w := by
  go_enter Try.func41, Try.ntmps41
  go_wp2
  refine wp_loop_rounds 1 ?_
  rw [rounds_succ]
  go_wp2
  go_ret
  exact ⟨rfl, rfl⟩
set_option maxHeartbeats 1000000 in
theorem heldParcelS_none (q : Int) (w : World) : Calls Try.prog 42 #[.slice none 0 0, .int .i64 q] w fun e w' => e = .returned (.int .i64 q) ∧ w' = w := by
  go_enter Try.func42, Try.ntmps42
  go_wp2
  refine wp_loop_rounds 1 ?_
  rw [rounds_succ]
  go_wp2
  go_ret
  exact ⟨rfl, rfl⟩
set_option maxHeartbeats 1000000 in
theorem markAnsweredS_none (q : Int) (w : World) : Calls Try.prog 33 #[.slice none 0 0, .int .i64 q] w fun e w' => e = .returned (.int .i64 q) ∧ w' = w := by
  go_enter Try.func33, Try.ntmps33
  go_wp2
  refine wp_loop_rounds 1 ?_
  rw [rounds_succ]
  go_wp2
  go_ret
  exact ⟨rfl, rfl⟩
set_option maxHeartbeats 1000000 in
theorem heldAnsweredS_none (q : Int) (w : World) : Calls Try.prog 35 #[.slice none 0 0, .int .i64 q] w fun e w' => e = .returned (.int .i64 q) ∧ w' = w := by
  go_enter Try.func35, Try.ntmps35
  go_wp2
  refine wp_loop_rounds 1 ?_
  rw [rounds_succ]
  go_wp2
  go_ret
  exact ⟨rfl, rfl⟩
set_option maxHeartbeats 1000000 in
theorem markMsgS_none (q : Int) (w : World) : Calls Try.prog 23 #[.slice none 0 0, .int .i64 q] w fun e w' => e = .returned (.int .i64 q) ∧ w' = w := by
  go_enter Try.func23, Try.ntmps23
  go_wp2
  refine wp_loop_rounds 1 ?_
  rw [rounds_succ]
  go_wp2
  go_ret
  exact ⟨rfl, rfl⟩
set_option maxHeartbeats 1000000 in
theorem heldMsgS_none (q : Int) (w : World) : Calls Try.prog 25 #[.slice none 0 0, .int .i64 q] w fun e w' => e = .returned (.int .i64 q) ∧ w' = w := by
  go_enter Try.func25, Try.ntmps25
  go_wp2
  refine wp_loop_rounds 1 ?_
  rw [rounds_succ]
  go_wp2
  go_ret
  exact ⟨rfl, rfl⟩
/-- one element of an own row is turned at one cell -/
theorem own_turn {A : Type} {sz : Nat} {f : A → List Value} (hf : ∀ x, (f x).length = sz) {w : World} {g : Nat} {a : Option Addr} {cap : Nat} {l : List A} {i r : Nat} {u : Value} (h : OwnRow sz f w g a cap l) (hi : i < l.length) (p : A) (hr : r < sz) (hc : ∀ r' v, (f p)[r']? = some v → (r' = r ∧ v = u) ∨ (r' ≠ r ∧ (f l[i])[r']? = some v)) : OwnRow sz f (w.setCell ⟨g, i * sz + r, none⟩ u) g a cap (l.set i p) := by
  refine h.set hf hi hr (by simp) (fun k hk hk' r' v hv => ?_)
  by_cases e : i = k
  · subst e
    simp only [List.getElem_set_self] at hv
    rcases hc r' v hv with ⟨h1, h2⟩ | ⟨h1, h2⟩
    · exact .inl ⟨rfl, h1, h2⟩
    · exact .inr ⟨fun q => h1 q.2, h2⟩
  · rw [List.getElem_set_ne e] at hv
    exact .inr ⟨fun q => e q.1.symm, hv⟩
/-- a peer that is marked -/
def mkP (q : Int) (i : Nat) : Pr := ⟨q + 3 * (i : Int), none, 0, ⟨[], q + 3 * (i : Int) + 1, q + 3 * (i : Int) + 2⟩⟩
def pmix (q : Int) (l : List Pr) (k : Nat) : List Pr := l.mapIdx (fun i p => if i < k then mkP q i else p)
theorem pmix_len (q : Int) (l : List Pr) (k : Nat) : (pmix q l k).length = l.length := by simp [pmix]
theorem pmix_zero (q : Int) (l : List Pr) : pmix q l 0 = l := by
  apply List.ext_getElem
  · simp [pmix]
  · intro i h1 h2
    simp [pmix]
theorem pmix_step (q : Int) (l : List Pr) (k : Nat) (hk : k < l.length) : (pmix q l k).set k (mkP q k) = pmix q l (k + 1) := by
  apply List.ext_getElem
  · simp [pmix]
  · intro i h1 h2
    rw [List.getElem_set]
    simp only [pmix, List.getElem_mapIdx]
    by_cases e : k = i
    · subst e; simp
    · rw [if_neg e]
      by_cases e2 : i < k
      · rw [if_pos e2, if_pos (by omega)]
      · rw [if_neg e2, if_neg (by omega)]
theorem pmix_at (q : Int) (l : List Pr) (k : Nat) (hk : k < l.length) (hk' : k < (pmix q l k).length) : (pmix q l k)[k] = l[k] := by simp [pmix]
/-- only one block is turned -/
def MarkP (q : Int) (l : List Pr) (g : Nat) (a : Option Addr) (cap : Nat) (w : World) (e : Ending) (w' : World) : Prop := e = .returned (.int .i64 (q + 3 * (l.length : Int))) ∧ Turned g w w' ∧ OwnRow 4 prCells w' g a cap (pmix q l l.length)
theorem pmark {q : Int} {l : List Pr} {k g : Nat} {a : Option Addr} {cap : Nat} {x : World} (h : OwnRow 4 prCells x g a cap (pmix q l k)) (hk : k < l.length) (he : l[k].a = none ∧ l[k].cap = 0 ∧ l[k].E.out = []) :
    OwnRow 4 prCells (((x.setCell ⟨g, k * 4, none⟩ (.int .i64 (q + 3 * (k : Int)))).setCell ⟨g, k * 4 + 2, none⟩ (.int .i64 (q + 3 * (k : Int) + 1))).setCell ⟨g, k * 4 + 3, none⟩ (.int .i64 (q + 3 * (k : Int) + 2))) g a cap (pmix q l (k + 1)) := by
  have hlp : k < (pmix q l k).length := by rw [pmix_len]; exact hk
  have e0 := pmix_at q l k hk hlp
  obtain ⟨ea, ec, eo⟩ := he
  have h1 := own_turn prLen h hlp (r := 0) (u := .int .i64 (q + 3 * (k : Int))) ⟨q + 3 * (k : Int), none, 0, ⟨[], l[k].E.sent, l[k].E.got⟩⟩ (by decide) (fun r v hv => by
    rw [e0]
    match r, hv with
    | 0, hv => simp [prCells] at hv; exact .inl ⟨rfl, hv.symm⟩
    | 1, hv => simp [prCells] at hv; exact .inr ⟨by omega, by simp [prCells, ea, ec, eo, hv]⟩
    | 2, hv => simp [prCells] at hv; exact .inr ⟨by omega, by simp [prCells, hv]⟩
    | 3, hv => simp [prCells] at hv; exact .inr ⟨by omega, by simp [prCells, hv]⟩)
  have h2 := own_turn prLen h1 (by simpa using hlp) (r := 2) (u := .int .i64 (q + 3 * (k : Int) + 1)) ⟨q + 3 * (k : Int), none, 0, ⟨[], q + 3 * (k : Int) + 1, l[k].E.got⟩⟩ (by decide) (fun r v hv => by
    rw [List.getElem_set_self]
    match r, hv with
    | 0, hv => simp [prCells] at hv; exact .inr ⟨by omega, by simp [prCells, hv]⟩
    | 1, hv => simp [prCells] at hv; exact .inr ⟨by omega, by simp [prCells, hv]⟩
    | 2, hv => simp [prCells] at hv; exact .inl ⟨rfl, hv.symm⟩
    | 3, hv => simp [prCells] at hv; exact .inr ⟨by omega, by simp [prCells, hv]⟩)
  have h3 := own_turn prLen h2 (by simpa using hlp) (r := 3) (u := .int .i64 (q + 3 * (k : Int) + 2)) (mkP q k) (by decide) (fun r v hv => by
    rw [List.getElem_set_self]
    match r, hv with
    | 0, hv => simp [prCells, mkP] at hv; exact .inr ⟨by omega, by simp [prCells, hv]⟩
    | 1, hv => simp [prCells, mkP] at hv; exact .inr ⟨by omega, by simp [prCells, hv]⟩
    | 2, hv => simp [prCells, mkP] at hv; exact .inr ⟨by omega, by simp [prCells, hv]⟩
    | 3, hv => simp [prCells, mkP] at hv; exact .inl ⟨rfl, hv.symm⟩)
  simp only [List.set_set] at h3
  rw [pmix_step q l k hk] at h3
  exact h3
set_option maxRecDepth 100000 in
set_option maxHeartbeats 4000000 in
theorem markPeerS_any (a : Option Addr) (l : List Pr) (cap g : Nat) (q : Int) (w : World) (hn : l.length ≤ 1048576) (hq : 0 ≤ q ∧ q ≤ 1000) (he : ∀ p ∈ l, p.a = none ∧ p.cap = 0 ∧ p.E.out = []) (h : OwnRow 4 prCells w g a cap l) :
    Calls Try.prog 34 #[.slice a l.length cap, .int .i64 q] w fun e w' => MarkP q l g a cap w e w' := by
  have HL : Hid _ := hide h
  have HE : Hid _ := hide he
  clear h he
  obtain ⟨q0, q1⟩ := hq
  have HO : Hid (OwnRow 4 prCells w g a cap (pmix q l 0)) := hide (by rw [pmix_zero]; exact HL.out)
  go_enter Try.func34, Try.ntmps34
  go_wp2
  go_loopw [1, 5] (fun s i wr => ∃ k : Nat, k ≤ l.length ∧ i = .int .i64 (k : Int) ∧ s = .int .i64 (q + 3 * (k : Int)) ∧ Hid (Turned g w wr) ∧ Hid (OwnRow 4 prCells wr g a cap (pmix q l k))) (fun s i wr => l.length - (intOf i).toNat)
  case atStart => exact ⟨0, Nat.zero_le _, rfl, by simp, hide (Turned.refl _ _), HO⟩
  case round =>
    obtain ⟨k, hk, rfl, rfl, HT, HM⟩ := hrel
    clear HO
    by_cases hlt : k < l.length
    · have hlt' : (k : Int) < (l.length : Int) := by omega
      have hlp : k < (pmix q l k).length := by rw [pmix_len]; exact hlt
      obtain ⟨rfl, hfz⟩ := HM.out.own (by omega)
      obtain ⟨ea, ec, eo⟩ := HE.out l[k] (List.getElem_mem hlt)
      obtain ⟨b2, off2, e2, hb2, d0, d1, d2, d3⟩ := pr_row HM.out.rows k hlp
      simp only [Option.some.injEq, Addr.mk.injEq, and_true] at e2
      obtain ⟨rfl, rfl⟩ := e2
      rw [pmix_at q l k hlt hlp] at d0 d1 d2 d3
      rw [ea, ec, eo] at d1
      simp only [Nat.zero_add, List.length_nil] at d0 d1 d2 d3
      have z0 := hfz (k * 4)
      have z2 := hfz (k * 4 + 2)
      have z3 := hfz (k * 4 + 3)
      clear hfz
      have HT2 : Hid _ := hide (((HT.out.setCell (o := k * 4) (.int .i64 (q + 3 * (k : Int)))).setCell (o := k * 4 + 2) (.int .i64 (q + 3 * (k : Int) + 1))).setCell (o := k * 4 + 3) (.int .i64 (q + 3 * (k : Int) + 2)))
      have HP : Hid _ := hide (pmark HM.out hlt ⟨ea, ec, eo⟩)
      have e2 : q + 3 * (k : Int) + 1 + 1 = q + 3 * (k : Int) + 2 := by omega
      have e3 : q + 3 * (k : Int) + 2 + 1 = q + 3 * ((k + 1 : Nat) : Int) := by omega
      clear HM HT ea ec eo
      go_wp2_with fail
      refine (markParcelS_none _ _).mono ?_
      rintro e w1 ⟨rfl, rfl⟩
      go_wp2
      exact ⟨⟨k + 1, by omega, by go_num, by go_num, HT2, HP⟩, by simp [intOf]; omega⟩
    · have hk' : ¬ (k : Int) < (l.length : Int) := by omega
      have HF : Hid (MarkP q l g a cap w (.returned (.int .i64 (q + 3 * (k : Int)))) wr) := hide (by
        have ek : k = l.length := by omega
        subst ek
        exact ⟨rfl, HT.out, HM.out⟩)
      go_wp2
      go_ret
      exact HF.out
theorem pmix_done (q : Int) (l : List Pr) (i : Nat) (h : i < l.length) (h' : i < (pmix q l l.length).length) : (pmix q l l.length)[i] = mkP q i := by simp [pmix, h]
set_option maxRecDepth 100000 in
set_option maxHeartbeats 4000000 in
theorem heldPeerS_any (a : Option Addr) (l : List Pr) (cap : Nat) (q : Int) (w : World) (hn : l.length ≤ 1048576) (hq : 0 ≤ q ∧ q ≤ 1000) (h : RowAt 4 prCells w a (pmix q l l.length)) :
    Calls Try.prog 36 #[.slice a l.length cap, .int .i64 q] w fun e w' => e = .returned (.int .i64 (q + 3 * (l.length : Int))) ∧ w' = w := by
  have HL : Hid _ := hide h
  clear h
  obtain ⟨q0, q1⟩ := hq
  go_enter Try.func36, Try.ntmps36
  go_wp2
  go_loop [1, 5] (fun s i => ∃ k : Nat, k ≤ l.length ∧ i = .int .i64 (k : Int) ∧ s = .int .i64 (q + 3 * (k : Int))) (fun s i => l.length - (intOf i).toNat)
  case atStart => exact ⟨0, Nat.zero_le _, rfl, by simp⟩
  case round =>
    obtain ⟨k, hk, rfl, rfl⟩ := hrel
    by_cases hlt : k < l.length
    · have hlt' : (k : Int) < (l.length : Int) := by omega
      have hlp : k < (pmix q l l.length).length := by rw [pmix_len]; exact hlt
      obtain ⟨b, off, rfl, hb, d0, d1, d2, d3⟩ := pr_row HL.out k hlp
      rw [pmix_done q l k hlt hlp] at d0 d1 d2 d3
      simp only [mkP, List.length_nil] at d0 d1 d2 d3
      have e2 : q + 3 * (k : Int) + 1 + 1 = q + 3 * (k : Int) + 2 := by omega
      have e3 : q + 3 * (k : Int) + 2 + 1 = q + 3 * ((k + 1 : Nat) : Int) := by omega
      have e4 : ¬ q + 3 * (k : Int) + 1 < 0 := by omega
      go_wp2_with fail
      refine (heldParcelS_none _ _).mono ?_
      rintro e w1 ⟨rfl, rfl⟩
      go_wp2
      exact ⟨⟨k + 1, by omega, by go_num, by go_num⟩, by simp [intOf]; omega⟩
    · have hk' : ¬ (k : Int) < (l.length : Int) := by omega
      have HE : Hid (k = l.length) := hide (by omega)
      go_wp2
      go_ret
      exact ⟨by rw [HE.out]; rfl, rfl⟩
end Go.Proofs.Ythlnfomhbnpcoaa
