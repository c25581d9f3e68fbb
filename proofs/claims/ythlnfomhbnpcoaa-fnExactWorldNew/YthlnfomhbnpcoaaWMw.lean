/- Marks in a new world, and how a new world's rows lie. -/
import Derived.Test.YthlnfomhbnpcoaaWMn
namespace Go.Proofs.Ythlnfomhbnpcoaa
open Go.ChangeShapes Go.WideShapes Go.ChangeAt Go.RowKit
set_option linter.unusedVariables false
structure Plc (L : List Nd) (G : Nat) (gs : Nat → Nat) (w : World) : Prop where
  n : L.length ≤ 8
  p8 : ∀ n ∈ L, n.peers.length ≤ 8
  emp : ∀ n ∈ L, Emp n
  far : ∀ i, gs i ≠ G
  inj : ∀ i j, i ≠ j → gs i ≠ gs j
set_option maxRecDepth 100000 in
set_option maxHeartbeats 4000000 in
theorem markWorld_any (st : Int) (a : Option Addr) (L : List Nd) (cap G : Nat) (gs : Nat → Nat) (w : World) (hp : Plc L G gs w) (hG : w.heap.size ≠ G) (hgs : ∀ i, w.heap.size ≠ gs i) (h : OwnW G a cap gs L w) :
    Calls Try.prog 11 #[.agg #[.int .i64 st, .slice a L.length cap, .slice none 0 0], .int .i64 1] w fun e w' => e = .returned (.int .i64 (qn 1 L L.length)) ∧ Trn G gs (w.alloc (.cells #[.int .i64 st, .slice a L.length cap, .slice none 0 0] 27)) w' ∧ OwnW G a cap gs (nmix 1 L L.length) w' := by
  have HP : Hid _ := hide hp
  have HO : Hid _ := hide h
  have HG : Hid _ := hide (And.intro hG hgs)
  clear hp h hG hgs
  obtain ⟨v, HV⟩ : ∃ v, Hid (w.alloc (.cells #[.int .i64 st, .slice a L.length cap, .slice none 0 0] 27) = v) := ⟨_, hide rfl⟩
  have HVB : Hid (Below w.heap.size w v) := hide (by rw [← HV.out]; exact below_alloc (Below.refl _ _) _)
  have v1 : v.cell? ⟨w.heap.size, 1, none⟩ = some (.slice a L.length cap) := by rw [← HV.out]; exact World.cell?_alloc_at _ _ _ _ rfl
  have v2 : v.cell? ⟨w.heap.size, 2, none⟩ = some (.slice none 0 0) := by rw [← HV.out]; exact World.cell?_alloc_at _ _ _ _ rfl
  go_enter Try.func11, Try.ntmps11
  go_wp2_with fail
  rw [HV.out]
  refine (markNodeS_any a L cap G gs 1 v HP.out.n (by omega) HP.out.p8 HP.out.emp HP.out.far HP.out.inj (HO.out.below HVB.out)).mono ?_
  rintro e y ⟨rfl, ty, oy⟩
  have y2 : y.cell? ⟨w.heap.size, 2, none⟩ = some (.slice none 0 0) := (World.cell?_of_block (ty.block _ HG.out.1 HG.out.2)).trans v2
  have HT : Hid _ := hide (And.intro ty oy)
  clear ty oy v1 v2
  obtain ⟨Q, HQ⟩ : ∃ Q, Hid (qn 1 L L.length = Q) := ⟨_, hide rfl⟩
  rw [HQ.out]
  go_wp2_with fail
  refine (markMsgS_none _ _).mono ?_
  rintro e z ⟨rfl, rfl⟩
  go_wp2
  go_ret
  exact ⟨by rw [HQ.out]; rfl, by rw [HV.out]; exact HT.out.1, HT.out.2⟩
set_option maxRecDepth 100000 in
set_option maxHeartbeats 4000000 in
theorem heldWorld_any (st : Int) (a : Option Addr) (L : List Nd) (cap G : Nat) (gs : Nat → Nat) (w : World) (hp : Plc L G gs w) (h : OwnW G a cap gs (nmix 1 L L.length) w) :
    Calls Try.prog 12 #[.agg #[.int .i64 st, .slice a L.length cap, .slice none 0 0], .int .i64 1] w fun e w' => e = .returned (.int .i64 (qn 1 L L.length)) ∧ Below w.heap.size w w' := by
  have HP : Hid _ := hide hp
  have HO : Hid _ := hide h
  clear hp h
  obtain ⟨v, HV⟩ : ∃ v, Hid (w.alloc (.cells #[.int .i64 st, .slice a L.length cap, .slice none 0 0] 27) = v) := ⟨_, hide rfl⟩
  have HVB : Hid (Below w.heap.size w v) := hide (by rw [← HV.out]; exact below_alloc (Below.refl _ _) _)
  have v1 : v.cell? ⟨w.heap.size, 1, none⟩ = some (.slice a L.length cap) := by rw [← HV.out]; exact World.cell?_alloc_at _ _ _ _ rfl
  have v2 : v.cell? ⟨w.heap.size, 2, none⟩ = some (.slice none 0 0) := by rw [← HV.out]; exact World.cell?_alloc_at _ _ _ _ rfl
  have hqb := (qn_bd 1 L HP.out.p8 L.length (Nat.le_refl _)).1
  go_enter Try.func12, Try.ntmps12
  go_wp2_with fail
  rw [HV.out]
  refine (heldNodeS_any a L cap G gs 1 v HP.out.n (by omega) HP.out.p8 (HO.out.below HVB.out)).mono ?_
  rintro e y ⟨rfl, rfl⟩
  obtain ⟨Q, HQ⟩ : ∃ Q, Hid (qn 1 L L.length = Q) := ⟨_, hide rfl⟩
  rw [HQ.out]
  rw [HQ.out] at hqb
  have hQ : ¬ Q < 0 := by omega
  go_wp2_with fail
  refine (heldMsgS_none _ _).mono ?_
  rintro e z ⟨rfl, rfl⟩
  go_wp2
  go_ret
  exact ⟨by rw [HQ.out]; rfl, HVB.out⟩
theorem own_at {A : Type} {sz : Nat} {f : A → List Value} (hf : ∀ x, (f x).length = sz) {w : World} {base : Nat} {e : TypeId} {a : Option Addr} {n cap : Nat} {l : List A} (h : w.ownsRow base e sz (.slice a n cap) l.length (l.flatMap f)) (g : Nat) (hg : ∀ b, Value.ownBlock (.slice a n cap) = some b → g = b) : n = l.length ∧ OwnRow sz f w g a cap l := by
  obtain ⟨g2, a2, cap2, hb, e2, ho⟩ := own_of_row hf h
  injection e2 with e3 e4 e5
  subst e3 e4 e5
  refine ⟨rfl, ?_⟩
  cases l with
  | nil => exact ⟨fun i hi => by simp at hi, fun h0 => by simp at h0, Nat.zero_le _⟩
  | cons p t =>
    have ea := (ho.own (by simp)).1
    have : g = g2 := hg g2 (by rw [ea]; rfl)
    subst this
    exact ho
def gOf (M : Nat) (v : Value) : Nat := match v.ownBlock with
  | some b => b
  | none => M
def gsOf (M : Nat) (L : List Nd) (i : Nat) : Nat := match L[i]? with
  | some n => gOf (M + 1 + i) n.pv
  | none => M + 1 + i
theorem gOf_some {M : Nat} {v : Value} {b : Nat} (h : v.ownBlock = some b) : gOf M v = b := by simp [gOf, h]
theorem gOf_none {M : Nat} {v : Value} (h : v.ownBlock = none) : gOf M v = M := by simp [gOf, h]
/-- a new world's rows: how they lie -/
theorem own_of_fst {base : Nat} {l : List Slt} {k : Nat} {v : Value} {L : List Nd} {x : World} (h : Fst base l k v L x) : ∃ G a cap gs, v = .slice a L.length cap ∧ OwnW G a cap gs L x ∧ base ≤ G ∧ (∀ i, base ≤ gs i) ∧ (∀ i, gs i ≠ G) ∧ (∀ i j, i ≠ j → gs i ≠ gs j) ∧ x.heap.size ≠ G ∧ (∀ i, x.heap.size ≠ gs i) ∧ (∀ c, c ≤ x.heap.size → (∀ b, v.ownBlock = some b → b ≠ c) → c ≠ G) ∧ ∀ c, c ≤ x.heap.size → (∀ i (h : i < L.length) b, L[i].pv.ownBlock = some b → b ≠ c) → ∀ i, c ≠ gs i := by
  obtain ⟨a, cap, rfl⟩ := row_shape h.row
  obtain ⟨M, hM⟩ : ∃ M, M = x.heap.size + base + 1 := ⟨_, rfl⟩
  -- where a row of peers lies: its block, or a number beyond all
  have key : ∀ i, (∃ (hi : i < L.length) (b : Nat), L[i].pv.ownBlock = some b ∧ gsOf M L i = b ∧ base ≤ b ∧ b < x.heap.size) ∨ gsOf M L i = M + 1 + i := by
    intro i
    by_cases hi : i < L.length
    · have e1 : gsOf M L i = gOf (M + 1 + i) L[i].pv := by simp [gsOf, hi]
      cases hb : L[i].pv.ownBlock with
      | none => exact .inr (by rw [e1, gOf_none hb])
      | some b => exact .inl ⟨hi, b, hb, by rw [e1, gOf_some hb], ((h.prs i hi).lt b hb).1, ((h.prs i hi).lt b hb).2⟩
    · exact .inr (by simp [gsOf, hi])
  have keyG : (∃ b, Value.ownBlock (.slice a L.length cap) = some b ∧ gOf M (.slice a L.length cap) = b ∧ base ≤ b ∧ b < x.heap.size) ∨ gOf M (.slice a L.length cap) = M := by
    cases hb : Value.ownBlock (.slice a L.length cap) with
    | none => exact .inr (gOf_none hb)
    | some b => exact .inl ⟨b, rfl, gOf_some hb, (h.row.lt b hb).1, (h.row.lt b hb).2⟩
  refine ⟨gOf M (.slice a L.length cap), a, cap, gsOf M L, rfl, ⟨(own_at ndLen h.row _ (fun b hb => gOf_some hb)).2, fun i hi => ?_⟩, ?_, fun i => ?_, fun i => ?_, fun i j hij => ?_, ?_, fun i => ?_, fun c hc hne => ?_, fun c hc hne i => ?_⟩
  · have := (own_at prLen (h.prs i hi) (gsOf M L i) (fun b hb => by
      have e1 : gsOf M L i = gOf (M + 1 + i) L[i].pv := by simp [gsOf, hi]
      rw [e1]; exact gOf_some hb)).2
    exact this
  · rcases keyG with ⟨b, _, e, h1, h2⟩ | e <;> omega
  · rcases key i with ⟨_, b, _, e, h1, h2⟩ | e <;> omega
  · rcases key i with ⟨hi, b, hb, e, h1, h2⟩ | e
    · rcases keyG with ⟨b2, hb2, e2, h3, h4⟩ | e2
      · rcases h.ap i hi with q | q
        · rw [q] at hb; cases hb
        · rw [e, e2]
          intro e3
          exact q (by rw [hb, hb2, e3])
      · omega
    · rcases keyG with ⟨b2, hb2, e2, h3, h4⟩ | e2 <;> omega
  · rcases key i with ⟨hi, b, hb, e, h1, h2⟩ | e
    · rcases key j with ⟨hj, b2, hb2, e2, h3, h4⟩ | e2
      · rcases h.ap2 i j hi hj hij with q | q
        · rw [q] at hb; cases hb
        · rw [e, e2]
          intro e3
          exact q (by rw [hb, hb2, e3])
      · omega
    · rcases key j with ⟨hj, b2, hb2, e2, h3, h4⟩ | e2 <;> omega
  · rcases keyG with ⟨b, _, e, h1, h2⟩ | e <;> omega
  · rcases key i with ⟨_, b, _, e, h1, h2⟩ | e <;> omega
  · rcases keyG with ⟨b, hb, e, h1, h2⟩ | e
    · have := hne b hb
      omega
    · omega
  · rcases key i with ⟨hi, b, hb, e, h1, h2⟩ | e
    · have := hne i hi b hb
      omega
    · omega
/-- and how they are read -/
theorem nodes_of_own {G : Nat} {a : Option Addr} {cap : Nat} {gs : Nat → Nat} {L : List Nd} {x : World} (h : OwnW G a cap gs L x) (he : ∀ n ∈ L, Emp n) : NodesAt x a L := by
  refine ⟨h.row.rows, fun n hn => ?_⟩
  obtain ⟨i, hi, rfl⟩ := List.getElem_of_mem hn
  obtain ⟨e1, e2, e3, e4⟩ := he _ (List.getElem_mem hi)
  refine ⟨by rw [e3]; exact RowAt.nil, (h.prs i hi).rows, fun p hp => ?_⟩
  rw [(e4 p hp).2.2]
  exact RowAt.nil
theorem emp_of_fst {base : Nat} {l : List Slt} {k : Nat} {v : Value} {L : List Nd} {x : World} (h : Fst base l k v L x) (hk : k ≤ l.length) (h8 : l.length ≤ 8) : L.length ≤ 8 ∧ (∀ n ∈ L, n.peers.length ≤ 8) ∧ ∀ n ∈ L, Emp n := by
  have ln := h.len
  have all : ∀ n ∈ L, ∃ (s : Slt) (pa : Option Addr) (pc : Nat), n = mkN l s pa pc := fun n hn => by
    obtain ⟨i, hi, rfl⟩ := List.getElem_of_mem hn
    obtain ⟨pa, pc, e⟩ := h.is i hi (by omega)
    exact ⟨_, pa, pc, e⟩
  refine ⟨by omega, fun n hn => ?_, fun n hn => ?_⟩
  · obtain ⟨s, pa, pc, rfl⟩ := all n hn
    exact Nat.le_trans (peersL_len l s) h8
  · obtain ⟨s, pa, pc, rfl⟩ := all n hn
    refine ⟨rfl, rfl, rfl, fun p hp => ?_⟩
    simp only [mkN, peersL, List.mem_map] at hp
    obtain ⟨o, _, rfl⟩ := hp
    exact ⟨rfl, rfl, rfl⟩
/-- two new worlds of the same slots have the same nodes -/
theorem fst_same {base base' : Nat} {l : List Slt} {v v' : Value} {L L' : List Nd} {x y : World} (h : Fst base l l.length v L x) (h' : Fst base' l l.length v' L' y) : L'.map Nd.d = L.map Nd.d := by
  apply List.ext_getElem
  · simp [h.len, h'.len]
  · intro i h1 h2
    simp only [List.length_map] at h1 h2
    obtain ⟨pa, pc, e⟩ := h.is i h2 (by have := h.len; omega)
    obtain ⟨pa', pc', e'⟩ := h'.is i h1 (by have := h.len; omega)
    simp only [List.getElem_map, e, e']
    rfl
end Go.Proofs.Ythlnfomhbnpcoaa
