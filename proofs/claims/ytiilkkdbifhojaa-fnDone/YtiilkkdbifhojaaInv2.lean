/- Laws for a region by what holds whatever has come up: calls, appends, what is ready. -/
import Derived.Test.YtiilkkdbifhojaaInv
import Derived.Deep.AppendLies
import Derived.Laws.OwnMore
namespace Go.Proofs.Ytiilkkdbifhojaa
open Go.ChangeShapes Go.WideShapes Go.ChangeAt Go.RowKit
set_option linter.unusedVariables false
theorem ready_on {md : Region.Mode} {ops : Array Oper} {L : Array Bool} {i : Nat} (hi : i ∈ Region.ready md ops L) (k : Nat) (hk : ((ops[i]?).map fun o => o.after.any fun e => Region.binds md e && e.on == k) = some true) : L.getD k false = true := by
  obtain ⟨_, o, ho, hd⟩ := mem_ready.1 hi
  rw [ho] at hk
  simp only [Option.map_some, Option.some.injEq, Array.any_eq_true] at hk
  obtain ⟨j, hj, he⟩ := hk
  simp only [Bool.and_eq_true, beq_iff_eq] at he
  have := hd o.after[j] (Array.getElem_mem hj) he.1
  rwa [he.2] at this
theorem exec_append {P : Program} {w w' : World} {o : Oper} {ev : Operand → Value} {s x : Operand} {t : TypeId} {v u v' : Value} (hop : o.op = Op.call { callee := Callee.builtin Builtin.append, args := #[s, x], argTypes := #[t, t] }) (hs : ev s = v) (hx : ev x = u) (hr : (Builtin.append_ #[t, t] o.type #[v, u]).run P w = .ok v' w') : (execOp ev o).run P w = .ok (.value v') w' := by
  unfold execOp
  simp only [hop, resolve, invoke, builtin, Sem.run_bind, Sem.run_pure, Result.andThen_ok, List.map_toArray, List.map_cons, List.map_nil, hs, hx, hr]
theorem news2 {x : World} {g : Nat} {v0 v1 : Value} (c0 : x.cell? ⟨g, 0, none⟩ = some v0) (c1 : x.cell? ⟨g, 1, none⟩ = some v1) (j : Nat) (u : Value) (hj : [v0, v1][j]? = some u) : x.cell? ((⟨g, 0, none⟩ : Addr).add j) = some u := by
  rw [addr_add]
  match j, hj with
  | 0, hj => simp at hj; rw [← hj]; exact c0
  | 1, hj => simp at hj; rw [← hj]; exact c1
theorem ready_all {md : Region.Mode} {ops : Array Oper} {L : Array Bool} (h : Region.ready md ops L = []) (hs : L.size = ops.size) (ha : ∀ i (hi : i < ops.size), ∀ e ∈ ops[i].after, Region.binds md e = true → e.on < i) : ∀ i, i < ops.size → L.getD i false = true := by
  intro i
  induction i using Nat.strongRecOn with
  | ind i ih =>
    intro hi
    cases hL : L.getD i true with
    | false =>
      have : i ∈ Region.ready md ops L := mem_ready.2 ⟨hL, ops[i], by simp [hi], fun e he hb => ih _ (ha i hi e he hb) (Nat.lt_trans (ha i hi e he hb) hi)⟩
      rw [h] at this
      cases this
    | true =>
      have hi' : i < L.size := by omega
      simpa [hi'] using hL
theorem grown_set (w : World) (g j : Nat) (v : Value) : w.grownBy (w.setCell ⟨g, j, none⟩ v) (some g) := ⟨rfl, rfl, rfl, by simp [World.setCell], fun k hk hne => Below.heap_setCell _ _ _ _ (fun e => hne (by rw [e]))⟩
theorem own_ne {w : World} {base : Nat} {e : TypeId} {size : Nat} {v : Value} {n : Nat} {xs : List Value} (h : w.ownsRow base e size v n xs) : v.ownBlock ≠ some w.heap.size := fun hk => by
  have := (h.lt _ hk).2
  omega
theorem own_lie {v v' : Value} {m g : Nat} (h : v'.ownBlock = v.ownBlock ∨ v'.ownBlock = some m) (h1 : v.ownBlock ≠ some g) (h2 : g < m) : v'.ownBlock ≠ some g := fun hk => by
  rcases h with h | h
  · exact h1 (h ▸ hk)
  · rw [h] at hk
    simp only [Option.some.injEq] at hk
    omega
theorem wpOp_call {P : Program} {ops : Array Oper} {Q : Exit → Act → World → Prop} {i : Nat} {o : Oper} {a : Act} {w : World} {K : Act → World → Prop} {f : FuncId} {args : Array Value} {R : Ending → World → Prop} (hi : ops[i]? = some o) (hg : o.guard = none) (hr : (execOp a.eval o).run P w = .ok (.enter f args) w) (hc : Calls P f args w R) (hK : ∀ e w', R e w' → ∃ v, e = .returned v ∧ K (a.put o.dst v) w') : wpOp P ops Q i K a w := by
  unfold wpOp
  have hw : Region.wanted o (yielded ops a.tmps) = true := by simp [Region.wanted, hg]
  simp only [hi, hw, if_true]
  refine .inl ?_
  unfold Oper.wp
  rw [hr, Oper.upon_enter]
  refine hc.mono fun e w' he => ?_
  obtain ⟨v, rfl, hv⟩ := hK e w' he
  exact hv
theorem run_append_any {P : Program} {w : World} (base : Nat) (t ty e : TypeId) (i : TypeInfo) (z : Value) (size bytes : Nat) (ht : P.underlying t = some (.slice e)) (hi : P.info? e = some i) (hz : i.zero = some z)
    (hsize : i.size = size) (hby : i.bytes = bytes) (hzs : z.cells.size = size) (hsz : 0 < size)
    (v : Value) (n : Nat) (xs : List Value) (hown : w.ownsRow base e size v n xs)
    (ao : Option Addr) (m c : Nat) (news : List Value) (hl : news.length = m * size) (hnone : ao = none → m = 0 ∧ c = 0) (hnews : ∀ a, ao = some a → ∀ j u, news[j]? = some u → w.cell? (a.add j) = some u) (h1 : ∀ u ∈ news, u.oneCell' = true)
    (h63 : n + m ≤ maxLen) (hbytes : (n + m) * bytes ≤ 140737488355328) (hbase : base ≤ w.heap.size) :
    ∃ v' w', (Builtin.append_ #[t, t] ty #[v, .slice ao m c]).run P w = .ok v' w' ∧ w'.ownsRow base e size v' (n + m) (xs ++ news) ∧ w.grownBy w' v.ownBlock ∧ (v'.ownBlock = v.ownBlock ∨ v'.ownBlock = some w.heap.size) := by
  cases ao with
  | some a =>
    obtain ⟨v', w', r1, r2, r3, _, r5⟩ := run_append_own_at (P := P) (w := w) base t ty e i z size bytes ht hi hz hsize hby hzs hsz v n xs hown a m c news hl (hnews a rfl) h1 h63 hbytes hbase
    exact ⟨v', w', r1, r2, r3, r5⟩
  | none =>
    obtain ⟨rfl, rfl⟩ := hnone rfl
    have hn : news = [] := List.eq_nil_of_length_eq_zero (by simpa using hl)
    subst hn
    exact ⟨v, w, run_append_owned_none (P := P) (w := w) base t ty e i size ht hi v n xs hown, by simpa using hown, World.grownBy.refl _ _, .inl rfl⟩
theorem RowAt.news_any {A : Type} {sz : Nat} {f : A → List Value} (hf : ∀ x, (f x).length = sz) (h0 : 0 < sz) {w : World} {a : Option Addr} {l : List A} (h : RowAt sz f w a l) : ∀ ad, a = some ad → ∀ j u, (l.flatMap f)[j]? = some u → w.cell? (ad.add j) = some u := by
  intro ad had j u hj
  subst had
  cases l with
  | nil => simp at hj
  | cons x t =>
    obtain ⟨b, off, e, _⟩ := h 0 (by simp)
    simp only [Option.some.injEq] at e
    subst e
    exact h.news hf h0 j u hj
theorem row_none {A : Type} {sz : Nat} {f : A → List Value} {w : World} {a : Option Addr} {l : List A} (h : RowAt sz f w a l) (ha : a = none) : l.length = 0 := by
  cases l with
  | nil => rfl
  | cons x t =>
    obtain ⟨b, off, e, _⟩ := h 0 (by simp)
    rw [ha] at e
    cases e
end Go.Proofs.Ytiilkkdbifhojaa
