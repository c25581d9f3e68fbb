/- What is read of a shelf, put on it, and taken away. -/
import Derived.Test.YtiilkkdbifhojaaDkL
namespace Go.Proofs.Ytiilkkdbifhojaa
open Go.ChangeShapes Go.WideShapes Go.ChangeAt Go.RowKit Go.Maps
set_option linter.unusedVariables false
theorem drewN_below (w : World) : ∀ k, Below w.heap.size w (w.drewN k)
  | 0 => Below.refl _ _
  | k + 1 => (drewN_below w k).drew
def b0 : Bd := ⟨none, 0, []⟩
theorem small_max {s : ByteArray} (h : s.size ≤ 4194304) : s.size ≤ maxLen := by unfold maxLen; omega
theorem has_of {l : List Fl} {β : ByteArray → Bd} {D : DataW Unit} (hat : ∀ f ∈ l, ∀ z, D.atKey (kn f.nm) z = (β f.nm).D) (honly : ∀ kl, Maps.has D kl = true → ∃ f ∈ l, kl = kn f.nm) (nm : ByteArray) : Maps.has D (kn nm) = hasN l nm := by
  cases e : hasN l nm with
  | true =>
    obtain ⟨f, hf, rfl⟩ := hasN_iff.1 e
    exact has_true_of_atKey (hat f hf)
  | false =>
    rw [Bool.eq_false_iff]
    intro q
    obtain ⟨f, hf, e2⟩ := honly _ q
    have := hasN_iff.2 ⟨f, hf, (kn_inj e2).symm⟩
    rw [e] at this
    cases this
theorem Shelf.look {base m N : Nat} {l : List Fl} {β : ByteArray → Bd} {w : World} (h : Shelf base m l β N w) {nm : ByteArray} (hn : nm.size ≤ 4194304) (ok : Bool) :
    ∀ k, (Instr.lookup 48 (.map (some m)) (.string nm) ok).run Try.prog (w.drewN k) = .ok (if ok then .tuple #[if hasN l nm then (β nm).V else b0.V, .bool (hasN l nm)] else if hasN l nm then (β nm).V else b0.V) (w.drewN k) := by
  intro k
  obtain ⟨D, n, hn', ho, hat, honly, hsz⟩ := h.map
  have hoN : (w.drewN k).ownsMap Try.prog 9 bdElem m n D := ho.kept (below_grownBy (drewN_below w k)) (by simp)
  have hh := has_of hat honly nm
  have key : ∀ v ps, bdElem v = some (D.atKey (kn nm) b0.D, ps) → v = if hasN l nm then (β nm).V else b0.V := fun v ps hv => by
    cases e : hasN l nm with
    | true =>
      obtain ⟨f, hf, rfl⟩ := hasN_iff.1 e
      rw [hat f hf] at hv
      exact bd_of hv
    | false =>
      rw [e] at hh
      rw [atKey_of_not_has hh] at hv
      exact bd_of hv
  cases ok with
  | true =>
    obtain ⟨v, ps, hrun, hv⟩ := hoN.look_ok law9 uM (zeroB _) b0.elem (kn_of (small_max hn))
    rw [hrun, key v ps hv, hh]
    rfl
  | false =>
    obtain ⟨v, ps, hrun, hv⟩ := hoN.lookup law9 uM (zeroB _) b0.elem (kn_of (small_max hn))
    rw [hrun, key v ps hv]
    rfl
def upd (β : ByteArray → Bd) (nm : ByteArray) (b : Bd) : ByteArray → Bd := fun s => if s = nm then b else β s
theorem upd_same (β : ByteArray → Bd) (nm : ByteArray) (b : Bd) : upd β nm b nm = b := by simp [upd]
theorem upd_other {β : ByteArray → Bd} {nm : ByteArray} {b : Bd} {s : ByteArray} (h : s ≠ nm) : upd β nm b s = β s := by simp [upd, h]
theorem Shelf.store {base m N : Nat} {l : List Fl} {β : ByteArray → Bd} {x : World} (h : Shelf base m l β N x) {nm da : ByteArray} (b : Bd) (hn : nm.size ≤ 4194304) (hN : N ≤ 1000000) (hrow : x.ownsRow base 9 1 b.v b.ps.length (strs b.ps)) (hcat : catL b.ps = da)
    (hap : ∀ f ∈ l, f.nm ≠ nm → Apt b.v (β f.nm).v ∧ Apt (β f.nm).v b.v) (hpc : b.ps.length ≤ N + 1) :
    ∃ y, (Instr.mapUpdate 48 (.map (some m)) (.string nm) b.V).run Try.prog x = .ok () y ∧ Shelf base m (putL l nm da) (upd β nm b) (N + 1) y ∧ x.grownBy y (some m) := by
  obtain ⟨D, n, hn', ho, hat, honly, hsz⟩ := h.map
  obtain ⟨y, hrun, ho2, hg⟩ := ho.update law9 uM (by unfold maxLen; omega) (kn_of (small_max hn)) b.elem
  have hh := has_of hat honly nm
  have kept : ∀ {v : Value} {k : Nat} {xs : List Value}, x.ownsRow base 9 1 v k xs → y.ownsRow base 9 1 v k xs := fun hr => hr.kept hg (.inr (own_not_map hr ho))
  refine ⟨y, hrun, ⟨⟨D.put (kn nm) b.D, n + 1, by omega, ho2, fun f hf z => ?_, fun kl hkl => ?_, ?_⟩, h.lo, fun f hf => ?_, fun f hf => ?_, fun f hf f' hf' hne => ?_, srt_putL h.srt nm da, fun f hf => ?_, fun f hf => ?_⟩, hg⟩
  · rcases (mem_putL h.srt).1 hf with rfl | ⟨hf, hne⟩
    · rw [upd_same]; exact atKey_put_same ho.isMap (kn_key _) _ z
    · rw [upd_other hne, atKey_put_other (fun e => hne (kn_inj e))]; exact hat f hf z
  · by_cases e : kl = kn nm
    · exact ⟨⟨nm, da⟩, (mem_putL h.srt).2 (.inl rfl), e⟩
    · rw [has_put_other e] at hkl
      obtain ⟨f, hf, rfl⟩ := honly kl hkl
      exact ⟨f, (mem_putL h.srt).2 (.inr ⟨hf, fun q => e (by rw [q])⟩), rfl⟩
  · rw [size_put (ho.tidy law9), hh, len_putL h.srt, hsz]
  · rcases (mem_putL h.srt).1 hf with rfl | ⟨hf, hne⟩
    · rw [upd_same]; exact kept hrow
    · rw [upd_other hne]; exact kept (h.rows f hf)
  · rcases (mem_putL h.srt).1 hf with rfl | ⟨hf, hne⟩
    · rw [upd_same]; exact hcat
    · rw [upd_other hne]; exact h.cat f hf
  · rcases (mem_putL h.srt).1 hf with rfl | ⟨hf, h1⟩
    · rcases (mem_putL h.srt).1 hf' with rfl | ⟨hf', h2⟩
      · exact absurd rfl hne
      · rw [upd_same, upd_other h2]; exact (hap f' hf' h2).1
    · rcases (mem_putL h.srt).1 hf' with rfl | ⟨hf', h2⟩
      · rw [upd_same, upd_other h1]; exact (hap f hf h1).2
      · rw [upd_other h1, upd_other h2]; exact h.apt f hf f' hf' hne
  · rcases (mem_putL h.srt).1 hf with rfl | ⟨hf, hne⟩
    · rw [upd_same]; exact hpc
    · rw [upd_other hne]; have := h.pcs f hf; omega
  · rcases (mem_putL h.srt).1 hf with rfl | ⟨hf, hne⟩
    · exact hn
    · exact h.nms f hf
theorem Shelf.drop {base m N : Nat} {l : List Fl} {β : ByteArray → Bd} {x : World} (h : Shelf base m l β N x) {nm : ByteArray} (hn : nm.size ≤ 4194304) (ty : TypeId) :
    ∃ y, (Builtin.delete_ #[48, 9] ty #[.map (some m), .string nm]).run Try.prog x = .ok (.tuple #[]) y ∧ Shelf base m (cutL l nm) β N y ∧ x.grownBy y (some m) ∧ (∀ {v : Value} {k : Nat} {xs : List Value}, x.ownsRow base 9 1 v k xs → y.ownsRow base 9 1 v k xs) := by
  obtain ⟨D, n, hn', ho, hat, honly, hsz⟩ := h.map
  obtain ⟨y, hrun, ho2, ht⟩ := ho.drop law9 uM (kn_of (small_max hn)) ty
  have hg := ht.grown
  have hh := has_of hat honly nm
  have kept : ∀ {v : Value} {k : Nat} {xs : List Value}, x.ownsRow base 9 1 v k xs → y.ownsRow base 9 1 v k xs := fun hr => hr.kept hg (.inr (own_not_map hr ho))
  refine ⟨y, hrun, ⟨⟨D.del (kn nm), n, hn', ho2, fun f hf z => ?_, fun kl hkl => ?_, ?_⟩, h.lo, fun f hf => kept (h.rows f (mem_cutL.1 hf).1), fun f hf => h.cat f (mem_cutL.1 hf).1, fun f hf f' hf' hne => h.apt f (mem_cutL.1 hf).1 f' (mem_cutL.1 hf').1 hne, srt_cutL h.srt nm, fun f hf => h.pcs f (mem_cutL.1 hf).1, fun f hf => h.nms f (mem_cutL.1 hf).1⟩, hg, kept⟩
  · obtain ⟨hf, hne⟩ := mem_cutL.1 hf
    rw [atKey_del_other (fun e => hne (kn_inj e))]; exact hat f hf z
  · by_cases e : kl = kn nm
    · rw [e, has_del_same] at hkl; cases hkl
    · rw [has_del_other e] at hkl
      obtain ⟨f, hf, rfl⟩ := honly kl hkl
      exact ⟨f, mem_cutL.2 ⟨hf, fun q => e (by rw [q])⟩, rfl⟩
  · have h1 := size_del (k := kn nm) (ho.tidy law9)
    have h2 := len_cutL h.srt nm
    rw [hh, hsz] at h1
    omega
end Go.Proofs.Ytiilkkdbifhojaa
