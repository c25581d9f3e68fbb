/- The contracts of the program's opOf at any op, and of what is done to a shelf. -/
import Derived.Test.YtiilkkdbifhojaaDkI5
namespace Go.Proofs.Ytiilkkdbifhojaa
open Go.ChangeShapes Go.WideShapes Go.ChangeAt Go.RowKit Go.Maps
set_option linter.unusedVariables false
set_option maxRecDepth 100000
theorem opOf_any (o : Dp) (w : World) (hs : SmO o) :
    Calls Try.prog 42 #[.agg #[.int .i64 o.kind, .string o.nm, .string o.tn, .string o.da]] w fun e w' => e = .returned (.tuple #[opV o, .bool (formB o)]) ∧ Below w.heap.size w w' := by
  obtain ⟨kind, nm, tn, da⟩ := o
  obtain ⟨s1, s2, s3⟩ := hs
  simp only at s1 s2 s3 ⊢
  by_cases k1 : kind = 1
  · subst k1
    have e1 : formB ⟨1, nm, tn, da⟩ = (nmB nm && emB tn) := by simp [formB, inB]
    rw [e1]
    exact opOf_app nm tn da w s1 s2
  · by_cases k2 : kind = 2
    · subst k2
      have e1 : formB ⟨2, nm, tn, da⟩ = ((nmB nm && nmB tn) && emB da) := by simp [formB, inB, Bool.and_assoc]
      rw [e1]
      exact opOf_ren nm tn da w s1 s2
    · by_cases k3 : kind = 3
      · subst k3
        have e1 : formB ⟨3, nm, tn, da⟩ = (nmB nm && (emB tn && emB da)) := by simp [formB, inB]
        rw [e1]
        exact opOf_rem nm tn da w s1 s2
      · have e1 : formB ⟨kind, nm, tn, da⟩ = false := by
          have : inB 1 3 kind = false := by simp [inB]; omega
          simp [formB, this]
        have e2 : opV ⟨kind, nm, tn, da⟩ = .nilIface := by simp [opV, k1, k2, k3]
        rw [e1, e2]
        have q1 : (kind == 1) = false := by simpa using k1
        have q2 : (kind == 2) = false := by simpa using k2
        have q3 : (kind == 3) = false := by simpa using k3
        clear e1 e2
        go_enter Try.func42, Try.ntmps42
        go_wp2
        exact bodyPost_ret (v := .tuple #[.nilIface, .bool false]) (by simp [results, Try.results42, go_sem]) rfl ⟨rfl, below_alloc (Below.refl _ _) _⟩
/-- a body that is put in a place, the rows of all other names as they were -/
theorem Shelf.put2 {base m N : Nat} {l : List Fl} {β : ByteArray → Bd} {x x2 : World} (h : Shelf base m l β N x) {nm da : ByteArray} (b : Bd) (hn : nm.size ≤ 4194304) (hN : N ≤ 1000000) (hmap : ∀ n D, x.ownsMap Try.prog 9 bdElem m n D → x2.ownsMap Try.prog 9 bdElem m n D) (hrows : ∀ f ∈ l, f.nm ≠ nm → x2.ownsRow base 9 1 (β f.nm).v (β f.nm).ps.length (strs (β f.nm).ps))
    (hrow : x2.ownsRow base 9 1 b.v b.ps.length (strs b.ps)) (hcat : catL b.ps = da) (hap : ∀ f ∈ l, f.nm ≠ nm → Apt b.v (β f.nm).v ∧ Apt (β f.nm).v b.v) (hpc : b.ps.length ≤ N + 1) :
    ∃ y, (Instr.mapUpdate 48 (.map (some m)) (.string nm) b.V).run Try.prog x2 = .ok () y ∧ Shelf base m (putL l nm da) (upd β nm b) (N + 1) y ∧ x2.grownBy y (some m) := by
  obtain ⟨D, n, hn', ho0, hat, honly, hsz⟩ := h.map
  have ho := hmap n D ho0
  obtain ⟨y, hrun, ho2, hg⟩ := ho.update law9 uM (by unfold maxLen; omega) (kn_of (small_max hn)) b.elem
  have hh := has_of hat honly nm
  have kept : ∀ {v : Value} {k : Nat} {xs : List Value}, x2.ownsRow base 9 1 v k xs → y.ownsRow base 9 1 v k xs := fun hr => hr.kept hg (.inr (own_not_map hr ho))
  refine ⟨y, hrun, ⟨⟨D.put (kn nm) b.D, n + 1, by omega, ho2, fun f hf z => ?_, fun kl hkl => ?_, ?_⟩, h.lo, fun f hf => ?_, fun f hf => ?_, fun f hf f' hf' hne => ?_, srt_putL h.srt nm da, fun f hf => ?_, fun f hf => ?_⟩, hg⟩
  · rcases (mem_putL h.srt).1 hf with rfl | ⟨hf, hne⟩
    · rw [upd_same]; exact atKey_put_same ho.isMap (kn_key _) _ z
    · rw [upd_other hne, atKey_put_other (fun e => hne (kn_inj e))]; exact hat f hf z
  · by_cases e : kl = kn nm
    · exact ⟨⟨nm, da⟩, (mem_putL h.srt).2 (.inl rfl), e⟩
    · rw [has_put_other e] at hkl
      obtain ⟨f, hf, rfl⟩ := honly kl hkl
      exact ⟨f, (mem_putL h.srt).2 (.inr ⟨hf, fun q => e (by rw [q])⟩), rfl⟩
  · rw [size_put (ho.tidy law9), hh, len_putL h.srt, hsz]
  · rcases (mem_putL h.srt).1 hf with rfl | ⟨hf, hne⟩
    · rw [upd_same]; exact kept hrow
    · rw [upd_other hne]; exact kept (hrows f hf hne)
  · rcases (mem_putL h.srt).1 hf with rfl | ⟨hf, hne⟩
    · rw [upd_same]; exact hcat
    · rw [upd_other hne]; exact h.cat f hf
  · rcases (mem_putL h.srt).1 hf with rfl | ⟨hf, h1⟩
    · rcases (mem_putL h.srt).1 hf' with rfl | ⟨hf', h2⟩
      · exact absurd rfl hne
      · rw [upd_same, upd_other h2]; exact (hap f' hf' h2).1
    · rcases (mem_putL h.srt).1 hf' with rfl | ⟨hf', h2⟩
      · rw [upd_same, upd_other h1]; exact (hap f hf h1).2
      · rw [upd_other h1, upd_other h2]; exact h.apt f hf f' hf' hne
  · rcases (mem_putL h.srt).1 hf with rfl | ⟨hf, hne⟩
    · rw [upd_same]; exact hpc
    · rw [upd_other hne]; have := h.pcs f hf; omega
  · rcases (mem_putL h.srt).1 hf with rfl | ⟨hf, hne⟩
    · exact hn
    · exact h.nms f hf
/-- the body of a name, or an empty one -/
def bodyOf (l : List Fl) (β : ByteArray → Bd) (nm : ByteArray) : Bd := if hasN l nm then β nm else b0
theorem hasN_at {l : List Fl} {nm : ByteArray} (h : hasN l nm = true) : ∃ k, ∃ hk : k < l.length, atL l nm = some k ∧ (l[k]).nm = nm := by
  cases e : atL l nm with
  | none =>
    obtain ⟨f, hf, q⟩ := hasN_iff.1 h
    exact absurd q (at_none e f hf)
  | some k =>
    obtain ⟨hk, q⟩ := at_some e
    exact ⟨k, hk, rfl, q⟩
theorem hasN_no {l : List Fl} {nm : ByteArray} (h : hasN l nm = false) : atL l nm = none := by
  cases e : atL l nm with
  | none => rfl
  | some k =>
    obtain ⟨hk, q⟩ := at_some e
    have := hasN_iff.2 ⟨l[k], List.getElem_mem hk, q⟩
    rw [h] at this; cases this
structure BodyF (base N : Nat) (l : List Fl) (β : ByteArray → Bd) (nm : ByteArray) (x : World) (b : Bd) : Prop where
  row : x.ownsRow base 9 1 b.v b.ps.length (strs b.ps)
  pcs : b.ps.length ≤ N
  app : ∀ da, catL (b.ps ++ [da]) = appD l nm da
  apt : ∀ f ∈ l, f.nm ≠ nm → Apt b.v (β f.nm).v ∧ Apt (β f.nm).v b.v
  sz : (catL b.ps).size ≤ datL l
  dat : hasN l nm = true → catL b.ps = dataL l nm
theorem Shelf.body {base m N : Nat} {l : List Fl} {β : ByteArray → Bd} {x : World} (h : Shelf base m l β N x) (nm : ByteArray) : BodyF base N l β nm x (bodyOf l β nm) := by
  cases e : hasN l nm with
  | true =>
    obtain ⟨k, hk, ha, hq⟩ := hasN_at e
    have hm : l[k] ∈ l := List.getElem_mem hk
    have eb : bodyOf l β nm = β (l[k]).nm := by simp [bodyOf, e, hq]
    have hd := data_at ha hk
    rw [eb]
    refine ⟨h.rows _ hm, h.pcs _ hm, fun da => ?_, fun f hf hne => ⟨h.apt _ hm f hf (by rw [hq]; exact fun q => hne q.symm), h.apt f hf _ hm (by rw [hq]; exact hne)⟩, ?_, fun _ => ?_⟩
    · rw [catL_append, h.cat _ hm]
      simp [appD, ha, hd, catL]
    · rw [h.cat _ hm]; exact datL_mem hm
    · rw [h.cat _ hm, hd]
  | false =>
    have ha := hasN_no e
    have eb : bodyOf l β nm = b0 := by simp [bodyOf, e]
    rw [eb]
    refine ⟨own_b0, by simp [b0], fun da => by simp [appD, ha, b0, catL], fun f hf hne => ⟨.inl rfl, ?_⟩, by simp [b0, catL], fun q => by rw [e] at q; cases q⟩
    cases q : (β f.nm).v.ownBlock with
    | none => exact .inl q
    | some g => exact .inr (fun e2 => by rw [q] at e2; cases e2)
end Go.Proofs.Ytiilkkdbifhojaa
