/- A file that is replaced is, behind any loss of power, the old one or the new one. -/
import Derived.Test.YtiilkkdbifhojaaGreatLU3
import Derived.Test.YtiilkkdbifhojaaGreatBi
namespace Go.Proofs.YtiilkkdbifhojaaGreat
open Go.ChangeShapes Go.WideShapes Go.ChangeAt Go.RowKit
set_option linter.unusedVariables false
set_option maxRecDepth 100000
theorem fresh_ne (nm : ByteArray) : fresh nm ≠ nm := fun e => by
  have h := congrArg ByteArray.size e
  rw [fresh_size] at h
  omega
theorem fnd_false {l : List Fl} {nm : ByteArray} (h : (fndS l nm).2 = false) : hasN l nm = false := by
  cases e : hasN l nm with
  | false => rfl
  | true => rw [fnd_some e] at h; cases h
theorem no_name {l : List Fl} {nm : ByteArray} (h : hasN l nm = false) : ∀ f ∈ l, f.nm ≠ nm := fun f hf e => by
  rw [hasN_iff.2 ⟨f, hf, e⟩] at h
  cases h
theorem cut_same {l : List Fl} {nm : ByteArray} (h : hasN l nm = false) : cutL l nm = l := by
  unfold cutL
  rw [List.filter_eq_self]
  intro f hf
  rw [beq_no (no_name h f hf)]
  rfl
theorem srt_ext {l l' : List Fl} (h : Srt l) (h' : Srt l') (e : ∀ f, f ∈ l ↔ f ∈ l') : l = l' := by
  have nd : ∀ {m : List Fl}, Srt m → m.Nodup := fun hm => hm.imp (fun {a b} hab q => by rw [q] at hab; exact List.lt_irrefl _ hab)
  have hp : l.Perm l' := (List.perm_ext_iff_of_nodup (nd h) (nd h')).2 e
  exact hp.eq_of_pairwise (fun a b _ _ hab hba => absurd (List.lt_trans hab hba) (List.lt_irrefl _)) h h'
/-- a file that was not there, put and taken away again -/
theorem cut_put {l : List Fl} {nm da : ByteArray} (hs : Srt l) (h : hasN l nm = false) : cutL (putL l nm da) nm = l :=
  srt_ext (srt_cutL (srt_putL hs _ _) _) hs (fun f => by
    rw [mem_cutL, mem_putL hs]
    constructor
    · rintro ⟨rfl | ⟨h1, _⟩, h2⟩
      · exact absurd rfl h2
      · exact h1
    · intro hf
      exact ⟨.inr ⟨hf, no_name h f hf⟩, no_name h f hf⟩)
theorem fnd_other {l : List Fl} {nm tn da : ByteArray} (hs : Srt l) (h : nm ≠ tn) : fndS (putL l tn da) nm = fndS l nm := by
  cases e : hasN l nm with
  | true =>
    obtain ⟨f, hf, rfl⟩ := hasN_iff.1 e
    have h1 : fndS l f.nm = (f.da, true) := fnd_in hs (by cases f; exact hf)
    rw [h1]
    exact fnd_in (srt_putL hs _ _) ((mem_putL hs).2 (.inr ⟨by cases f; exact hf, h⟩))
  | false =>
    rw [fnd_out (no_name e)]
    exact fnd_out (fun f hf => by
      rcases (mem_putL hs).1 hf with rfl | ⟨h1, _⟩
      · exact fun z => h z.symm
      · exact no_name e f h1)
theorem dat_put {l : List Fl} {nm da : ByteArray} (hs : Srt l) (h : hasN l nm = false) : datL (putL l nm da) = datL l + da.size ∧ (putL l nm da).length = l.length + 1 := by
  have hp : (putL l nm da).Perm (⟨nm, da⟩ :: l) := by
    have nd : ∀ {m : List Fl}, Srt m → m.Nodup := fun hm => hm.imp (fun {a b} hab q => by rw [q] at hab; exact List.lt_irrefl _ hab)
    refine (List.perm_ext_iff_of_nodup (nd (srt_putL hs _ _)) (List.nodup_cons.2 ⟨fun q => no_name h _ q rfl, nd hs⟩)).2 (fun f => ?_)
    rw [mem_putL hs, List.mem_cons]
    constructor
    · rintro (rfl | ⟨h1, _⟩)
      · exact .inl rfl
      · exact .inr h1
    · rintro (rfl | h1)
      · exact .inl rfl
      · exact .inr ⟨h1, no_name h f h1⟩
  have hd : ∀ {a b : List Fl}, a.Perm b → datL a = datL b := fun hab => by
    induction hab with
    | nil => rfl
    | cons x _ ih => simp only [datL, ih]
    | swap x y l => simp only [datL]; omega
    | trans _ _ h1 h2 => exact h1.trans h2
  refine ⟨by rw [hd hp]; simp only [datL]; omega, by rw [hp.length_eq]; rfl⟩
/-- what Replace leaves where the other name is free -/
structure RepF (M : List Fl) (nm da : ByteArray) : Prop where
  l : repL M M [] nm da = putL M nm da
  s : repS M M [] nm da = M
  o : repO M M [] nm da = [oApp nm da, oRen nm]
  dk : diskB ⟨putL M nm da, M, [oApp nm da, oRen nm]⟩ = true
  f1 : filesB (putL M (fresh nm) da) = true
  f2 : filesB (putL M nm da) = true
theorem rep_of {M : List Fl} {nm da : ByteArray} (h : diskB ⟨M, M, []⟩ = true) (hc : repC M M [] nm da = 0) (hf : (fndS M (fresh nm)).2 = false) : RepF M nm da := by
  obtain ⟨q1, q2, q3⟩ := diskB_parts h
  have hs := filesB_srt q1
  have hn := fnd_false hf
  have er : rOps M nm da = [oApp nm da, oRen nm] := by simp [rOps, hf]
  have hR : (actR M [] [oApp nm da, oRen nm]).2.2 = 0 := by
    have : repC M M [] nm da = (actR M [] (rOps M nm da)).2.2 := by simp [repC, h]
    rw [this, er] at hc
    exact hc
  have c1 : actC M [] (oApp nm da) = 0 := by
    by_cases q : actC M [] (oApp nm da) = 0
    · exact q
    · rw [actR_no q] at hR; exact absurd hR q
  rw [actR_yes c1] at hR
  have e1 : actL M [] (oApp nm da) = putL M (fresh nm) da := by
    rw [(act_yes c1).1, oApp, do_app]
    simp [appD, hasN_no hn]
  have e2 : actO M [] (oApp nm da) = [oApp nm da] := by rw [(act_yes c1).2]; rfl
  have d1 := act_disk2 h c1
  rw [e1, e2] at hR d1
  have c2 : actC (putL M (fresh nm) da) [oApp nm da] (oRen nm) = 0 := by
    by_cases q : actC (putL M (fresh nm) da) [oApp nm da] (oRen nm) = 0
    · exact q
    · rw [actR_no q] at hR; exact absurd hR q
  have hp : hasN (putL M (fresh nm) da) (fresh nm) = true := hasN_iff.2 ⟨⟨fresh nm, da⟩, (mem_putL hs).2 (.inl rfl), rfl⟩
  have hdt : dataL (putL M (fresh nm) da) (fresh nm) = da := by
    have h1 := fnd_some hp
    rw [fnd_in (srt_putL hs _ _) ((mem_putL hs).2 (.inl rfl))] at h1
    simp only [Prod.mk.injEq, and_true] at h1
    exact h1.symm
  have e3 : actL (putL M (fresh nm) da) [oApp nm da] (oRen nm) = putL M nm da := by
    rw [(act_yes c2).1, oRen, do_ren, hp, if_pos rfl, hdt, cut_put hs hn]
  have e4 : actO (putL M (fresh nm) da) [oApp nm da] (oRen nm) = [oApp nm da, oRen nm] := by rw [(act_yes c2).2]; rfl
  have d2 := act_disk2 d1 c2
  rw [e3, e4] at d2
  have hA : actR M [] (rOps M nm da) = (putL M nm da, [oApp nm da, oRen nm], 0) := by
    rw [er, actR_yes c1, e1, e2, actR_yes c2, e3, e4]
    rfl
  obtain ⟨_, g2, g3, g4⟩ := rep_good h hA
  exact ⟨g2, g3, g4, d2, (diskB_parts d1).1, (diskB_parts d2).1⟩
/-- what is kept of the two -/
def Kp (kl : List Int) : Prop := kl = [] ∨ kl = [0] ∨ kl = [1] ∨ kl = [0, 1]
/-- behind the loss of power: right, and the name has the old or the new -/
theorem rep_crash {M : List Fl} {nm da : ByteArray} {kl : List Int} {t : Nat} (hM : filesB M = true) (hf : (fndS M (fresh nm)).2 = false) (h : RepF M nm da) (hk : Kp kl) :
    crsB (putL M nm da) M [oApp nm da, oRen nm] kl (t : Int) = true ∧ (fndS (crsL (putL M nm da) M [oApp nm da, oRen nm] kl (t : Int)) nm = fndS M nm ∨ fndS (crsL (putL M nm da) M [oApp nm da, oRen nm] kl (t : Int)) nm = (da, true)) := by
  have hs := filesB_srt hM
  have hn := fnd_false hf
  have key : ∀ R : List Fl, goL M (crsO [oApp nm da, oRen nm] kl (t : Int)) = R → filesB R = true → placesB kl 2 = true → crsB (putL M nm da) M [oApp nm da, oRen nm] kl (t : Int) = true ∧ crsL (putL M nm da) M [oApp nm da, oRen nm] kl (t : Int) = R := fun R hR hF hP => by
    have e : crsB (putL M nm da) M [oApp nm da, oRen nm] kl (t : Int) = true := by
      simp only [crsB, h.dk, hR, hF, List.length_cons, List.length_nil, hP, Bool.and_true]
      simp
    exact ⟨e, by simp [crsL, e, hR]⟩
  have eApp : ∀ d, (doL M ⟨1, fresh nm, ⟨#[]⟩, d⟩).1 = putL M (fresh nm) d := fun d => by
    rw [do_app]
    simp [appD, hasN_no hn]
  have tornR : tornO (t : Int) (oRen nm) = oRen nm := by
    rw [tornO, if_neg (fun z => by have := z.1; simp [oRen] at this)]
  rcases hk with rfl | rfl | rfl | rfl
  · obtain ⟨k1, k2⟩ := key M (by simp [crsO, goL]) hM (by decide)
    exact ⟨k1, .inl (by rw [k2])⟩
  · obtain ⟨d', hd', hle⟩ : ∃ d', tornO (t : Int) (oApp nm da) = ⟨1, fresh nm, ⟨#[]⟩, d'⟩ ∧ d'.size ≤ da.size := by
      unfold tornO
      split
      · exact ⟨_, rfl, by simp [oApp]; omega⟩
      · exact ⟨da, rfl, Nat.le_refl _⟩
    have e0 : crsO [oApp nm da, oRen nm] [0] (t : Int) = [tornO (t : Int) (oApp nm da)] := by simp [crsO]
    have hR : goL M (crsO [oApp nm da, oRen nm] [0] (t : Int)) = putL M (fresh nm) d' := by
      rw [e0, hd']
      simp only [goL, List.foldl_cons, List.foldl_nil]
      exact eApp d'
    have hF : filesB (putL M (fresh nm) d') = true := by
      obtain ⟨a1, a2, a3⟩ := filesB_parts h.f1
      obtain ⟨b1, b2⟩ := dat_put (da := da) hs hn
      obtain ⟨b3, b4⟩ := dat_put (da := d') hs hn
      rw [fit_files (srt_putL hs _ _) (fun f hf => ?_)]
      · simp only [fitB, Bool.and_eq_true, decide_eq_true_eq]
        omega
      · rcases (mem_putL hs).1 hf with rfl | ⟨h1, _⟩
        · exact filesB_nms h.f1 ⟨fresh nm, da⟩ ((mem_putL hs).2 (.inl rfl))
        · exact filesB_nms hM f h1
    obtain ⟨k1, k2⟩ := key _ hR hF (by decide)
    exact ⟨k1, .inl (by rw [k2]; exact fnd_other hs (fun z => fresh_ne nm z.symm))⟩
  · have e0 : crsO [oApp nm da, oRen nm] [1] (t : Int) = [oRen nm] := by
      have : crsO [oApp nm da, oRen nm] [1] (t : Int) = [tornO (t : Int) (oRen nm)] := by simp [crsO]
      rw [this, tornR]
    have hR : goL M (crsO [oApp nm da, oRen nm] [1] (t : Int)) = M := by
      rw [e0]
      simp only [goL, List.foldl_cons, List.foldl_nil, oRen]
      rw [do_ren, hn]
      rfl
    obtain ⟨k1, k2⟩ := key M hR hM (by decide)
    exact ⟨k1, .inl (by rw [k2])⟩
  · have e0 : crsO [oApp nm da, oRen nm] [0, 1] (t : Int) = [oApp nm da, oRen nm] := by
      have : crsO [oApp nm da, oRen nm] [0, 1] (t : Int) = [oApp nm da, tornO (t : Int) (oRen nm)] := by simp [crsO, List.range, List.range.loop]
      rw [this, tornR]
    have hR : goL M (crsO [oApp nm da, oRen nm] [0, 1] (t : Int)) = putL M nm da := by
      rw [e0]
      exact goL_disk h.dk
    obtain ⟨k1, k2⟩ := key _ hR h.f2 (by decide)
    exact ⟨k1, .inr (by rw [k2]; exact fnd_in (srt_putL hs _ _) ((mem_putL hs).2 (.inl rfl)))⟩
end Go.Proofs.YtiilkkdbifhojaaGreat
