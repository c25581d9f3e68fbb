/- What is done, read again; the walk of the law FnDone. -/
import Derived.Test.YtiilkkdbifhojaaGreatDrD3
import Derived.Test.YtiilkkdbifhojaaGreatBi
namespace Go.Proofs.YtiilkkdbifhojaaGreat
open Go.ChangeShapes Go.WideShapes Go.ChangeAt Go.RowKit
set_option linter.unusedVariables false
set_option maxRecDepth 100000
theorem fnd_in {l : List Fl} {nm da : ByteArray} (hs : Srt l) (h : (⟨nm, da⟩ : Fl) ∈ l) : fndS l nm = (da, true) := by
  obtain ⟨k, hk, ha, hq⟩ := hasN_at (hasN_iff.2 ⟨_, h, rfl⟩)
  have e := srt_inj hs (List.getElem_mem hk) h hq
  simp [fndS, ha, data_at ha hk, e]
theorem fnd_out {l : List Fl} {nm : ByteArray} (h : ∀ f ∈ l, f.nm ≠ nm) : fndS l nm = (⟨#[]⟩, false) := by
  simp [fndS, at_miss (fun j hj => h _ (List.getElem_mem hj))]
theorem bytes_nil (s : ByteArray) : (⟨#[]⟩ : ByteArray) ++ s = s := by
  apply ByteArray.ext
  simp
theorem fnd_app {l : List Fl} {nm da : ByteArray} (hs : Srt l) : fndS (putL l nm (appD l nm da)) nm = ((fndS l nm).1 ++ da, true) := by
  rw [fnd_in (srt_putL hs _ _) ((mem_putL hs).2 (.inl rfl))]
  cases e : atL l nm with
  | none => simp [appD, fndS, e, bytes_nil]
  | some k => simp [appD, fndS, e]
theorem fnd_ren {l : List Fl} {nm tn : ByteArray} (hs : Srt l) : fndS (putL (cutL l nm) tn (dataL l nm)) tn = (dataL l nm, true) := fnd_in (srt_putL (srt_cutL hs _) _ _) ((mem_putL (srt_cutL hs _)).2 (.inl rfl))
theorem fnd_ren2 {l : List Fl} {nm tn da : ByteArray} (hs : Srt l) (h : nm ≠ tn) : fndS (putL (cutL l nm) tn da) nm = (⟨#[]⟩, false) := fnd_out (fun f hf => by
  rcases (mem_putL (srt_cutL hs _)).1 hf with rfl | ⟨h1, _⟩
  · exact fun e => h e.symm
  · exact (mem_cutL.1 h1).2)
theorem fnd_rem {l : List Fl} {nm : ByteArray} : fndS (cutL l nm) nm = (⟨#[]⟩, false) := fnd_out (fun f hf => (mem_cutL.1 hf).2)
theorem fnd_some {l : List Fl} {nm : ByteArray} (h : hasN l nm = true) : fndS l nm = (dataL l nm, true) := by
  obtain ⟨k, hk, ha, hq⟩ := hasN_at h
  simp [fndS, ha]
theorem fnd_size {l : List Fl} {nm : ByteArray} (h : Sms SmF1 l) : (fndS l nm).1.size ≤ 1048576 := by
  cases e : atL l nm with
  | none => simp only [fndS, e]; exact Nat.zero_le _
  | some k =>
    obtain ⟨hk, _⟩ := at_some e
    simp only [fndS, e, data_at e hk]
    exact (h.2 _ (List.getElem_mem hk)).2
/-- what is done, and where -/
structure DoneF (L S : List Fl) (O : List Dp) (o : Dp) : Prop where
  dk : diskB ⟨doLv L S O o, S, O ++ [o]⟩ = true
  form : formB o = true
  did : (doL L o).2 = true
  lv : doLv L S O o = (doL L o).1
  sv : doSv L S O o = S
  ov : doOv L S O o = O ++ [o]
  srt : Srt L
theorem done_of {L S : List Fl} {O : List Dp} {o : Dp} (h : diskB ⟨L, S, O⟩ = true) (hc : doCv L S O o = 0) : DoneF L S O o := by
  obtain ⟨e1, e2, e3, e4⟩ := do_yes (o := o) h
  obtain ⟨q1, q2, q3⟩ := diskB_parts h
  have hd := do_disk h hc
  rw [e1] at hc
  obtain ⟨y1, y2⟩ := act_yes hc
  rcases did_act (ops := O) (o := o) q1 with ⟨_, a⟩ | ⟨_, a⟩ | ⟨_, a⟩ | ⟨_, hf, hdd, hfl⟩
  · rw [a] at hc; cases hc
  · rw [a] at hc; cases hc
  · rw [a] at hc; cases hc
  rw [e3, e4, y2] at hd
  exact ⟨hd, hf, hdd, by rw [e2, y1], e3, by rw [e4, y2], filesB_srt q1⟩
theorem undone_of {L S : List Fl} {O : List Dp} {o : Dp} (h : diskB ⟨L, S, O⟩ = true) (hc : doCv L S O o ≠ 0) : doLv L S O o = L ∧ doSv L S O o = S ∧ doOv L S O o = O := by
  obtain ⟨e1, e2, e3, e4⟩ := do_yes (o := o) h
  rw [e1] at hc
  obtain ⟨y1, y2⟩ := act_no (o := o) rfl hc
  exact ⟨by rw [e2, y1], e3, by rw [e4, y2]⟩
theorem rd_disk {L S : List Fl} {O : List Dp} {nm : ByteArray} (h : diskB ⟨L, S, O⟩ = true) : rdS L S O nm = fndS L nm := by simp [rdS, h]
/-- the disk that was drawn, what is asked of it, and the disk behind that -/
structure DnSt (D P A : Nat) (vd va : List Value) (o : Dp) (a1 a2 a3 b1 b2 b3 : Option Addr) (L S : List Fl) (O : List Dp) (AL AS : List Fl) (AO : List Dp) (x : World) : Prop where
  kd : Blk D vd x
  kp : Blk P [.int .i64 o.kind, .string o.nm, .string o.tn, .string o.da] x
  ka : Blk A va x
  rd : DkAt x a1 a2 a3 L S O
  ra : DkAt x b1 b2 b3 AL AS AO
theorem DnSt.below {D P A : Nat} {vd va : List Value} {o : Dp} {a1 a2 a3 b1 b2 b3 : Option Addr} {L S : List Fl} {O : List Dp} {AL AS : List Fl} {AO : List Dp} {x y : World} (h : DnSt D P A vd va o a1 a2 a3 b1 b2 b3 L S O AL AS AO x) (b : Below x.heap.size x y) : DnSt D P A vd va o a1 a2 a3 b1 b2 b3 L S O AL AS AO y := ⟨h.kd.below b, h.kp.below b, h.ka.below b, h.rd.below b, h.ra.below b⟩
end Go.Proofs.YtiilkkdbifhojaaGreat
