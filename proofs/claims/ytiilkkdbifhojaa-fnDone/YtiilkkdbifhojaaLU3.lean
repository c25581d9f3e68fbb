/- What is done, read again; the walk of the law FnDone. -/
import Derived.Test.YtiilkkdbifhojaaDrD3
import Derived.Test.YtiilkkdbifhojaaDkRI
namespace Go.Proofs.Ytiilkkdbifhojaa
open Go.ChangeShapes Go.WideShapes Go.ChangeAt Go.RowKit
set_option linter.unusedVariables false
set_option maxRecDepth 100000
theorem fnd_in {l : List Fl} {nm da : ByteArray} (hs : Srt l) (h : (⟨nm, da⟩ : Fl) ∈ l) : fndS l nm = (da, true) := by
  obtain ⟨k, hk, ha, hq⟩ := hasN_at (hasN_iff.2 ⟨_, h, rfl⟩)
  have e := srt_inj hs (List.getElem_mem hk) h hq
  simp [fndS, ha, data_at ha hk, e]
theorem fnd_out {l : List Fl} {nm : ByteArray} (h : ∀ f ∈ l, f.nm ≠ nm) : fndS l nm = (⟨#[]⟩, false) := by
  simp [fndS, at_miss (fun j hj => h _ (List.getElem_mem hj))]
theorem bytes_nil (s : ByteArray) : (⟨#[]⟩ : ByteArray) ++ s = s := by
  apply ByteArray.ext
  simp
theorem fnd_app {l : List Fl} {nm da : ByteArray} (hs : Srt l) : fndS (putL l nm (appD l nm da)) nm = ((fndS l nm).1 ++ da, true) := by
  rw [fnd_in (srt_putL hs _ _) ((mem_putL hs).2 (.inl rfl))]
  cases e : atL l nm with
  | none => simp [appD, fndS, e, bytes_nil]
  | some k => simp [appD, fndS, e]
theorem fnd_ren {l : List Fl} {nm tn : ByteArray} (hs : Srt l) : fndS (putL (cutL l nm) tn (dataL l nm)) tn = (dataL l nm, true) := fnd_in (srt_putL (srt_cutL hs _) _ _) ((mem_putL (srt_cutL hs _)).2 (.inl rfl))
theorem fnd_ren2 {l : List Fl} {nm tn da : ByteArray} (hs : Srt l) (h : nm ≠ tn) : fndS (putL (cutL l nm) tn da) nm = (⟨#[]⟩, false) := fnd_out (fun f hf => by
  rcases (mem_putL (srt_cutL hs _)).1 hf with rfl | ⟨h1, _⟩
  · exact fun e => h e.symm
  · exact (mem_cutL.1 h1).2)
theorem fnd_rem {l : List Fl} {nm : ByteArray} : fndS (cutL l nm) nm = (⟨#[]⟩, false) := fnd_out (fun f hf => (mem_cutL.1 hf).2)
theorem fnd_some {l : List Fl} {nm : ByteArray} (h : hasN l nm = true) : fndS l nm = (dataL l nm, true) := by
  obtain ⟨k, hk, ha, hq⟩ := hasN_at h
  simp [fndS, ha]
theorem fnd_size {l : List Fl} {nm : ByteArray} (h : Sms SmF1 l) : (fndS l nm).1.size ≤ 1048576 := by
  cases e : atL l nm with
  | none => simp only [fndS, e]; exact Nat.zero_le _
  | some k =>
    obtain ⟨hk, _⟩ := at_some e
    simp only [fndS, e, data_at e hk]
    exact (h.2 _ (List.getElem_mem hk)).2
/-- what is done, and where -/
structure DoneF (L S : List Fl) (O : List Dp) (o : Dp) : Prop where
  dk : diskB ⟨doLv L S O o, S, O ++ [o]⟩ = true
  form : formB o = true
  did : (doL L o).2 = true
  lv : doLv L S O o = (doL L o).1
  sv : doSv L S O o = S
  ov : doOv L S O o = O ++ [o]
  srt : Srt L
theorem done_of {L S : List Fl} {O : List Dp} {o : Dp} (h : diskB ⟨L, S, O⟩ = true) (hc : doCv L S O o = 0) : DoneF L S O o := by
  obtain ⟨e1, e2, e3, e4⟩ := do_yes (o := o) h
  obtain ⟨q1, q2, q3⟩ := diskB_parts h
  have hd := do_disk h hc
  rw [e1] at hc
  obtain ⟨y1, y2⟩ := act_yes hc
  rcases did_act (ops := O) (o := o) q1 with ⟨_, a⟩ | ⟨_, a⟩ | ⟨_, a⟩ | ⟨_, hf, hdd, hfl⟩
  · rw [a] at hc; cases hc
  · rw [a] at hc; cases hc
  · rw [a] at hc; cases hc
  rw [e3, e4, y2] at hd
  exact ⟨hd, hf, hdd, by rw [e2, y1], e3, by rw [e4, y2], filesB_srt q1⟩
theorem undone_of {L S : List Fl} {O : List Dp} {o : Dp} (h : diskB ⟨L, S, O⟩ = true) (hc : doCv L S O o ≠ 0) : doLv L S O o = L ∧ doSv L S O o = S ∧ doOv L S O o = O := by
  obtain ⟨e1, e2, e3, e4⟩ := do_yes (o := o) h
  rw [e1] at hc
  obtain ⟨y1, y2⟩ := act_no (o := o) rfl hc
  exact ⟨by rw [e2, y1], e3, by rw [e4, y2]⟩
theorem rd_disk {L S : List Fl} {O : List Dp} {nm : ByteArray} (h : diskB ⟨L, S, O⟩ = true) : rdS L S O nm = fndS L nm := by simp [rdS, h]
/-- the disk that was drawn, what is asked of it, and the disk behind that -/
structure DnSt (D P A : Nat) (vd va : List Value) (o : Dp) (a1 a2 a3 b1 b2 b3 : Option Addr) (L S : List Fl) (O : List Dp) (AL AS : List Fl) (AO : List Dp) (x : World) : Prop where
  kd : Blk D vd x
  kp : Blk P [.int .i64 o.kind, .string o.nm, .string o.tn, .string o.da] x
  ka : Blk A va x
  rd : DkAt x a1 a2 a3 L S O
  ra : DkAt x b1 b2 b3 AL AS AO
theorem DnSt.below {D P A : Nat} {vd va : List Value} {o : Dp} {a1 a2 a3 b1 b2 b3 : Option Addr} {L S : List Fl} {O : List Dp} {AL AS : List Fl} {AO : List Dp} {x y : World} (h : DnSt D P A vd va o a1 a2 a3 b1 b2 b3 L S O AL AS AO x) (b : Below x.heap.size x y) : DnSt D P A vd va o a1 a2 a3 b1 b2 b3 L S O AL AS AO y := ⟨h.kd.below b, h.kp.below b, h.ka.below b, h.rd.below b, h.ra.below b⟩
set_option maxHeartbeats 16000000 in
theorem walkDone (a : Option Addr) (len cap : Nat) (w : World) (h : IsCode w a len) : Calls Try.prog 4 #[.slice a len cap] w fun e w' => YesEnd w e w' := by
  have H : Hid _ := hide h
  clear h
  go_enter Try.func4, Try.ntmps4
  go_wp2_with fail
  refine (big_any a len cap w).mono ?_
  rintro e w' ⟨rfl, hw'⟩
  rw [hw']
  clear hw' w'
  by_cases hbig : (1048576 : Int) < (len : Int)
  · go_wp2
    go_ret
    exact ⟨rfl, Below.refl _ _⟩
  · go_wp2_with fail
    refine (drawDo_any a len cap w H.out).mono ?_
    rintro e w1 ⟨hb1, a1, a2, a3, c1, c2, c3, L, S, O, o, rfl, hat, hsm, hcp, ho⟩
    obtain ⟨w2, hw2⟩ : ∃ w2, w2 = (w1.alloc (.cells #[.slice a1 L.length c1, .slice a2 S.length c2, .slice a3 O.length c3] 27)).alloc (.cells #[.int .i64 o.kind, .string o.nm, .string o.tn, .string o.da] 36) := ⟨_, rfl⟩
    have b12 : Below w1.heap.size w1 w2 := by rw [hw2]; exact below_alloc (below_alloc (Below.refl _ _) _) _
    have KD : Hid (Blk w1.heap.size [.slice a1 L.length c1, .slice a2 S.length c2, .slice a3 O.length c3] w2) := hide (by rw [hw2]; exact Blk.new.alloc _)
    have KP : Hid (Blk (w1.heap.size + 1) [.int .i64 o.kind, .string o.nm, .string o.tn, .string o.da] w2) := hide (by rw [hw2]; simpa using Blk.new (w := w1.alloc (.cells #[.slice a1 L.length c1, .slice a2 S.length c2, .slice a3 O.length c3] 27)) (cur := [.int .i64 o.kind, .string o.nm, .string o.tn, .string o.da]) (T := 36))
    have HX : Hid _ := hide (below_trans hb1 b12)
    have HAT : Hid _ := hide (hat.below b12)
    have HSM : Hid _ := hide hsm
    have HSO : Hid _ := hide ho
    have HN : Hid _ := hide hcp
    have HW : Hid ((w1.alloc (.cells #[.slice a1 L.length c1, .slice a2 S.length c2, .slice a3 O.length c3] 27)).alloc (.cells #[.int .i64 o.kind, .string o.nm, .string o.tn, .string o.da] 36) = w2) := hide hw2.symm
    have hO2 : O.length ≤ 1048576 := hsm.2.2.1
    clear hw2 b12 hb1 hat hsm hcp ho H
    go_upto_region 4 with fail
    rw [HW.out]
    have d0 := KD.out.c 0 _ rfl
    have d1 := KD.out.c 1 _ rfl
    have d2 := KD.out.c 2 _ rfl
    have p0 := KP.out.c 0 _ rfl
    have p1 := KP.out.c 1 _ rfl
    have p2 := KP.out.c 2 _ rfl
    have p3 := KP.out.c 3 _ rfl
    go_wp2_with fail
    refine (implDo_any a1 a2 a3 c1 c2 c3 L S O o w2 HSM.out HSO.out HN.out.1 HN.out.2.1 HN.out.2.2 HAT.out).mono ?_
    rintro e x3 ⟨hb3, v1, v2, v3, rfl, hr3⟩
    obtain ⟨b1, b2, b3, e1, e2, e3, rfl, rfl, rfl, hat3, m1, m2, m3, -⟩ := rowsD_at hr3
    have SMA : Hid _ := hide (smD_do3 (o := o) HSM.out HSO.out)
    obtain ⟨y3, hy3⟩ : ∃ y3, y3 = x3.alloc (.cells #[.slice b1 (doLv L S O o).length e1, .slice b2 (doSv L S O o).length e2, .slice b3 (doOv L S O o).length e3] 27) := ⟨_, rfl⟩
    have HY3 : Hid (x3.alloc (.cells #[.slice b1 (doLv L S O o).length e1, .slice b2 (doSv L S O o).length e2, .slice b3 (doOv L S O o).length e3] 27) = y3) := hide hy3.symm
    have bxy : Below x3.heap.size x3 y3 := by rw [hy3]; exact below_alloc (Below.refl _ _) _
    have b23 := below_trans hb3 bxy
    have ST3 : Hid (DnSt w1.heap.size (w1.heap.size + 1) x3.heap.size [.slice a1 L.length c1, .slice a2 S.length c2, .slice a3 O.length c3] [.slice b1 (doLv L S O o).length e1, .slice b2 (doSv L S O o).length e2, .slice b3 (doOv L S O o).length e3] o a1 a2 a3 b1 b2 b3 L S O (doLv L S O o) (doSv L S O o) (doOv L S O o) y3) := hide ⟨KD.out.below b23, KP.out.below b23, by rw [hy3]; exact Blk.new, HAT.out.below b23, hat3.below bxy⟩
    replace HX : Hid (Below w.heap.size w y3) := hide (below_trans HX.out b23)
    have HNA : Hid ((b1 = none → e1 = 0) ∧ (b2 = none → e2 = 0) ∧ (b3 = none → e3 = 0)) := hide ⟨m1, m2, m3⟩
    clear hy3 bxy b23 hb3 hr3 hat3 m1 m2 m3 KD KP HAT d0 d1 d2 p0 p1 p2 p3 HW
    go_upto_region 5 with fail
    rw [HY3.out]
    clear HY3
    have d0 := ST3.out.kd.c 0 _ rfl
    have d1 := ST3.out.kd.c 1 _ rfl
    have d2 := ST3.out.kd.c 2 _ rfl
    have p0 := ST3.out.kp.c 0 _ rfl
    have p1 := ST3.out.kp.c 1 _ rfl
    have p2 := ST3.out.kp.c 2 _ rfl
    have p3 := ST3.out.kp.c 3 _ rfl
    have g0 := ST3.out.ka.c 0 _ rfl
    have g1 := ST3.out.ka.c 1 _ rfl
    have g2 := ST3.out.ka.c 2 _ rfl
    go_wp2_with fail
    refine (specDo_any a1 a2 a3 c1 c2 c3 L S O o y3 HSM.out HSO.out HN.out.1 HN.out.2.1 HN.out.2.2 ST3.out.rd).mono ?_
    rintro e x4 ⟨hb4, v1, v2, v3, rfl, hr4⟩
    obtain ⟨q1, q2, q3, f1, f2, f3, rfl, rfl, rfl, -⟩ := rowsD_at hr4
    obtain ⟨y4, hy4⟩ : ∃ y4, y4 = x4.alloc (.cells #[.slice q1 (doLv L S O o).length f1, .slice q2 (doSv L S O o).length f2, .slice q3 (doOv L S O o).length f3] 27) := ⟨_, rfl⟩
    have HY4 : Hid (x4.alloc (.cells #[.slice q1 (doLv L S O o).length f1, .slice q2 (doSv L S O o).length f2, .slice q3 (doOv L S O o).length f3] 27) = y4) := hide hy4.symm
    have b34 : Below y3.heap.size y3 y4 := below_trans hb4 (by rw [hy4]; exact below_alloc (Below.refl _ _) _)
    have ST4 : Hid _ := hide (ST3.out.below b34)
    replace HX : Hid (Below w.heap.size w y4) := hide (below_trans HX.out b34)
    clear hy4 b34 hb4 hr4 ST3
    clear d0 d1 d2 p0 p1 p2 p3 g0 g1 g2
    go_upto_region 6 with fail
    rw [HY4.out]
    clear HY4
    have hcc : (doCv L S O o != doCv L S O o) = false := by simp
    have hce : (doCv L S O o == doCv L S O o) = true := by simp
    have d0 := ST4.out.kd.c 0 _ rfl
    have d1 := ST4.out.kd.c 1 _ rfl
    have d2 := ST4.out.kd.c 2 _ rfl
    have p0 := ST4.out.kp.c 0 _ rfl
    have p1 := ST4.out.kp.c 1 _ rfl
    have p2 := ST4.out.kp.c 2 _ rfl
    have p3 := ST4.out.kp.c 3 _ rfl
    have g0 := ST4.out.ka.c 0 _ rfl
    have g1 := ST4.out.ka.c 1 _ rfl
    have g2 := ST4.out.ka.c 2 _ rfl
    go_wp2_with fail
    refine (specDiskOk_any a1 a2 a3 c1 c2 c3 L S O y4 HSM.out.1.1 HSM.out.2.1.1 HSM.out.2.2.1 HSM.out.1.f HSM.out.2.1.f HSM.out.2.2.2 HN.out.2.1 ST4.out.rd.r1 ST4.out.rd.r2 ST4.out.rd.r3).mono ?_
    rintro e x5 ⟨rfl, hb5⟩
    replace HX : Hid (Below w.heap.size w x5) := hide (below_trans HX.out hb5)
    have ST5 : Hid _ := hide (ST4.out.below hb5)
    clear hb5 ST4
    clear d0 d1 d2 p0 p1 p2 p3 g0 g1 g2
    have d0 := ST5.out.kd.c 0 _ rfl
    have d1 := ST5.out.kd.c 1 _ rfl
    have d2 := ST5.out.kd.c 2 _ rfl
    have p0 := ST5.out.kp.c 0 _ rfl
    have p1 := ST5.out.kp.c 1 _ rfl
    have p2 := ST5.out.kp.c 2 _ rfl
    have p3 := ST5.out.kp.c 3 _ rfl
    have g0 := ST5.out.ka.c 0 _ rfl
    have g1 := ST5.out.ka.c 1 _ rfl
    have g2 := ST5.out.ka.c 2 _ rfl
    cases hB : diskB ⟨L, S, O⟩
    · go_wp2
      go_ret
      exact ⟨rfl, HX.out⟩
    · by_cases hc : doCv L S O o = 0
      · have HD : Hid (DoneF L S O o) := hide (done_of hB hc)
        have hc1 : (doCv L S O o != 0) = false := by simpa using hc
        have HBB : Hid _ := hide hB
        clear hB hc
        generalize doCv L S O o = cv at *
        rw [HD.out.sv] at ST5 SMA g1 ⊢
        rw [HD.out.ov] at ST5 SMA g2 ⊢
        rw [List.length_append, List.length_singleton] at ST5 g2 ⊢
        have HDK : Hid _ := hide HD.out.dk
        have HLV : Hid _ := hide HD.out.lv
        have HSR : Hid _ := hide HD.out.srt
        have HFM : Hid _ := hide HD.out.form
        have HDD : Hid _ := hide HD.out.did
        clear HD
        generalize doLv L S O o = AL at *
        have hod : (fndS L o.nm).1.size ≤ 1048576 := fnd_size HSM.out.1
        have hda : o.da.size ≤ 1048600 := HSO.out.2.2
        have HRD : Hid (rdS L S O o.nm = fndS L o.nm) := hide (rd_disk HBB.out)
        have HRA : Hid (∀ nm, rdS AL S (O ++ [o]) nm = fndS AL nm) := hide (fun nm => rd_disk HDK.out)
        have HFS : Hid (∀ nm y, Below x5.heap.size x5 y → DkAt y b1 b2 b3 AL S (O ++ [o]) → Calls Try.prog 15 #[.agg #[.slice b1 AL.length e1, .slice b2 S.length e2, .slice b3 (O.length + 1) e3], .string nm] y fun e w' => e = .returned (.tuple #[.string (fndS AL nm).1, .bool (fndS AL nm).2]) ∧ Below y.heap.size y w') := hide (fun nm y hy hat => by have h9 := implReadFile_any b1 b2 b3 e1 e2 e3 AL S (O ++ [o]) nm y SMA.out hat; rw [HRA.out, List.length_append, List.length_singleton] at h9; exact h9)
        have HFD : Hid (∀ y, DkAt y a1 a2 a3 L S O → Calls Try.prog 15 #[.agg #[.slice a1 L.length c1, .slice a2 S.length c2, .slice a3 O.length c3], .string o.nm] y fun e w' => e = .returned (.tuple #[.string (fndS L o.nm).1, .bool (fndS L o.nm).2]) ∧ Below y.heap.size y w') := hide (fun y hat => by have h9 := implReadFile_any a1 a2 a3 c1 c2 c3 L S O o.nm y HSM.out hat; rw [HRD.out] at h9; exact h9)
        have HFK : Hid (∀ y, DkAt y b1 b2 b3 AL S (O ++ [o]) → Calls Try.prog 7 #[.agg #[.slice b1 AL.length e1, .slice b2 S.length e2, .slice b3 (O.length + 1) e3]] y fun e w' => e = .returned (.bool true) ∧ Below y.heap.size y w') := hide (fun y hat => by have h9 := implDiskOk_any b1 b2 b3 e1 e2 e3 AL S (O ++ [o]) y SMA.out.1.1 SMA.out.2.1.1 SMA.out.2.2.1 SMA.out.1.f SMA.out.2.1.f SMA.out.2.2.2 hat.r1 hat.r2 hat.r3; rw [HDK.out, List.length_append, List.length_singleton] at h9; exact h9)
        have HBX : Hid (Below x5.heap.size x5 x5) := hide (Below.refl _ _)
        clear HRD HRA HDK
        rcases kind_of HFM.out with kk | kk | kk
        · have HFA : Hid (fndS AL o.nm = ((fndS L o.nm).1 ++ o.da, true)) := hide (by
            rw [HLV.out]
            obtain ⟨kind, nm, tn, da⟩ := o
            simp only at kk
            subst kk
            rw [do_app]
            exact fnd_app HSR.out)
          have hk1 : (o.kind == 1) = true := by simpa using kk
          clear kk
          go_wp2_with fail
          refine (HFS.out o.nm x5 HBX.out ST5.out.ra).mono ?_
          rintro e x6 ⟨rfl, hb6⟩
          replace HX : Hid (Below w.heap.size w x6) := hide (below_trans HX.out hb6)
          have ST6 : Hid _ := hide (ST5.out.below hb6)
          rw [HFA.out]
          clear hb6 ST5
          clear d0 d1 d2 p0 p1 p2 p3 g0 g1 g2
          have d0 := ST6.out.kd.c 0 _ rfl
          have d1 := ST6.out.kd.c 1 _ rfl
          have d2 := ST6.out.kd.c 2 _ rfl
          have p0 := ST6.out.kp.c 0 _ rfl
          have p1 := ST6.out.kp.c 1 _ rfl
          have p2 := ST6.out.kp.c 2 _ rfl
          have p3 := ST6.out.kp.c 3 _ rfl
          have g0 := ST6.out.ka.c 0 _ rfl
          have g1 := ST6.out.ka.c 1 _ rfl
          have g2 := ST6.out.ka.c 2 _ rfl
          go_wp2_with fail
          refine (HFD.out x6 ST6.out.rd).mono ?_
          rintro e x7 ⟨rfl, hb7⟩
          replace HX : Hid (Below w.heap.size w x7) := hide (below_trans HX.out hb7)
          have ST7 : Hid _ := hide (ST6.out.below hb7)
          clear hb7 ST6
          clear d0 d1 d2 p0 p1 p2 p3 g0 g1 g2
          have d0 := ST7.out.kd.c 0 _ rfl
          have d1 := ST7.out.kd.c 1 _ rfl
          have d2 := ST7.out.kd.c 2 _ rfl
          have p0 := ST7.out.kp.c 0 _ rfl
          have p1 := ST7.out.kp.c 1 _ rfl
          have p2 := ST7.out.kp.c 2 _ rfl
          have p3 := ST7.out.kp.c 3 _ rfl
          have g0 := ST7.out.ka.c 0 _ rfl
          have g1 := ST7.out.ka.c 1 _ rfl
          have g2 := ST7.out.ka.c 2 _ rfl
          generalize (fndS L o.nm).2 = ob at *
          generalize (fndS L o.nm).1 = od at *
          go_wp2_with fail
          refine (HFK.out x7 ST7.out.ra).mono ?_
          rintro e x8 ⟨rfl, hb8⟩
          replace HX : Hid (Below w.heap.size w x8) := hide (below_trans HX.out hb8)
          have ST8 : Hid _ := hide (ST7.out.below hb8)
          clear hb8 ST7
          clear d0 d1 d2 p0 p1 p2 p3 g0 g1 g2
          have d0 := ST8.out.kd.c 0 _ rfl
          have d1 := ST8.out.kd.c 1 _ rfl
          have d2 := ST8.out.kd.c 2 _ rfl
          have p0 := ST8.out.kp.c 0 _ rfl
          have p1 := ST8.out.kp.c 1 _ rfl
          have p2 := ST8.out.kp.c 2 _ rfl
          have p3 := ST8.out.kp.c 3 _ rfl
          have g0 := ST8.out.ka.c 0 _ rfl
          have g1 := ST8.out.ka.c 1 _ rfl
          have g2 := ST8.out.ka.c 2 _ rfl
          go_wp2_with fail
          refine (sameFiles_any b2 a2 S S e2 c2 x8 HSM.out.2.1.1 HSM.out.2.1.1 ST8.out.ra.r2 ST8.out.rd.r2).mono ?_
          rintro e x9 ⟨rfl, hb9⟩
          replace HX : Hid (Below w.heap.size w x9) := hide (below_trans HX.out hb9)
          have ST9 : Hid _ := hide (ST8.out.below hb9)
          rw [show decide (S = S) = true by simp]
          clear hb9 ST8
          clear d0 d1 d2 p0 p1 p2 p3 g0 g1 g2
          have d0 := ST9.out.kd.c 0 _ rfl
          have d1 := ST9.out.kd.c 1 _ rfl
          have d2 := ST9.out.kd.c 2 _ rfl
          have p0 := ST9.out.kp.c 0 _ rfl
          have p1 := ST9.out.kp.c 1 _ rfl
          have p2 := ST9.out.kp.c 2 _ rfl
          have p3 := ST9.out.kp.c 3 _ rfl
          have g0 := ST9.out.ka.c 0 _ rfl
          have g1 := ST9.out.ka.c 1 _ rfl
          have g2 := ST9.out.ka.c 2 _ rfl
          go_wp2
          go_ret
          exact ⟨rfl, HX.out⟩
        · have hhs : hasN L o.nm = true := by
            have h9 := HDD.out
            obtain ⟨kind, nm, tn, da⟩ := o
            simp only at kk
            subst kk
            rw [do_ren] at h9
            cases e : hasN L nm with
            | true => rfl
            | false => rw [e] at h9; cases h9
          have HAL : Hid (AL = putL (cutL L o.nm) o.tn (dataL L o.nm)) := hide (by
            rw [HLV.out]
            obtain ⟨kind, nm, tn, da⟩ := o
            simp only at kk
            subst kk
            rw [do_ren, hhs, if_pos rfl])
          have HFT : Hid (fndS AL o.tn = (dataL L o.nm, true)) := hide (by rw [HAL.out]; exact fnd_ren HSR.out)
          have HFO : Hid (fndS L o.nm = (dataL L o.nm, true)) := hide (fnd_some hhs)
          have HFN : Hid ((fndS AL o.nm).2 = (o.tn.toList == o.nm.toList)) := hide (by
            by_cases e : o.nm = o.tn
            · rw [e, HFT.out]
              exact (beq_bytes.2 rfl).symm
            · rw [HAL.out, fnd_ren2 HSR.out e, beq_no (fun z => e z.symm)])
          have hk1 : (o.kind == 1) = false := by simp [kk]
          have hk2 : (o.kind == 2) = true := by simpa using kk
          clear kk hhs hod
          go_wp2_with fail
          refine (HFS.out o.nm x5 HBX.out ST5.out.ra).mono ?_
          rintro e x6 ⟨rfl, hb6⟩
          have hB56 := hb6
          replace HX : Hid (Below w.heap.size w x6) := hide (below_trans HX.out hb6)
          have ST6 : Hid _ := hide (ST5.out.below hb6)
          rw [HFN.out]
          clear hb6 ST5
          clear d0 d1 d2 p0 p1 p2 p3 g0 g1 g2
          have d0 := ST6.out.kd.c 0 _ rfl
          have d1 := ST6.out.kd.c 1 _ rfl
          have d2 := ST6.out.kd.c 2 _ rfl
          have p0 := ST6.out.kp.c 0 _ rfl
          have p1 := ST6.out.kp.c 1 _ rfl
          have p2 := ST6.out.kp.c 2 _ rfl
          have p3 := ST6.out.kp.c 3 _ rfl
          have g0 := ST6.out.ka.c 0 _ rfl
          have g1 := ST6.out.ka.c 1 _ rfl
          have g2 := ST6.out.ka.c 2 _ rfl
          go_wp2_with fail
          refine (HFD.out x6 ST6.out.rd).mono ?_
          rintro e x7 ⟨rfl, hb7⟩
          replace HX : Hid (Below w.heap.size w x7) := hide (below_trans HX.out hb7)
          have ST7 : Hid _ := hide (ST6.out.below hb7)
          rw [HFO.out]
          have hB57 := below_trans hB56 hb7
          clear hb7 ST6
          clear d0 d1 d2 p0 p1 p2 p3 g0 g1 g2
          have d0 := ST7.out.kd.c 0 _ rfl
          have d1 := ST7.out.kd.c 1 _ rfl
          have d2 := ST7.out.kd.c 2 _ rfl
          have p0 := ST7.out.kp.c 0 _ rfl
          have p1 := ST7.out.kp.c 1 _ rfl
          have p2 := ST7.out.kp.c 2 _ rfl
          have p3 := ST7.out.kp.c 3 _ rfl
          have g0 := ST7.out.ka.c 0 _ rfl
          have g1 := ST7.out.ka.c 1 _ rfl
          have g2 := ST7.out.ka.c 2 _ rfl
          generalize (fndS AL o.nm).1 = an at *
          generalize dataL L o.nm = od at *
          go_wp2_with fail
          refine (HFS.out o.tn x7 hB57 ST7.out.ra).mono ?_
          rintro e x8 ⟨rfl, hb8⟩
          replace HX : Hid (Below w.heap.size w x8) := hide (below_trans HX.out hb8)
          have ST8 : Hid _ := hide (ST7.out.below hb8)
          rw [HFT.out]
          clear hB56 hB57
          clear hb8 ST7
          clear d0 d1 d2 p0 p1 p2 p3 g0 g1 g2
          have d0 := ST8.out.kd.c 0 _ rfl
          have d1 := ST8.out.kd.c 1 _ rfl
          have d2 := ST8.out.kd.c 2 _ rfl
          have p0 := ST8.out.kp.c 0 _ rfl
          have p1 := ST8.out.kp.c 1 _ rfl
          have p2 := ST8.out.kp.c 2 _ rfl
          have p3 := ST8.out.kp.c 3 _ rfl
          have g0 := ST8.out.ka.c 0 _ rfl
          have g1 := ST8.out.ka.c 1 _ rfl
          have g2 := ST8.out.ka.c 2 _ rfl
          have hsame : ((o.tn.toList == o.nm.toList) != (o.tn.toList == o.nm.toList)) = false := by simp
          go_wp2_with fail
          refine (HFK.out x8 ST8.out.ra).mono ?_
          rintro e x9 ⟨rfl, hb9⟩
          replace HX : Hid (Below w.heap.size w x9) := hide (below_trans HX.out hb9)
          have ST9 : Hid _ := hide (ST8.out.below hb9)
          clear hb9 ST8
          clear d0 d1 d2 p0 p1 p2 p3 g0 g1 g2
          have d0 := ST9.out.kd.c 0 _ rfl
          have d1 := ST9.out.kd.c 1 _ rfl
          have d2 := ST9.out.kd.c 2 _ rfl
          have p0 := ST9.out.kp.c 0 _ rfl
          have p1 := ST9.out.kp.c 1 _ rfl
          have p2 := ST9.out.kp.c 2 _ rfl
          have p3 := ST9.out.kp.c 3 _ rfl
          have g0 := ST9.out.ka.c 0 _ rfl
          have g1 := ST9.out.ka.c 1 _ rfl
          have g2 := ST9.out.ka.c 2 _ rfl
          go_wp2_with fail
          refine (sameFiles_any b2 a2 S S e2 c2 x9 HSM.out.2.1.1 HSM.out.2.1.1 ST9.out.ra.r2 ST9.out.rd.r2).mono ?_
          rintro e x10 ⟨rfl, hb10⟩
          replace HX : Hid (Below w.heap.size w x10) := hide (below_trans HX.out hb10)
          have ST10 : Hid _ := hide (ST9.out.below hb10)
          rw [show decide (S = S) = true by simp]
          clear hb10 ST9
          clear d0 d1 d2 p0 p1 p2 p3 g0 g1 g2
          have d0 := ST10.out.kd.c 0 _ rfl
          have d1 := ST10.out.kd.c 1 _ rfl
          have d2 := ST10.out.kd.c 2 _ rfl
          have p0 := ST10.out.kp.c 0 _ rfl
          have p1 := ST10.out.kp.c 1 _ rfl
          have p2 := ST10.out.kp.c 2 _ rfl
          have p3 := ST10.out.kp.c 3 _ rfl
          have g0 := ST10.out.ka.c 0 _ rfl
          have g1 := ST10.out.ka.c 1 _ rfl
          have g2 := ST10.out.ka.c 2 _ rfl
          go_wp2
          go_ret
          exact ⟨rfl, HX.out⟩
        · have HFA : Hid ((fndS AL o.nm).2 = false) := hide (by
            have h9 := HDD.out
            rw [HLV.out]
            obtain ⟨kind, nm, tn, da⟩ := o
            simp only at kk
            subst kk
            rw [do_rem] at h9 ⊢
            cases e : hasN L nm with
            | true => rw [if_pos rfl, fnd_rem]
            | false => rw [e] at h9; cases h9)
          have hk1 : (o.kind == 1) = false := by simp [kk]
          have hk2 : (o.kind == 2) = false := by simp [kk]
          have hk3 : (o.kind == 3) = true := by simpa using kk
          clear kk
          go_wp2_with fail
          refine (HFS.out o.nm x5 HBX.out ST5.out.ra).mono ?_
          rintro e x6 ⟨rfl, hb6⟩
          replace HX : Hid (Below w.heap.size w x6) := hide (below_trans HX.out hb6)
          have ST6 : Hid _ := hide (ST5.out.below hb6)
          rw [HFA.out]
          clear hb6 ST5
          clear d0 d1 d2 p0 p1 p2 p3 g0 g1 g2
          have d0 := ST6.out.kd.c 0 _ rfl
          have d1 := ST6.out.kd.c 1 _ rfl
          have d2 := ST6.out.kd.c 2 _ rfl
          have p0 := ST6.out.kp.c 0 _ rfl
          have p1 := ST6.out.kp.c 1 _ rfl
          have p2 := ST6.out.kp.c 2 _ rfl
          have p3 := ST6.out.kp.c 3 _ rfl
          have g0 := ST6.out.ka.c 0 _ rfl
          have g1 := ST6.out.ka.c 1 _ rfl
          have g2 := ST6.out.ka.c 2 _ rfl
          go_wp2_with fail
          refine (HFD.out x6 ST6.out.rd).mono ?_
          rintro e x7 ⟨rfl, hb7⟩
          replace HX : Hid (Below w.heap.size w x7) := hide (below_trans HX.out hb7)
          have ST7 : Hid _ := hide (ST6.out.below hb7)
          clear hb7 ST6
          clear d0 d1 d2 p0 p1 p2 p3 g0 g1 g2
          have d0 := ST7.out.kd.c 0 _ rfl
          have d1 := ST7.out.kd.c 1 _ rfl
          have d2 := ST7.out.kd.c 2 _ rfl
          have p0 := ST7.out.kp.c 0 _ rfl
          have p1 := ST7.out.kp.c 1 _ rfl
          have p2 := ST7.out.kp.c 2 _ rfl
          have p3 := ST7.out.kp.c 3 _ rfl
          have g0 := ST7.out.ka.c 0 _ rfl
          have g1 := ST7.out.ka.c 1 _ rfl
          have g2 := ST7.out.ka.c 2 _ rfl
          generalize (fndS AL o.nm).1 = an at *
          generalize (fndS L o.nm).2 = ob at *
          generalize (fndS L o.nm).1 = od at *
          go_wp2_with fail
          refine (HFK.out x7 ST7.out.ra).mono ?_
          rintro e x8 ⟨rfl, hb8⟩
          replace HX : Hid (Below w.heap.size w x8) := hide (below_trans HX.out hb8)
          have ST8 : Hid _ := hide (ST7.out.below hb8)
          clear hb8 ST7
          clear d0 d1 d2 p0 p1 p2 p3 g0 g1 g2
          have d0 := ST8.out.kd.c 0 _ rfl
          have d1 := ST8.out.kd.c 1 _ rfl
          have d2 := ST8.out.kd.c 2 _ rfl
          have p0 := ST8.out.kp.c 0 _ rfl
          have p1 := ST8.out.kp.c 1 _ rfl
          have p2 := ST8.out.kp.c 2 _ rfl
          have p3 := ST8.out.kp.c 3 _ rfl
          have g0 := ST8.out.ka.c 0 _ rfl
          have g1 := ST8.out.ka.c 1 _ rfl
          have g2 := ST8.out.ka.c 2 _ rfl
          go_wp2_with fail
          refine (sameFiles_any b2 a2 S S e2 c2 x8 HSM.out.2.1.1 HSM.out.2.1.1 ST8.out.ra.r2 ST8.out.rd.r2).mono ?_
          rintro e x9 ⟨rfl, hb9⟩
          replace HX : Hid (Below w.heap.size w x9) := hide (below_trans HX.out hb9)
          have ST9 : Hid _ := hide (ST8.out.below hb9)
          rw [show decide (S = S) = true by simp]
          clear hb9 ST8
          clear d0 d1 d2 p0 p1 p2 p3 g0 g1 g2
          have d0 := ST9.out.kd.c 0 _ rfl
          have d1 := ST9.out.kd.c 1 _ rfl
          have d2 := ST9.out.kd.c 2 _ rfl
          have p0 := ST9.out.kp.c 0 _ rfl
          have p1 := ST9.out.kp.c 1 _ rfl
          have p2 := ST9.out.kp.c 2 _ rfl
          have p3 := ST9.out.kp.c 3 _ rfl
          have g0 := ST9.out.ka.c 0 _ rfl
          have g1 := ST9.out.ka.c 1 _ rfl
          have g2 := ST9.out.ka.c 2 _ rfl
          go_wp2
          go_ret
          exact ⟨rfl, HX.out⟩
      · have HU : Hid _ := hide (undone_of hB hc)
        have hc1 : (doCv L S O o != 0) = true := by simpa using hc
        have HBB : Hid _ := hide hB
        clear hB hc
        generalize doCv L S O o = cv at *
        obtain ⟨u1, u2, u3⟩ := HU.out
        rw [u1] at ST5 SMA g0 ⊢
        rw [u2] at ST5 SMA g1 ⊢
        rw [u3] at ST5 SMA g2 ⊢
        clear u1 u2 u3 HU
        go_wp2_with fail
        refine (sameFiles_any b1 a1 L L e1 c1 x5 HSM.out.1.1 HSM.out.1.1 ST5.out.ra.r1 ST5.out.rd.r1).mono ?_
        rintro e x6 ⟨rfl, hb6⟩
        replace HX : Hid (Below w.heap.size w x6) := hide (below_trans HX.out hb6)
        have ST6 : Hid _ := hide (ST5.out.below hb6)
        rw [show decide (L = L) = true by simp]
        clear hb6 ST5
        clear d0 d1 d2 p0 p1 p2 p3 g0 g1 g2
        have d0 := ST6.out.kd.c 0 _ rfl
        have d1 := ST6.out.kd.c 1 _ rfl
        have d2 := ST6.out.kd.c 2 _ rfl
        have p0 := ST6.out.kp.c 0 _ rfl
        have p1 := ST6.out.kp.c 1 _ rfl
        have p2 := ST6.out.kp.c 2 _ rfl
        have p3 := ST6.out.kp.c 3 _ rfl
        have g0 := ST6.out.ka.c 0 _ rfl
        have g1 := ST6.out.ka.c 1 _ rfl
        have g2 := ST6.out.ka.c 2 _ rfl
        go_wp2_with fail
        refine (sameFiles_any b2 a2 S S e2 c2 x6 HSM.out.2.1.1 HSM.out.2.1.1 ST6.out.ra.r2 ST6.out.rd.r2).mono ?_
        rintro e x7 ⟨rfl, hb7⟩
        replace HX : Hid (Below w.heap.size w x7) := hide (below_trans HX.out hb7)
        have ST7 : Hid _ := hide (ST6.out.below hb7)
        rw [show decide (S = S) = true by simp]
        clear hb7 ST6
        clear d0 d1 d2 p0 p1 p2 p3 g0 g1 g2
        have d0 := ST7.out.kd.c 0 _ rfl
        have d1 := ST7.out.kd.c 1 _ rfl
        have d2 := ST7.out.kd.c 2 _ rfl
        have p0 := ST7.out.kp.c 0 _ rfl
        have p1 := ST7.out.kp.c 1 _ rfl
        have p2 := ST7.out.kp.c 2 _ rfl
        have p3 := ST7.out.kp.c 3 _ rfl
        have g0 := ST7.out.ka.c 0 _ rfl
        have g1 := ST7.out.ka.c 1 _ rfl
        have g2 := ST7.out.ka.c 2 _ rfl
        go_wp2
        go_ret
        exact ⟨rfl, HX.out⟩
end Go.Proofs.Ytiilkkdbifhojaa
