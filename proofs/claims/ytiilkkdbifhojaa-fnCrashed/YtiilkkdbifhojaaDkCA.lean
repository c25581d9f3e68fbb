/- The program's Crash. -/
import Derived.Test.YtiilkkdbifhojaaDkC9
import Derived.Test.YtiilkkdbifhojaaDkP4
namespace Go.Proofs.Ytiilkkdbifhojaa
open Go.ChangeShapes Go.WideShapes Go.ChangeAt Go.RowKit Go.Maps
set_option linter.unusedVariables false
set_option maxRecDepth 100000
/-- a new disk of the call's own, and whether it is one -/
def DiskKE (b : Bool) (L S : List Fl) (O : List Dp) (w : World) (e : Ending) (w' : World) : Prop := Below w.heap.size w w' ∧ ∃ (a1 a2 a3 : Option Addr) (c1 c2 c3 g1 g2 g3 : Nat), e = .returned (.tuple #[.agg #[.slice a1 L.length c1, .slice a2 S.length c2, .slice a3 O.length c3], .bool b]) ∧ OwnR w.heap.size w'.heap.size a1 a2 a3 c1 c2 c3 g1 g2 g3 L S O w'
theorem kzeroE {w y : World} {b : Bool} (hy : Below w.heap.size w y) :
    DiskKE b [] [] [] w (.returned (.tuple #[.agg #[.slice none 0 0, .slice none 0 0, .slice none 0 0], .bool b])) (((y.setCell ⟨w.heap.size + 1, 0, none⟩ (.slice none 0 0)).setCell ⟨w.heap.size + 1, 1, none⟩ (.slice none 0 0)).setCell ⟨w.heap.size + 1, 2, none⟩ (.slice none 0 0)) :=
  ⟨((hy.setCell (p := ⟨w.heap.size + 1, 0, none⟩) (by show w.heap.size ≤ w.heap.size + 1; omega) _).setCell (p := ⟨w.heap.size + 1, 1, none⟩) (by show w.heap.size ≤ w.heap.size + 1; omega) _).setCell (p := ⟨w.heap.size + 1, 2, none⟩) (by show w.heap.size ≤ w.heap.size + 1; omega) _, none, none, none, 0, 0, 0, 0, 0, 0, rfl, OwnR.none3⟩
theorem OwnR.move {lo lo' hi : Nat} {a1 a2 a3 : Option Addr} {c1 c2 c3 g1 g2 g3 : Nat} {live safe : List Fl} {ops : List Dp} {x y : World} (h : OwnR lo hi a1 a2 a3 c1 c2 c3 g1 g2 g3 live safe ops x) (hl : lo' ≤ lo) (e : ∀ g, lo ≤ g → y.heap[g]? = x.heap[g]?) : OwnR lo' hi a1 a2 a3 c1 c2 c3 g1 g2 g3 live safe ops y :=
  ⟨h.o1.keepB (fun p => e _ (h.i1 p).1), h.o2.keepB (fun p => e _ (h.i2 p).1), h.o3.keepB (fun p => e _ (h.i3 p).1), h.d12, h.d13, h.d23, fun p => ⟨Nat.le_trans hl (h.i1 p).1, (h.i1 p).2⟩, fun p => ⟨Nat.le_trans hl (h.i2 p).1, (h.i2 p).2⟩, fun p => ⟨Nat.le_trans hl (h.i3 p).1, (h.i3 p).2⟩⟩
/-- what the loop carries on -/
structure CrI (w : World) (B m g : Nat) (va : Option Addr) (vc : Nat) (os : List Dp) (N : Nat) (l : List Fl) (x : World) : Prop where
  bel : Below w.heap.size w x
  lo : w.heap.size + 2 ≤ B
  res : Blk (w.heap.size + 1) [.slice none 0 0, .slice none 0 0, .slice none 0 0] x
  sh : ∃ β, Shelf B m l β N x ∧ AwayS m l β g
  row : OwnRow 1 opCells x g va vc os
theorem CrI.below {w : World} {B m g : Nat} {va : Option Addr} {vc : Nat} {os : List Dp} {N : Nat} {l : List Fl} {x y : World} (h : CrI w B m g va vc os N l x) (b : Below x.heap.size x y) : CrI w B m g va vc os N l y := by
  obtain ⟨β, h1, h2⟩ := h.sh
  exact ⟨below_trans h.bel b, h.lo, h.res.below b, ⟨β, h1.below b, h2⟩, h.row.below b⟩
theorem CrI.mono {w : World} {B m g : Nat} {va : Option Addr} {vc : Nat} {os : List Dp} {N N' : Nat} {l : List Fl} {x : World} (h : CrI w B m g va vc os N l x) (hN : N ≤ N') : CrI w B m g va vc os N' l x := by
  obtain ⟨β, h1, h2⟩ := h.sh
  exact ⟨h.bel, h.lo, h.res, ⟨β, h1.mono hN, h2⟩, h.row⟩
theorem CrI.done {w : World} {B m g : Nat} {va : Option Addr} {vc : Nat} {os : List Dp} {N N' : Nat} {l l' : List Fl} {β : ByteArray → Bd} {x y : World} {e : Ending} (h : CrI w B m g va vc os N l x) (h0 : 0 < os.length) (haw : AwayS m l β g) (hd : DoneK B m N' l β l' x e y) : CrI w B m g va vc os N' l' y := by
  obtain ⟨_, hb, β', h1, h2, h3⟩ := hd
  obtain ⟨k1, k2⟩ := h3 g (h.row.lt h0) haw
  have := h.lo
  exact ⟨h.bel.trans (hb.mono (by omega)), h.lo, h.res.same (hb.block _ (by omega)) h2, ⟨β', h1, k2⟩, h.row.keepB (fun _ => k1)⟩
set_option maxHeartbeats 16000000 in
theorem implCrash_any (la sa oa ka : Option Addr) (lc sc oc kc : Nat) (live safe : List Fl) (ops : List Dp) (keep : List Int) (torn : Int) (w : World) (hm : SmD live safe ops) (hk0 : keep.length ≤ 1048576) (h : DkAt w la sa oa live safe ops) (hp : RowAt 1 i64Cells w ka keep) :
    Calls Try.prog 9 #[.agg #[.slice la live.length lc, .slice sa safe.length sc, .slice oa ops.length oc], .slice ka keep.length kc, .int .i64 torn] w fun e w' => DiskKE (crsB live safe ops keep torn) (crsL live safe ops keep torn) (crsL live safe ops keep torn) [] w e w' := by
  have HL : Hid _ := hide h
  have HP : Hid _ := hide hp
  have HM : Hid _ := hide hm
  have ho2 : ops.length ≤ 1048576 := hm.2.2.1
  clear h hm hp
  obtain ⟨w0, hwa⟩ : ∃ wa, wa = ((w.alloc (.cells #[.slice la live.length lc, .slice sa safe.length sc, .slice oa ops.length oc] 27)).alloc (.cells #[.slice none 0 0, .slice none 0 0, .slice none 0 0] 27)) := ⟨_, rfl⟩
  have HW : Hid (((w.alloc (.cells #[.slice la live.length lc, .slice sa safe.length sc, .slice oa ops.length oc] 27)).alloc (.cells #[.slice none 0 0, .slice none 0 0, .slice none 0 0] 27)) = w0) := hide hwa.symm
  have KX0 : Hid (Blk w.heap.size [.slice la live.length lc, .slice sa safe.length sc, .slice oa ops.length oc] w0) := hide (by rw [hwa]; exact Blk.new.alloc _)
  have KR0 : Hid (Blk (w.heap.size + 1) [.slice none 0 0, .slice none 0 0, .slice none 0 0] w0) := hide (by rw [hwa]; exact (by simpa using Blk.new (w := w.alloc (.cells #[.slice la live.length lc, .slice sa safe.length sc, .slice oa ops.length oc] 27)) (cur := [.slice none 0 0, .slice none 0 0, .slice none 0 0]) (T := 27)))
  have HX0 : Hid (Below w.heap.size w w0 ∧ w.heap.size + 2 ≤ w0.heap.size) := hide ⟨by rw [hwa]; exact below_alloc (below_alloc (Below.refl _ _) _) _, by rw [hwa]; simp⟩
  clear hwa
  go_enter Try.func9, Try.ntmps9
  go_wp2_with fail
  rw [HW.out]
  have hd0 := HL.out.below HX0.out.1
  refine (implDiskOk_any la sa oa lc sc oc live safe ops w0 HM.out.1.1 HM.out.2.1.1 HM.out.2.2.1 HM.out.1.f HM.out.2.1.f HM.out.2.2.2 hd0.r1 hd0.r2 hd0.r3).mono ?_
  rintro e w1 ⟨rfl, hb1⟩
  clear hd0
  have HX1 : Hid (Below w.heap.size w w1 ∧ w.heap.size + 2 ≤ w1.heap.size) := hide ⟨below_trans HX0.out.1 hb1, Nat.le_trans HX0.out.2 hb1.size⟩
  have KX1 : Hid _ := hide (KX0.out.below hb1)
  have KR1 : Hid _ := hide (KR0.out.below hb1)
  clear hb1 KX0 KR0 HX0
  have k0 := KX1.out.c 0 _ rfl
  have k1 := KX1.out.c 1 _ rfl
  have k2 := KX1.out.c 2 _ rfl
  cases hB : diskB ⟨live, safe, ops⟩
  · have e1 : crsB live safe ops keep torn = false := by simp [crsB, hB]
    have e2 := crs_no e1
    have HE : Hid (DiskKE (crsB live safe ops keep torn) (crsL live safe ops keep torn) (crsL live safe ops keep torn) [] w (.returned (.tuple #[.agg #[.slice none 0 0, .slice none 0 0, .slice none 0 0], .bool false])) (((w1.setCell ⟨w.heap.size + 1, 0, none⟩ (.slice none 0 0)).setCell ⟨w.heap.size + 1, 1, none⟩ (.slice none 0 0)).setCell ⟨w.heap.size + 1, 2, none⟩ (.slice none 0 0))) := hide (by
      rw [e1, e2]
      exact kzeroE (HX1.out.1))
    have HS : Hid (∃ Y, (((w1.setCell ⟨w.heap.size + 1, 0, none⟩ (.slice none 0 0)).setCell ⟨w.heap.size + 1, 1, none⟩ (.slice none 0 0)).setCell ⟨w.heap.size + 1, 2, none⟩ (.slice none 0 0)) = Y ∧ Blk (w.heap.size + 1) [.slice none 0 0, .slice none 0 0, .slice none 0 0] Y) := hide ⟨_, rfl, (((KR1.out).set 0 (.slice none 0 0) (by simp)).set 1 (.slice none 0 0) (by simp)).set 2 (.slice none 0 0) (by simp)⟩
    have y0 := (KR1.out).c 0 _ rfl
    have y1 := (KR1.out).c 1 _ rfl
    have y2 := (KR1.out).c 2 _ rfl
    have f0 := (KR1.out).f 0
    have f1 := (KR1.out).f 1
    have f2 := (KR1.out).f 2
    clear e1 e2
    go_wp2
    obtain ⟨Y, hY, kY⟩ := HS.out
    rw [hY] at HE ⊢
    have z0 := kY.c 0 _ rfl
    have z1 := kY.c 1 _ rfl
    have z2 := kY.c 2 _ rfl
    exact bodyPost_ret (v := .tuple #[.agg #[.slice none 0 0, .slice none 0 0, .slice none 0 0], .bool false]) (by simp [results, Try.results9, go_sem, z0, z1, z2]) rfl HE.out
  · have HB : Hid _ := hide hB
    clear hB
    go_wp2_with fail
    refine (placesOk_any ka keep kc ops.length w1 hk0 ho2 (HP.out.below HX1.out.1)).mono ?_
    rintro e w2 ⟨rfl, hw2⟩
    rw [hw2]
    clear hw2 w2
    cases hPl : placesB keep ops.length
    · have e1 : crsB live safe ops keep torn = false := by simp [crsB, hPl]
      have e2 := crs_no e1
      have HE : Hid (DiskKE (crsB live safe ops keep torn) (crsL live safe ops keep torn) (crsL live safe ops keep torn) [] w (.returned (.tuple #[.agg #[.slice none 0 0, .slice none 0 0, .slice none 0 0], .bool false])) (((w1.setCell ⟨w.heap.size + 1, 0, none⟩ (.slice none 0 0)).setCell ⟨w.heap.size + 1, 1, none⟩ (.slice none 0 0)).setCell ⟨w.heap.size + 1, 2, none⟩ (.slice none 0 0))) := hide (by
        rw [e1, e2]
        exact kzeroE (HX1.out.1))
      have HS : Hid (∃ Y, (((w1.setCell ⟨w.heap.size + 1, 0, none⟩ (.slice none 0 0)).setCell ⟨w.heap.size + 1, 1, none⟩ (.slice none 0 0)).setCell ⟨w.heap.size + 1, 2, none⟩ (.slice none 0 0)) = Y ∧ Blk (w.heap.size + 1) [.slice none 0 0, .slice none 0 0, .slice none 0 0] Y) := hide ⟨_, rfl, (((KR1.out).set 0 (.slice none 0 0) (by simp)).set 1 (.slice none 0 0) (by simp)).set 2 (.slice none 0 0) (by simp)⟩
      have y0 := (KR1.out).c 0 _ rfl
      have y1 := (KR1.out).c 1 _ rfl
      have y2 := (KR1.out).c 2 _ rfl
      have f0 := (KR1.out).f 0
      have f1 := (KR1.out).f 1
      have f2 := (KR1.out).f 2
      clear e1 e2
      go_wp2
      obtain ⟨Y, hY, kY⟩ := HS.out
      rw [hY] at HE ⊢
      have z0 := kY.c 0 _ rfl
      have z1 := kY.c 1 _ rfl
      have z2 := kY.c 2 _ rfl
      exact bodyPost_ret (v := .tuple #[.agg #[.slice none 0 0, .slice none 0 0, .slice none 0 0], .bool false]) (by simp [results, Try.results9, go_sem, z0, z1, z2]) rfl HE.out
    · by_cases ht : torn < 0
      · have e1 : crsB live safe ops keep torn = false := by simp [crsB, show ¬ 0 ≤ torn by omega]
        have e2 := crs_no e1
        have HE : Hid (DiskKE (crsB live safe ops keep torn) (crsL live safe ops keep torn) (crsL live safe ops keep torn) [] w (.returned (.tuple #[.agg #[.slice none 0 0, .slice none 0 0, .slice none 0 0], .bool false])) (((w1.setCell ⟨w.heap.size + 1, 0, none⟩ (.slice none 0 0)).setCell ⟨w.heap.size + 1, 1, none⟩ (.slice none 0 0)).setCell ⟨w.heap.size + 1, 2, none⟩ (.slice none 0 0))) := hide (by
          rw [e1, e2]
          exact kzeroE (HX1.out.1))
        have HS : Hid (∃ Y, (((w1.setCell ⟨w.heap.size + 1, 0, none⟩ (.slice none 0 0)).setCell ⟨w.heap.size + 1, 1, none⟩ (.slice none 0 0)).setCell ⟨w.heap.size + 1, 2, none⟩ (.slice none 0 0)) = Y ∧ Blk (w.heap.size + 1) [.slice none 0 0, .slice none 0 0, .slice none 0 0] Y) := hide ⟨_, rfl, (((KR1.out).set 0 (.slice none 0 0) (by simp)).set 1 (.slice none 0 0) (by simp)).set 2 (.slice none 0 0) (by simp)⟩
        have y0 := (KR1.out).c 0 _ rfl
        have y1 := (KR1.out).c 1 _ rfl
        have y2 := (KR1.out).c 2 _ rfl
        have f0 := (KR1.out).f 0
        have f1 := (KR1.out).f 1
        have f2 := (KR1.out).f 2
        clear e1 e2
        go_wp2
        obtain ⟨Y, hY, kY⟩ := HS.out
        rw [hY] at HE ⊢
        have z0 := kY.c 0 _ rfl
        have z1 := kY.c 1 _ rfl
        have z2 := kY.c 2 _ rfl
        exact bodyPost_ret (v := .tuple #[.agg #[.slice none 0 0, .slice none 0 0, .slice none 0 0], .bool false]) (by simp [results, Try.results9, go_sem, z0, z1, z2]) rfl HE.out
      · obtain ⟨n, rfl⟩ : ∃ n : Nat, torn = (n : Int) := ⟨torn.toNat, by omega⟩
        have HPL : Hid _ := hide hPl
        clear hPl
        have HF : Hid (filesB safe = true) := hide (diskB_parts HB.out).2.1
        have HOL : Hid (ops.length ≤ 200) := hide (diskB_parts HB.out).2.2
        have HKL : Hid (keep.length ≤ 200) := hide (Nat.le_trans (places_len HPL.out) HOL.out)
        have hs60 : safe.length ≤ 60 := (filesB_parts HF.out).1
        go_wp2_with fail
        refine (shelfOf_any sa safe sc w1 hs60 HM.out.2.1.f.g0 (filesB_srt HF.out) (HL.out.r2.below HX1.out.1)).mono ?_
        rintro e w2 ⟨hb2, m, β0, rfl, hsh⟩
        have KX2 := KX1.out.below hb2
        have k3 := KX2.c 0 _ rfl
        have k4 := KX2.c 1 _ rfl
        have k5 := KX2.c 2 _ rfl
        have HS2 : Hid _ := hide hsh
        have HX2 : Hid _ := hide (below_trans HX1.out.1 hb2)
        have KR2 : Hid _ := hide (KR1.out.below hb2)
        clear hb2 hsh k0 k1 k2 KX1 KX2
        go_wp2_with fail
        refine (keptOps_any oa ka oc kc ops keep n w2 HKL.out HOL.out HPL.out HM.out.2.2.2 (fun o ho => (disk_small HB.out o ho).1) (HL.out.r3.below HX2.out) (HP.out.below HX2.out)).mono ?_
        rintro e w3 ⟨hb3, g, va, vc, hg, rfl, how⟩
        have HSM : Hid _ := hide (crs_small (torn := (n : Int)) HB.out HPL.out)
        have HLN : Hid _ := hide (crs_len ops keep (n : Int))
        have HC1 : Hid (∀ b, filesB (goL safe (crsO ops keep (n : Int))) = b → crsB live safe ops keep (n : Int) = b) := hide (fun b q => by simp [crsB, HB.out, HPL.out, q])
        have HC2 : Hid (filesB (goL safe (crsO ops keep (n : Int))) = true → crsL live safe ops keep (n : Int) = goL safe (crsO ops keep (n : Int))) := hide (fun q => by simp [crsL, HC1.out true q])
        have HC3 : Hid (filesB (goL safe (crsO ops keep (n : Int))) = false → crsL live safe ops keep (n : Int) = []) := hide (fun q => crs_no (HC1.out false q))
        have HI : Hid (CrI w w1.heap.size m g va vc (crsO ops keep (n : Int)) (safe.length + 0) (goL safe ((crsO ops keep (n : Int)).take 0)) w3) := hide (by
          have hs2 := HS2.out
          refine ⟨below_trans HX2.out hb3, HX1.out.2, KR2.out.below hb3, ⟨β0, ?_, ?_, fun f hf => ?_⟩, how⟩
          · simpa [goL] using hs2.below hb3
          · have := hs2.lt; omega
          · have hf2 : f ∈ safe := by simpa [goL] using hf
            intro q
            have := (hs2.rows f hf2).lt g q
            omega)
        clear hb3 how hg k3 k4 k5
        generalize crsO ops keep (n : Int) = os at *
        generalize w1.heap.size = B at *
        have hos : os.length ≤ 200 := by rw [HLN.out]; exact HKL.out
        have HBD : Hid _ := hide (goL_bd (filesB_srt HF.out) (filesB_parts HF.out).2.2 hs60 os (fun o ho => (HSM.out o ho).2))
        have HNM : Hid _ := hide (goL_nms os (fun f hf => filesB_nms HF.out f hf) (fun o ho => (HSM.out o ho).1))
        go_wp2
        go_loopw [36] (fun i wr => ∃ k : Nat, k ≤ os.length ∧ i = .int .i64 (k : Int) ∧ Hid (CrI w B m g va vc os (safe.length + k) (goL safe (os.take k)) wr)) (fun i wr => os.length - (intOf i).toNat)
        case atStart => exact ⟨0, Nat.zero_le _, rfl, HI⟩
        case round =>
          clear HI HS2 KR2 HX1 KR1 HX2
          obtain ⟨k, hk, rfl, HI⟩ := hrel
          by_cases hlt : k < os.length
          · have hlt' : (k : Int) < (os.length : Int) := by omega
            obtain ⟨e1, hgl, c0, _⟩ := own_op HI.out.row k hlt
            subst e1
            have HGN : Hid _ := hide (goL_next safe os k hlt)
            have HOK : Hid _ := hide (HSM.out os[k] (List.getElem_mem hlt))
            have HB1 : Hid _ := hide (HBD.out k (by omega))
            have h0 : 0 < os.length := by omega
            generalize goL safe (os.take k) = G0 at *
            generalize os[k] = o at *
            obtain ⟨kind, nm, tn, da⟩ := o
            obtain ⟨hf1, hda⟩ := HOK.out
            simp only at hda
            have hnm : nm.size ≤ 100 := by
              simp only [formB, nmB, inB, Bool.and_eq_true, decide_eq_true_eq] at hf1
              omega
            have htn : kind = 2 → tn.size ≤ 100 := fun q => by
              subst q
              simp only [formB, nmB, inB, Bool.and_eq_true, decide_eq_true_eq, beq_self_eq_true, if_true] at hf1
              omega
            have hdz : datL G0 ≤ 1000000000 := by have := HB1.out.2.2; omega
            obtain ⟨β, hsh, haw⟩ := HI.out.sh
            have HSH : Hid _ := hide hsh
            have HAW : Hid _ := hide haw
            clear hsh haw
            rcases kind_of hf1 with kk | kk | kk
            · simp only at kk
              subst kk
              have HG : Hid ((goL safe (os.take (k + 1))) = putL G0 nm (appD G0 nm da)) := hide (by rw [HGN.out, do_app])
              have eo : opV ⟨1, nm, tn, da⟩ = .iface 96 (.agg #[.string nm, .string da]) := rfl
              rw [eo] at c0
              clear HGN htn hf1 HOK
              go_wp2_with fail
              refine upon_invoke 108 #[.agg #[.string nm, .string da], .map (some m)] wr (by kernel_rfl) ?_
              rw [Oper.upon_enter]
              refine (appFinds_any nm da m wr).mono ?_
              rintro e x1 ⟨rfl, hb1⟩
              have HI1 : Hid _ := hide (HI.out.below hb1)
              have HSH1 : Hid _ := hide (HSH.out.below hb1)
              clear hb1 HI HSH c0
              go_wp2_with fail
              refine upon_invoke 107 #[.agg #[.string nm, .string da], .map (some m)] x1 (by kernel_rfl) ?_
              rw [Oper.upon_enter]
              refine (appDo2_any B m (safe.length + k) G0 β nm da x1 (by omega) (by omega) (by omega) hdz HSH1.out).mono ?_
              intro e x2 hdn
              have HI2 : Hid (CrI w B m g (some ⟨g, 0, none⟩) vc os (safe.length + (k + 1)) (goL safe (os.take (k + 1))) x2) := hide (by rw [HG.out]; exact HI1.out.done h0 HAW.out hdn)
              obtain ⟨rfl, -⟩ := hdn
              clear HI1 HSH1
              go_wp2
              exact ⟨⟨k + 1, by omega, by go_num, HI2⟩, by simp [intOf]; omega⟩
            · simp only at kk
              subst kk
              have eo : opV ⟨2, nm, tn, da⟩ = .iface 98 (.agg #[.string nm, .string tn]) := rfl
              rw [eo] at c0
              have ht2 := htn rfl
              clear htn hf1 HOK
              go_wp2_with fail
              refine upon_invoke 113 #[.agg #[.string nm, .string tn], .map (some m)] wr (by kernel_rfl) ?_
              rw [Oper.upon_enter]
              refine (renFinds_any B m (safe.length + k) G0 β nm tn wr (by omega) HSH.out).mono ?_
              rintro e x1 ⟨rfl, hb1⟩
              have HI1 : Hid _ := hide (HI.out.below hb1)
              have HSH1 : Hid _ := hide (HSH.out.below hb1)
              clear hb1 HI HSH c0
              cases hh : hasN G0 nm
              · have HI2 : Hid (CrI w B m g (some ⟨g, 0, none⟩) vc os (safe.length + (k + 1)) (goL safe (os.take (k + 1))) x1) := hide (by
                  rw [HGN.out, do_ren, hh]
                  exact HI1.out.mono (by omega))
                clear HI1 HSH1 HGN hh
                go_wp2
                exact ⟨⟨k + 1, by omega, by go_num, HI2⟩, by simp [intOf]; omega⟩
              · have HG : Hid ((goL safe (os.take (k + 1))) = putL (cutL G0 nm) tn (dataL G0 nm)) := hide (by rw [HGN.out, do_ren, hh]; rfl)
                have HHH : Hid _ := hide hh
                clear HGN hh
                go_wp2_with fail
                refine upon_invoke 112 #[.agg #[.string nm, .string tn], .map (some m)] x1 (by kernel_rfl) ?_
                rw [Oper.upon_enter]
                refine (renDo2_any B m (safe.length + k) G0 β nm tn x1 (by omega) (by omega) (by omega) HHH.out HSH1.out).mono ?_
                intro e x2 hdn
                have HI2 : Hid (CrI w B m g (some ⟨g, 0, none⟩) vc os (safe.length + (k + 1)) (goL safe (os.take (k + 1))) x2) := hide (by rw [HG.out]; exact HI1.out.done h0 HAW.out hdn)
                obtain ⟨rfl, -⟩ := hdn
                clear HI1 HSH1
                go_wp2
                exact ⟨⟨k + 1, by omega, by go_num, HI2⟩, by simp [intOf]; omega⟩
            · simp only at kk
              subst kk
              have eo : opV ⟨3, nm, tn, da⟩ = .iface 100 (.agg #[.string nm]) := rfl
              rw [eo] at c0
              clear htn hf1 HOK
              go_wp2_with fail
              refine upon_invoke 119 #[.agg #[.string nm], .map (some m)] wr (by kernel_rfl) ?_
              rw [Oper.upon_enter]
              refine (remFinds_any B m (safe.length + k) G0 β nm wr (by omega) HSH.out).mono ?_
              rintro e x1 ⟨rfl, hb1⟩
              have HI1 : Hid _ := hide (HI.out.below hb1)
              have HSH1 : Hid _ := hide (HSH.out.below hb1)
              clear hb1 HI HSH c0
              cases hh : hasN G0 nm
              · have HI2 : Hid (CrI w B m g (some ⟨g, 0, none⟩) vc os (safe.length + (k + 1)) (goL safe (os.take (k + 1))) x1) := hide (by
                  rw [HGN.out, do_rem, hh]
                  exact HI1.out.mono (by omega))
                clear HI1 HSH1 HGN hh
                go_wp2
                exact ⟨⟨k + 1, by omega, by go_num, HI2⟩, by simp [intOf]; omega⟩
              · have HG : Hid ((goL safe (os.take (k + 1))) = cutL G0 nm) := hide (by rw [HGN.out, do_rem, hh]; rfl)
                have HHH : Hid _ := hide hh
                clear HGN hh
                go_wp2_with fail
                refine upon_invoke 118 #[.agg #[.string nm], .map (some m)] x1 (by kernel_rfl) ?_
                rw [Oper.upon_enter]
                refine (remDo2_any B m (safe.length + k) G0 β nm x1 (by omega) HSH1.out).mono ?_
                intro e x2 hdn
                have HI2 : Hid (CrI w B m g (some ⟨g, 0, none⟩) vc os (safe.length + (k + 1)) (goL safe (os.take (k + 1))) x2) := hide (by rw [HG.out]; exact (HI1.out.done h0 HAW.out hdn).mono (by omega))
                obtain ⟨rfl, -⟩ := hdn
                clear HI1 HSH1
                go_wp2
                exact ⟨⟨k + 1, by omega, by go_num, HI2⟩, by simp [intOf]; omega⟩
          · have hlt' : ¬ (k : Int) < (os.length : Int) := by omega
            have ek : k = os.length := by omega
            subst ek
            have HB1 : Hid _ := hide (HBD.out os.length (Nat.le_refl _))
            have HN1 : Hid _ := hide (HNM.out os.length (Nat.le_refl _))
            rw [List.take_length] at HI HB1 HN1
            have HFF : Hid _ := hide (fit_files HB1.out.1 HN1.out)
            have hdz : datL (goL safe os) ≤ 1000000000 := by have := HB1.out.2.2; omega
            have hgl : (goL safe os).length ≤ 1000 := by have := HB1.out.2.1; omega
            obtain ⟨β, hsh, -⟩ := HI.out.sh
            have HSH : Hid _ := hide hsh
            clear hsh HBD HNM HB1 HN1
            generalize goL safe os = G at *
            go_wp2_with fail
            refine (fits_any B m (safe.length + os.length) G β wr hdz HSH.out).mono ?_
            rintro e x1 ⟨rfl, hb1⟩
            have HI1 : Hid _ := hide (HI.out.below hb1)
            have HSH1 : Hid _ := hide (HSH.out.below hb1)
            clear hb1 HI HSH
            rw [← HFF.out]
            cases hff : filesB G
            · have e1 : crsB live safe ops keep (n : Int) = false := HC1.out false hff
              have e2 := HC3.out hff
              have HE : Hid (DiskKE (crsB live safe ops keep (n : Int)) (crsL live safe ops keep (n : Int)) (crsL live safe ops keep (n : Int)) [] w (.returned (.tuple #[.agg #[.slice none 0 0, .slice none 0 0, .slice none 0 0], .bool false])) (((x1.setCell ⟨w.heap.size + 1, 0, none⟩ (.slice none 0 0)).setCell ⟨w.heap.size + 1, 1, none⟩ (.slice none 0 0)).setCell ⟨w.heap.size + 1, 2, none⟩ (.slice none 0 0))) := hide (by
                rw [e1, e2]
                exact kzeroE (HI1.out.bel))
              have HS : Hid (∃ Y, (((x1.setCell ⟨w.heap.size + 1, 0, none⟩ (.slice none 0 0)).setCell ⟨w.heap.size + 1, 1, none⟩ (.slice none 0 0)).setCell ⟨w.heap.size + 1, 2, none⟩ (.slice none 0 0)) = Y ∧ Blk (w.heap.size + 1) [.slice none 0 0, .slice none 0 0, .slice none 0 0] Y) := hide ⟨_, rfl, (((HI1.out.res).set 0 (.slice none 0 0) (by simp)).set 1 (.slice none 0 0) (by simp)).set 2 (.slice none 0 0) (by simp)⟩
              have y0 := (HI1.out.res).c 0 _ rfl
              have y1 := (HI1.out.res).c 1 _ rfl
              have y2 := (HI1.out.res).c 2 _ rfl
              have f0 := (HI1.out.res).f 0
              have f1 := (HI1.out.res).f 1
              have f2 := (HI1.out.res).f 2
              clear e1 e2
              go_wp2
              obtain ⟨Y, hY, kY⟩ := HS.out
              rw [hY] at HE ⊢
              have z0 := kY.c 0 _ rfl
              have z1 := kY.c 1 _ rfl
              have z2 := kY.c 2 _ rfl
              exact bodyPost_ret (v := .tuple #[.agg #[.slice none 0 0, .slice none 0 0, .slice none 0 0], .bool false]) (by simp [results, Try.results9, go_sem, z0, z1, z2]) rfl HE.out
            · have HC : Hid _ := hide (And.intro (HC1.out true hff) (HC2.out hff))
              clear hff
              go_wp2_with fail
              refine (files_any B m (safe.length + os.length) G β x1 hgl (by omega) hdz HSH1.out).mono ?_
              rintro e x2 ⟨hb2, v2, rfl, ho2⟩
              obtain ⟨fa, fc, rfl, hfr, hfc⟩ := own_read ho2
              have HI2 : Hid _ := hide (HI1.out.below hb2)
              have HFR : Hid _ := hide (And.intro hfr hfc)
              clear ho2 hb2 hfr hfc HI1 HSH1
              go_wp2_with fail
              refine (resting_any fa G fc x2 (by omega) HFR.out.2 HFR.out.1).mono ?_
              rintro e x3 ⟨hb3, a1, a2, a3, c1, c2, c3, g1, g2, g3, rfl, -, R⟩
              have HI3 : Hid _ := hide (HI2.out.below hb3)
              have y0 := HI3.out.res.c 0 _ rfl
              have y1 := HI3.out.res.c 1 _ rfl
              have y2 := HI3.out.res.c 2 _ rfl
              have f0 := HI3.out.res.f 0
              have f1 := HI3.out.res.f 1
              have f2 := HI3.out.res.f 2
              have HE : Hid (DiskKE (crsB live safe ops keep (n : Int)) (crsL live safe ops keep (n : Int)) (crsL live safe ops keep (n : Int)) [] w (.returned (.tuple #[.agg #[.slice a1 G.length c1, .slice a2 G.length c2, .slice a3 0 c3], .bool true])) (((x3.setCell ⟨w.heap.size + 1, 0, none⟩ (.slice a1 G.length c1)).setCell ⟨w.heap.size + 1, 1, none⟩ (.slice a2 G.length c2)).setCell ⟨w.heap.size + 1, 2, none⟩ (.slice a3 0 c3))) := hide (by
                rw [HC.out.1, HC.out.2]
                refine ⟨((HI3.out.bel.setCell (p := ⟨w.heap.size + 1, 0, none⟩) (by show w.heap.size ≤ w.heap.size + 1; omega) _).setCell (p := ⟨w.heap.size + 1, 1, none⟩) (by show w.heap.size ≤ w.heap.size + 1; omega) _).setCell (p := ⟨w.heap.size + 1, 2, none⟩) (by show w.heap.size ≤ w.heap.size + 1; omega) _, a1, a2, a3, c1, c2, c3, g1, g2, g3, rfl, ?_⟩
                have l2 := HI2.out.res.lt
                have l3 := HI2.out.bel.size
                rw [size_setCell, size_setCell, size_setCell]
                exact R.move (by omega) (fun q hq => by rw [set_block _ _ (by omega), set_block _ _ (by omega), set_block _ _ (by omega)]))
              have HS : Hid (∃ Y, (((x3.setCell ⟨w.heap.size + 1, 0, none⟩ (.slice a1 G.length c1)).setCell ⟨w.heap.size + 1, 1, none⟩ (.slice a2 G.length c2)).setCell ⟨w.heap.size + 1, 2, none⟩ (.slice a3 0 c3)) = Y ∧ Blk (w.heap.size + 1) [.slice a1 G.length c1, .slice a2 G.length c2, .slice a3 0 c3] Y) := hide ⟨_, rfl, (((HI3.out.res).set 0 (.slice a1 G.length c1) (by simp)).set 1 (.slice a2 G.length c2) (by simp)).set 2 (.slice a3 0 c3) (by simp)⟩
              clear R hb3
              go_wp2
              obtain ⟨Y, hY, kY⟩ := HS.out
              rw [hY] at HE ⊢
              have z0 := kY.c 0 _ rfl
              have z1 := kY.c 1 _ rfl
              have z2 := kY.c 2 _ rfl
              exact bodyPost_ret (v := .tuple #[.agg #[.slice a1 G.length c1, .slice a2 G.length c2, .slice a3 0 c3], .bool true]) (by simp [results, Try.results9, go_sem, z0, z1, z2]) rfl HE.out
end Go.Proofs.Ytiilkkdbifhojaa
