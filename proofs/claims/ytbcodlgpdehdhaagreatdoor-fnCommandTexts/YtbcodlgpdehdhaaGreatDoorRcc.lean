/- The program's reader of a command. -/
import Derived.Test.YtbcodlgpdehdhaaGreatDoorGp
import Derived.Test.YtbcodlgpdehdhaaGreatDoorGb
namespace Go.Proofs.YtbcodlgpdehdhaaGreatDoor
open Go.ChangeShapes Go.WideShapes Go.ChangeAt Go.RowKit Go.Lib
set_option linter.unusedVariables false
set_option maxRecDepth 100000
/-- what commandFrom makes of a text: a command, and what is left -/
def ParseOk (l : List UInt8) (c : Cm) (r : List UInt8) : Prop :=
  IsNum (wordOf l) c.id ∧ ∃ r1, restOf l = 32 :: r1 ∧ (1 ≤ c.kind ∧ c.kind ≤ 5 ∧ wordL c.kind = wordOf r1) ∧
    ((c.kind = 4 ∨ c.kind = 5) ∧ (∃ r2, restOf r1 = 32 :: r2 ∧ IsNum (wordOf r2) c.ref ∧ c.fr = ⟨#[]⟩ ∧ c.«to» = ⟨#[]⟩ ∧ c.am = 0 ∧ r = restOf r2) ∨
     ¬ (c.kind = 4 ∨ c.kind = 5) ∧ (∃ r2 r3 r4, restOf r1 = 32 :: r2 ∧ c.fr = bs (wordOf r2) ∧ restOf r2 = 32 :: r3 ∧ c.«to» = bs (wordOf r3) ∧ restOf r3 = 32 :: r4 ∧ IsNum (wordOf r4) c.am ∧ c.ref = 0 ∧ r = restOf r4)) ∧ c.B = true
theorem itoa_inj {a b : Int} (ha : -99999999999999 ≤ a ∧ a ≤ 99999999999999) (hb : -99999999999999 ≤ b ∧ b ≤ 99999999999999) (h : itoa a = itoa b) : a = b := by
  rw [← (int_itoa ha.1 ha.2).2, ← (int_itoa hb.1 hb.2).2, h]
theorem IsNum.inj {l : List UInt8} {a b : Int} (h : IsNum l a) (k : IsNum l b) : a = b := itoa_inj h.1 k.1 (h.2.trans k.2.symm)
theorem wordL_inj {a b : Int} (ha : 1 ≤ a ∧ a ≤ 5) (hb : 1 ≤ b ∧ b ≤ 5) (h : wordL a = wordL b) : a = b := by
  have ha' : a = 1 ∨ a = 2 ∨ a = 3 ∨ a = 4 ∨ a = 5 := by omega
  have hb' : b = 1 ∨ b = 2 ∨ b = 3 ∨ b = 4 ∨ b = 5 := by omega
  rcases ha' with rfl | rfl | rfl | rfl | rfl <;> rcases hb' with rfl | rfl | rfl | rfl | rfl <;> first | rfl | (exact absurd h (by decide))
theorem Pool.rd {B : Nat} {w x y : World} {l l' : List UInt8} {S : List (List Rs)} (h : Pool [B] w ([blk B [.string (bs l)]] :: S) x) (k : RdTo B l' x y) : Pool [B] w ([blk B [.string (bs l')]] :: S) y :=
  h.step (i := 0) (rs := [blk B [.string (bs l)]]) (rs' := [blk B [.string (bs l')]]) rfl (by simpa [fps, blk] using k.2) (Star.ofBlk k.1) (fun b hb => .inl hb)
theorem Pool.rdt {B : Nat} {w x : World} {l : List UInt8} {S : List (List Rs)} (h : Pool [B] w ([blk B [.string (bs l)]] :: S) x) : RdTo B l w x := ⟨h.blkAt (i := 0) rfl, h.fr⟩
theorem namesHold_any (k : Int) (w : World) : Calls Tryz.prog 16 #[.int .i64 k] w fun e w' => e = .returned (.bool (k == 4 || k == 5)) ∧ w' = w := by
  go_enter Tryz.func16, Tryz.ntmps16
  cases h4 : (k == 4)
  · cases h5 : (k == 5)
    · go_wp2
      go_ret
      exact ⟨rfl, rfl⟩
    · go_wp2
      go_ret
      exact ⟨rfl, rfl⟩
  · go_wp2
    go_ret
    exact ⟨rfl, rfl⟩
def CfEnd (B : Nat) (l : List UInt8) (t : TypeId) (v : Value) (w : World) (e : Ending) (w' : World) : Prop :=
  (∃ c r, ParseOk l c r ∧ e = .returned c.v ∧ RdTo B r w w') ∨ ((∀ c r, ¬ ParseOk l c r) ∧ GvTo B t v w e w')
set_option maxHeartbeats 16000000 in
theorem commandFrom_any (B : Nat) (l : List UInt8) (t : TypeId) (v : Value) (w0 w : World) (E : Env t v w0) (h : Rg w0 B l w) (hl : l.length ≤ 1048576) :
    Calls Tryz.prog 19 #[.pointer (some ⟨B, 0, none⟩)] w fun e w' => CfEnd B l t v w e w' := by
  have HE : Hid _ := hide E
  have HG : Hid _ := hide h
  have HP0 : Hid (Pool [B] w [[blk B [.string (bs l)]], [], []] w) := hide ((Pool.of (Star.ofBlk h.r)).cast (by simp))
  have hrl := rest_size l
  have hwl := word_size l
  clear E h
  go_enter Tryz.func19, Tryz.ntmps19
  go_upto_region 1 with fail
  refine cnm_world (fun W1 hW1 => ?_)
  have HP1 : Hid (Pool [B] w [[blk B [.string (bs l)]], [blk w.heap.size [.int .i64 0, .int .i64 0, .string ⟨#[]⟩, .string ⟨#[]⟩, .int .i64 0, .int .i64 0]], []] W1) := hide (by
    have p1 := HP0.out.newBlk (i := 1) rfl [.int .i64 0, .int .i64 0, .string ⟨#[]⟩, .string ⟨#[]⟩, .int .i64 0, .int .i64 0] 25
    rw [hW1]; exact p1)
  clear hW1 HP0
  go_wp2_with fail
  refine (rword_any B l _ (HP1.out.blkAt (i := 0) rfl) hl).mono ?_
  rintro e w2 ⟨rfl, hr2⟩
  have HP2 : Hid (Pool [B] w [[blk B [.string (bs (restOf l))]], [blk w.heap.size [.int .i64 0, .int .i64 0, .string ⟨#[]⟩, .string ⟨#[]⟩, .int .i64 0, .int .i64 0]], []] w2) := hide (HP1.out.rd hr2)
  clear hr2 HP1
  by_cases hn : ∃ n, IsNum (wordOf l) n
  · obtain ⟨n, hn⟩ := hn
    have HN : Hid _ := hide hn
    clear hn
    go_wp2_with fail
    refine (number_yes _ (wordOf l) n t v _ ((HG.out.tor HP2.out.rdt).env HE.out) HN.out).mono ?_
    rintro e w3 ⟨rfl, hb3⟩
    have HP3 : Hid (Pool [B] w [[blk B [.string (bs (restOf l))]], [blk w.heap.size [.int .i64 0, .int .i64 0, .string ⟨#[]⟩, .string ⟨#[]⟩, .int .i64 0, .int .i64 0]], []] w3) := hide (HP2.out.keep hb3)
    clear hb3 HP2
    go_upto_region 2 with fail
    refine cnm_world (fun W4 hW4 => ?_)
    obtain ⟨C, hC⟩ : ∃ C, C = w3.heap.size := ⟨_, rfl⟩
    have HP4 : Hid (Pool [B] w [[blk B [.string (bs (restOf l))]], [blk w.heap.size [.int .i64 0, .int .i64 0, .string ⟨#[]⟩, .string ⟨#[]⟩, .int .i64 0, .int .i64 0]], [blk C [.int .i64 n, .int .i64 0, .string ⟨#[]⟩, .string ⟨#[]⟩, .int .i64 0, .int .i64 0]]] W4) := hide (by
      have p1 := HP3.out.newBlk (i := 2) rfl [.int .i64 n, .int .i64 0, .string ⟨#[]⟩, .string ⟨#[]⟩, .int .i64 0, .int .i64 0] 25
      rw [← hC] at p1
      rw [hW4]; exact p1)
    rw [← hC]
    clear hW4 HP3 hC
    by_cases h1 : (restOf l).head? = some 32
    · obtain ⟨r1, e1⟩ : ∃ r1, restOf l = 32 :: r1 := by
        cases q : restOf l with
        | nil => rw [q] at h1; cases h1
        | cons a b => rw [q] at h1; simp at h1; exact ⟨b, by rw [h1]⟩
      have HR1 : Hid _ := hide e1
      rw [e1] at HP4 hrl
      simp only [List.length_cons] at hrl
      have hrr1 := rest_size r1
      have hwr1 := word_size r1
      clear h1 e1
      go_wp2_with fail
      refine (next_yes B r1 _ (HP4.out.blkAt (i := 0) rfl) (by omega)).mono ?_
      rintro e w5 ⟨rfl, hr5⟩
      have HP5 : Hid (Pool [B] w [[blk B [.string (bs (restOf r1))]], [blk w.heap.size [.int .i64 0, .int .i64 0, .string ⟨#[]⟩, .string ⟨#[]⟩, .int .i64 0, .int .i64 0]], [blk C [.int .i64 n, .int .i64 0, .string ⟨#[]⟩, .string ⟨#[]⟩, .int .i64 0, .int .i64 0]]] w5) := hide (HP4.out.rd hr5)
      clear hr5 HP4
      go_wp2_with fail
      refine (kind_any _ (wordOf r1) t v _ ((HG.out.tor HP5.out.rdt).env HE.out)).mono ?_
      rintro e w6 ⟨hw6, hk⟩
      rw [hw6]
      rcases hk with ⟨k, k1, k5, hk, rfl⟩ | ⟨hk, rfl⟩
      · have HKd : Hid (1 ≤ k ∧ k ≤ 5 ∧ wordL k = wordOf r1) := hide ⟨k1, k5, hk⟩
        clear hk hw6
        have d_1 := (HP5.out.blkAt (i := 2) rfl).c 1 _ rfl
        have f_1 := (HP5.out.blkAt (i := 2) rfl).f 1
        go_upto_region 3 with fail
        refine cnm_world (fun W7 hW7 => ?_)
        have HP7 : Hid (Pool [B] w [[blk B [.string (bs (restOf r1))]], [blk w.heap.size [.int .i64 0, .int .i64 0, .string ⟨#[]⟩, .string ⟨#[]⟩, .int .i64 0, .int .i64 0]], [blk C [.int .i64 n, .int .i64 k, .string ⟨#[]⟩, .string ⟨#[]⟩, .int .i64 0, .int .i64 0]]] W7) := hide (by
          have p1 := HP5.out.setBlk (i := 2) rfl 1 (.int .i64 k) (by simp)
          rw [hW7]; exact p1)
        clear hW7 HP5 d_1 f_1
        have d_1 := (HP7.out.blkAt (i := 2) rfl).c 1 _ rfl
        go_wp2_with fail
        refine (namesHold_any k _).mono ?_
        rintro e w8 ⟨rfl, hw⟩
        rw [hw]
        clear hw
        by_cases kh : k = 4 ∨ k = 5
        · have kh' : (k == 4 || k == 5) = true := by simpa using kh
          have HKh : Hid _ := hide kh
          rw [kh']
          clear kh kh' d_1
          by_cases h1 : (restOf r1).head? = some 32
          · obtain ⟨r2, e1⟩ : ∃ q, restOf r1 = 32 :: q := by
              cases q : restOf r1 with
              | nil => rw [q] at h1; cases h1
              | cons a b => rw [q] at h1; simp at h1; exact ⟨b, by rw [h1]⟩
            have Hr2 : Hid _ := hide e1
            rw [e1] at HP7 hrr1
            simp only [List.length_cons] at hrr1
            have hrrr2 := rest_size r2
            have hwrr2 := word_size r2
            clear h1 e1
            by_cases hn2 : ∃ n, IsNum (wordOf r2) n
            · obtain ⟨ref, hn2⟩ := hn2
              have HRef : Hid _ := hide hn2
              clear hn2
              go_wp2_with fail
              refine (nextNumber_yes B r2 ref t v w0 _ HE.out (HG.out.tor HP7.out.rdt) (by omega) HRef.out).mono ?_
              rintro e w9 ⟨rfl, hr9⟩
              have HP9 : Hid (Pool [B] w [[blk B [.string (bs (restOf r2))]], [blk w.heap.size [.int .i64 0, .int .i64 0, .string ⟨#[]⟩, .string ⟨#[]⟩, .int .i64 0, .int .i64 0]], [blk C [.int .i64 n, .int .i64 k, .string ⟨#[]⟩, .string ⟨#[]⟩, .int .i64 0, .int .i64 0]]] w9) := hide (HP7.out.rd hr9)
              clear hr9 HP7
              have d_5 := (HP9.out.blkAt (i := 2) rfl).c 5 _ rfl
              have f_5 := (HP9.out.blkAt (i := 2) rfl).f 5
              go_upto_region 8 with fail
              refine cnm_world (fun Wa hWa => ?_)
              have HPa : Hid (Pool [B] w [[blk B [.string (bs (restOf r2))]], [blk w.heap.size [.int .i64 0, .int .i64 0, .string ⟨#[]⟩, .string ⟨#[]⟩, .int .i64 0, .int .i64 0]], [blk C [.int .i64 n, .int .i64 k, .string ⟨#[]⟩, .string ⟨#[]⟩, .int .i64 0, .int .i64 ref]]] Wa) := hide (by
                have p1 := HP9.out.setBlk (i := 2) rfl 5 (.int .i64 ref) (by simp)
                rw [hWa]; exact p1)
              clear hWa HP9 d_5 f_5
              have HCz : Hid ((⟨n, k, ⟨#[]⟩, ⟨#[]⟩, 0, ref⟩ : Cm).fr.size ≤ maxLen ∧ (⟨n, k, ⟨#[]⟩, ⟨#[]⟩, 0, ref⟩ : Cm).«to».size ≤ maxLen) := hide ⟨show (⟨#[]⟩ : ByteArray).size ≤ maxLen by decide, show (⟨#[]⟩ : ByteArray).size ≤ maxLen by decide⟩
              have g_0 := (HPa.out.blkAt (i := 2) rfl).c 0 _ rfl
              have g_1 := (HPa.out.blkAt (i := 2) rfl).c 1 _ rfl
              have g_2 := (HPa.out.blkAt (i := 2) rfl).c 2 _ rfl
              have g_3 := (HPa.out.blkAt (i := 2) rfl).c 3 _ rfl
              have g_4 := (HPa.out.blkAt (i := 2) rfl).c 4 _ rfl
              have g_5 := (HPa.out.blkAt (i := 2) rfl).c 5 _ rfl
              go_wp2_with fail
              refine (implCommandOk_any (⟨n, k, ⟨#[]⟩, ⟨#[]⟩, 0, ref⟩ : Cm).id (⟨n, k, ⟨#[]⟩, ⟨#[]⟩, 0, ref⟩ : Cm).kind (⟨n, k, ⟨#[]⟩, ⟨#[]⟩, 0, ref⟩ : Cm).fr (⟨n, k, ⟨#[]⟩, ⟨#[]⟩, 0, ref⟩ : Cm).«to» (⟨n, k, ⟨#[]⟩, ⟨#[]⟩, 0, ref⟩ : Cm).am (⟨n, k, ⟨#[]⟩, ⟨#[]⟩, 0, ref⟩ : Cm).ref _ HCz.out.1 HCz.out.2).mono ?_
              rintro e wA ⟨rfl, hkA⟩
              have HPA : Hid (Pool [B] w [[blk B [.string (bs (restOf r2))]], [blk w.heap.size [.int .i64 0, .int .i64 0, .string ⟨#[]⟩, .string ⟨#[]⟩, .int .i64 0, .int .i64 0]], [blk C [.int .i64 n, .int .i64 k, .string ⟨#[]⟩, .string ⟨#[]⟩, .int .i64 0, .int .i64 ref]]] wA) := hide (HPa.out.keep hkA.below)
              clear hkA HPa g_0 g_1 g_2 g_3 g_4 g_5
              cases hB : cmdB (⟨n, k, ⟨#[]⟩, ⟨#[]⟩, 0, ref⟩ : Cm).id (⟨n, k, ⟨#[]⟩, ⟨#[]⟩, 0, ref⟩ : Cm).kind (⟨n, k, ⟨#[]⟩, ⟨#[]⟩, 0, ref⟩ : Cm).fr (⟨n, k, ⟨#[]⟩, ⟨#[]⟩, 0, ref⟩ : Cm).«to» (⟨n, k, ⟨#[]⟩, ⟨#[]⟩, 0, ref⟩ : Cm).am (⟨n, k, ⟨#[]⟩, ⟨#[]⟩, 0, ref⟩ : Cm).ref
              · have HB : Hid _ := hide hB
                clear hB
                go_wp2_with fail
                refine (want_no _ t v _ ((HG.out.tor HPA.out.rdt).env HE.out)).mono ?_
                rintro e wB ⟨rfl, hw⟩
                rw [hw]
                clear hw
                unfold gaveUp
                go_wp2_with fail
                refine ⟨rfl, .inr ⟨fun c r hc => ?_, rfl, _, HPA.out.rdt⟩⟩
                obtain ⟨hc0, r1', e1', hk1, hrest, hcB⟩ := hc
                rw [HR1.out] at e1'
                cases e1'
                have ek := wordL_inj ⟨hk1.1, hk1.2.1⟩ ⟨HKd.out.1, HKd.out.2.1⟩ (hk1.2.2.trans HKd.out.2.2.symm)
                have kh := HKh.out
                rcases hrest with ⟨_, r2', e2', hc5, e6, e7, e8, e9⟩ | ⟨hk2, _⟩
                · rw [Hr2.out] at e2'
                  cases e2'
                  obtain rfl : c = ⟨n, k, ⟨#[]⟩, ⟨#[]⟩, 0, ref⟩ := by
                    have z1 := hc0.inj HN.out
                    have z2 := hc5.inj HRef.out
                    cases c
                    simp only at *
                    subst z1 z2 ek e6 e7 e8
                    rfl
                  have z := HB.out
                  unfold Cm.B at hcB
                  simp only at z hcB
                  rw [z] at hcB
                  cases hcB
                · exact absurd (by rw [ek]; exact kh) hk2
              · have HB : Hid _ := hide hB
                clear hB
                go_wp2_with fail
                refine (want_yes _ _).mono ?_
                rintro e wB ⟨rfl, hw⟩
                rw [hw]
                clear hw
                have g_0 := (HPA.out.blkAt (i := 2) rfl).c 0 _ rfl
                have g_1 := (HPA.out.blkAt (i := 2) rfl).c 1 _ rfl
                have g_2 := (HPA.out.blkAt (i := 2) rfl).c 2 _ rfl
                have g_3 := (HPA.out.blkAt (i := 2) rfl).c 3 _ rfl
                have g_4 := (HPA.out.blkAt (i := 2) rfl).c 4 _ rfl
                have g_5 := (HPA.out.blkAt (i := 2) rfl).c 5 _ rfl
                have z_0 := (HPA.out.blkAt (i := 1) rfl).c 0 _ rfl
                have z_1 := (HPA.out.blkAt (i := 1) rfl).c 1 _ rfl
                have z_2 := (HPA.out.blkAt (i := 1) rfl).c 2 _ rfl
                have z_3 := (HPA.out.blkAt (i := 1) rfl).c 3 _ rfl
                have z_4 := (HPA.out.blkAt (i := 1) rfl).c 4 _ rfl
                have z_5 := (HPA.out.blkAt (i := 1) rfl).c 5 _ rfl
                have y_0 := (HPA.out.blkAt (i := 1) rfl).f 0
                have y_1 := (HPA.out.blkAt (i := 1) rfl).f 1
                have y_2 := (HPA.out.blkAt (i := 1) rfl).f 2
                have y_3 := (HPA.out.blkAt (i := 1) rfl).f 3
                have y_4 := (HPA.out.blkAt (i := 1) rfl).f 4
                have y_5 := (HPA.out.blkAt (i := 1) rfl).f 5
                have HQ := HPA.out.set6 (i := 1) rfl (.int .i64 (⟨n, k, ⟨#[]⟩, ⟨#[]⟩, 0, ref⟩ : Cm).id) (.int .i64 (⟨n, k, ⟨#[]⟩, ⟨#[]⟩, 0, ref⟩ : Cm).kind) (.string (⟨n, k, ⟨#[]⟩, ⟨#[]⟩, 0, ref⟩ : Cm).fr) (.string (⟨n, k, ⟨#[]⟩, ⟨#[]⟩, 0, ref⟩ : Cm).«to») (.int .i64 (⟨n, k, ⟨#[]⟩, ⟨#[]⟩, 0, ref⟩ : Cm).am) (.int .i64 (⟨n, k, ⟨#[]⟩, ⟨#[]⟩, 0, ref⟩ : Cm).ref)
                have e0 := (HQ.blkAt (i := 1) rfl).c 0 _ rfl
                have e1 := (HQ.blkAt (i := 1) rfl).c 1 _ rfl
                have e2 := (HQ.blkAt (i := 1) rfl).c 2 _ rfl
                have e3 := (HQ.blkAt (i := 1) rfl).c 3 _ rfl
                have e4 := (HQ.blkAt (i := 1) rfl).c 4 _ rfl
                have e5 := (HQ.blkAt (i := 1) rfl).c 5 _ rfl
                have HQ2 : Hid _ := hide HQ.rdt
                clear HQ
                dsimp only at e0 e1 e2 e3 e4 e5
                go_wp2_with fail
                refine bodyPost_ret (v := (⟨n, k, ⟨#[]⟩, ⟨#[]⟩, 0, ref⟩ : Cm).v) (by simp [results, Tryz.results19, go_sem, e0, e1, e2, e3, e4, e5, Cm.v]) rfl (.inl ⟨(⟨n, k, ⟨#[]⟩, ⟨#[]⟩, 0, ref⟩ : Cm), (restOf r2), ?_, rfl, HQ2.out⟩)
                exact ⟨HN.out, r1, HR1.out, HKd.out, .inl ⟨HKh.out, r2, Hr2.out, HRef.out, rfl, rfl, rfl, rfl⟩, HB.out⟩
            · have HN2 : Hid (∀ n, ¬ IsNum (wordOf r2) n) := hide (fun n h => hn2 ⟨n, h⟩)
              clear hn2
              go_wp2_with fail
              refine (nextNumber_bad B r2 t v w0 _ HE.out (HG.out.tor HP7.out.rdt) (by omega) HN2.out).mono ?_
              rintro e w9 ⟨rfl, l5, hr5⟩
              have HR5 : Hid _ := hide (HP7.out.rdt.trans hr5)
              clear hr5
              unfold gaveUp
              go_wp2_with fail
              refine ⟨rfl, .inr ⟨fun c r hc => ?_, rfl, _, HR5.out⟩⟩
              obtain ⟨hc0, r1', e1', hk1, hrest, hcB⟩ := hc
              rw [HR1.out] at e1'
              cases e1'
              have ek := wordL_inj ⟨hk1.1, hk1.2.1⟩ ⟨HKd.out.1, HKd.out.2.1⟩ (hk1.2.2.trans HKd.out.2.2.symm)
              have kh := HKh.out
              rcases hrest with ⟨_, r2', e2', hc5, e6, e7, e8, e9⟩ | ⟨hk2, _⟩
              · rw [Hr2.out] at e2'
                cases e2'
                exact HN2.out _ hc5
              · exact absurd (by rw [ek]; exact kh) hk2
          · have H1 : Hid _ := hide h1
            clear h1
            go_wp2_with fail
            refine (nextNumber_no B _ t v w0 _ HE.out (HG.out.tor HP7.out.rdt) H1.out).mono ?_
            rintro e w9 ⟨rfl, l5, hr5⟩
            have HR5 : Hid _ := hide (HP7.out.rdt.trans hr5)
            clear hr5
            unfold gaveUp
            go_wp2_with fail
            refine ⟨rfl, .inr ⟨fun c r hc => ?_, rfl, _, HR5.out⟩⟩
            obtain ⟨hc0, r1', e1', hk1, hrest, hcB⟩ := hc
            rw [HR1.out] at e1'
            cases e1'
            have ek := wordL_inj ⟨hk1.1, hk1.2.1⟩ ⟨HKd.out.1, HKd.out.2.1⟩ (hk1.2.2.trans HKd.out.2.2.symm)
            have kh := HKh.out
            rcases hrest with ⟨_, r2', e2', hc5, e6, e7, e8, e9⟩ | ⟨hk2, _⟩
            · exact H1.out (by rw [e2']; rfl)
            · exact absurd (by rw [ek]; exact kh) hk2
        · have kh' : (k == 4 || k == 5) = false := by
            cases q : (k == 4 || k == 5)
            · rfl
            · exact absurd (by simpa using q) kh
          have HKh : Hid _ := hide kh
          rw [kh']
          clear kh kh' d_1
          by_cases h1 : (restOf r1).head? = some 32
          · obtain ⟨r2, e1⟩ : ∃ q, restOf r1 = 32 :: q := by
              cases q : restOf r1 with
              | nil => rw [q] at h1; cases h1
              | cons a b => rw [q] at h1; simp at h1; exact ⟨b, by rw [h1]⟩
            have Hr2 : Hid _ := hide e1
            rw [e1] at HP7 hrr1
            simp only [List.length_cons] at hrr1
            have hrrr2 := rest_size r2
            have hwrr2 := word_size r2
            clear h1 e1
            go_wp2_with fail
            refine (nextText_yes B r2 _ (HP7.out.blkAt (i := 0) rfl) (by omega)).mono ?_
            rintro e wa ⟨rfl, hr9⟩
            have HPa2 : Hid (Pool [B] w [[blk B [.string (bs (restOf r2))]], [blk w.heap.size [.int .i64 0, .int .i64 0, .string ⟨#[]⟩, .string ⟨#[]⟩, .int .i64 0, .int .i64 0]], [blk C [.int .i64 n, .int .i64 k, .string ⟨#[]⟩, .string ⟨#[]⟩, .int .i64 0, .int .i64 0]]] wa) := hide (HP7.out.rd hr9)
            clear hr9 HP7
            have d_ := (HPa2.out.blkAt (i := 2) rfl).c 2 _ rfl
            have f_ := (HPa2.out.blkAt (i := 2) rfl).f 2
            go_upto_region 6 with fail
            refine cnm_world (fun Wb hWn => ?_)
            have HPb : Hid (Pool [B] w [[blk B [.string (bs (restOf r2))]], [blk w.heap.size [.int .i64 0, .int .i64 0, .string ⟨#[]⟩, .string ⟨#[]⟩, .int .i64 0, .int .i64 0]], [blk C [.int .i64 n, .int .i64 k, .string (bs (wordOf r2)), .string ⟨#[]⟩, .int .i64 0, .int .i64 0]]] Wb) := hide (by
              have p1 := HPa2.out.setBlk (i := 2) rfl 2 (.string (bs (wordOf r2))) (by simp)
              rw [hWn]; exact p1)
            clear hWn HPa2 d_ f_
            by_cases h1 : (restOf r2).head? = some 32
            · obtain ⟨r3, e1⟩ : ∃ q, restOf r2 = 32 :: q := by
                cases q : restOf r2 with
                | nil => rw [q] at h1; cases h1
                | cons a b => rw [q] at h1; simp at h1; exact ⟨b, by rw [h1]⟩
              have Hr3 : Hid _ := hide e1
              rw [e1] at HPb hrrr2
              simp only [List.length_cons] at hrrr2
              have hrrr3 := rest_size r3
              have hwrr3 := word_size r3
              clear h1 e1
              go_wp2_with fail
              refine (nextText_yes B r3 _ (HPb.out.blkAt (i := 0) rfl) (by omega)).mono ?_
              rintro e wc ⟨rfl, hr9⟩
              have HPc : Hid (Pool [B] w [[blk B [.string (bs (restOf r3))]], [blk w.heap.size [.int .i64 0, .int .i64 0, .string ⟨#[]⟩, .string ⟨#[]⟩, .int .i64 0, .int .i64 0]], [blk C [.int .i64 n, .int .i64 k, .string (bs (wordOf r2)), .string ⟨#[]⟩, .int .i64 0, .int .i64 0]]] wc) := hide (HPb.out.rd hr9)
              clear hr9 HPb
              have d_ := (HPc.out.blkAt (i := 2) rfl).c 3 _ rfl
              have f_ := (HPc.out.blkAt (i := 2) rfl).f 3
              go_upto_region 7 with fail
              refine cnm_world (fun Wd hWn => ?_)
              have HPd : Hid (Pool [B] w [[blk B [.string (bs (restOf r3))]], [blk w.heap.size [.int .i64 0, .int .i64 0, .string ⟨#[]⟩, .string ⟨#[]⟩, .int .i64 0, .int .i64 0]], [blk C [.int .i64 n, .int .i64 k, .string (bs (wordOf r2)), .string (bs (wordOf r3)), .int .i64 0, .int .i64 0]]] Wd) := hide (by
                have p1 := HPc.out.setBlk (i := 2) rfl 3 (.string (bs (wordOf r3))) (by simp)
                rw [hWn]; exact p1)
              clear hWn HPc d_ f_
              by_cases h1 : (restOf r3).head? = some 32
              · obtain ⟨r4, e1⟩ : ∃ q, restOf r3 = 32 :: q := by
                  cases q : restOf r3 with
                  | nil => rw [q] at h1; cases h1
                  | cons a b => rw [q] at h1; simp at h1; exact ⟨b, by rw [h1]⟩
                have Hr4 : Hid _ := hide e1
                rw [e1] at HPd hrrr3
                simp only [List.length_cons] at hrrr3
                have hrrr4 := rest_size r4
                have hwrr4 := word_size r4
                clear h1 e1
                by_cases hn2 : ∃ n, IsNum (wordOf r4) n
                · obtain ⟨am, hn2⟩ := hn2
                  have HAm : Hid _ := hide hn2
                  clear hn2
                  go_wp2_with fail
                  refine (nextNumber_yes B r4 am t v w0 _ HE.out (HG.out.tor HPd.out.rdt) (by omega) HAm.out).mono ?_
                  rintro e we ⟨rfl, hr9⟩
                  have HPe : Hid (Pool [B] w [[blk B [.string (bs (restOf r4))]], [blk w.heap.size [.int .i64 0, .int .i64 0, .string ⟨#[]⟩, .string ⟨#[]⟩, .int .i64 0, .int .i64 0]], [blk C [.int .i64 n, .int .i64 k, .string (bs (wordOf r2)), .string (bs (wordOf r3)), .int .i64 0, .int .i64 0]]] we) := hide (HPd.out.rd hr9)
                  clear hr9 HPd
                  have d_4 := (HPe.out.blkAt (i := 2) rfl).c 4 _ rfl
                  have f_4 := (HPe.out.blkAt (i := 2) rfl).f 4
                  go_upto_region 8 with fail
                  refine cnm_world (fun Wf hWf => ?_)
                  have HPf : Hid (Pool [B] w [[blk B [.string (bs (restOf r4))]], [blk w.heap.size [.int .i64 0, .int .i64 0, .string ⟨#[]⟩, .string ⟨#[]⟩, .int .i64 0, .int .i64 0]], [blk C [.int .i64 n, .int .i64 k, .string (bs (wordOf r2)), .string (bs (wordOf r3)), .int .i64 am, .int .i64 0]]] Wf) := hide (by
                    have p1 := HPe.out.setBlk (i := 2) rfl 4 (.int .i64 am) (by simp)
                    rw [hWf]; exact p1)
                  clear hWf HPe d_4 f_4
                  have HCz : Hid ((⟨n, k, bs (wordOf r2), bs (wordOf r3), am, 0⟩ : Cm).fr.size ≤ maxLen ∧ (⟨n, k, bs (wordOf r2), bs (wordOf r3), am, 0⟩ : Cm).«to».size ≤ maxLen) := hide ⟨by show (bs (wordOf r2)).size ≤ maxLen; rw [bs_size]; unfold maxLen; omega, by show (bs (wordOf r3)).size ≤ maxLen; rw [bs_size]; unfold maxLen; omega⟩
                  have g_0 := (HPf.out.blkAt (i := 2) rfl).c 0 _ rfl
                  have g_1 := (HPf.out.blkAt (i := 2) rfl).c 1 _ rfl
                  have g_2 := (HPf.out.blkAt (i := 2) rfl).c 2 _ rfl
                  have g_3 := (HPf.out.blkAt (i := 2) rfl).c 3 _ rfl
                  have g_4 := (HPf.out.blkAt (i := 2) rfl).c 4 _ rfl
                  have g_5 := (HPf.out.blkAt (i := 2) rfl).c 5 _ rfl
                  go_wp2_with fail
                  refine (implCommandOk_any (⟨n, k, bs (wordOf r2), bs (wordOf r3), am, 0⟩ : Cm).id (⟨n, k, bs (wordOf r2), bs (wordOf r3), am, 0⟩ : Cm).kind (⟨n, k, bs (wordOf r2), bs (wordOf r3), am, 0⟩ : Cm).fr (⟨n, k, bs (wordOf r2), bs (wordOf r3), am, 0⟩ : Cm).«to» (⟨n, k, bs (wordOf r2), bs (wordOf r3), am, 0⟩ : Cm).am (⟨n, k, bs (wordOf r2), bs (wordOf r3), am, 0⟩ : Cm).ref _ HCz.out.1 HCz.out.2).mono ?_
                  rintro e wA ⟨rfl, hkA⟩
                  have HPA : Hid (Pool [B] w [[blk B [.string (bs (restOf r4))]], [blk w.heap.size [.int .i64 0, .int .i64 0, .string ⟨#[]⟩, .string ⟨#[]⟩, .int .i64 0, .int .i64 0]], [blk C [.int .i64 n, .int .i64 k, .string (bs (wordOf r2)), .string (bs (wordOf r3)), .int .i64 am, .int .i64 0]]] wA) := hide (HPf.out.keep hkA.below)
                  clear hkA HPf g_0 g_1 g_2 g_3 g_4 g_5
                  cases hB : cmdB (⟨n, k, bs (wordOf r2), bs (wordOf r3), am, 0⟩ : Cm).id (⟨n, k, bs (wordOf r2), bs (wordOf r3), am, 0⟩ : Cm).kind (⟨n, k, bs (wordOf r2), bs (wordOf r3), am, 0⟩ : Cm).fr (⟨n, k, bs (wordOf r2), bs (wordOf r3), am, 0⟩ : Cm).«to» (⟨n, k, bs (wordOf r2), bs (wordOf r3), am, 0⟩ : Cm).am (⟨n, k, bs (wordOf r2), bs (wordOf r3), am, 0⟩ : Cm).ref
                  · have HB : Hid _ := hide hB
                    clear hB
                    go_wp2_with fail
                    refine (want_no _ t v _ ((HG.out.tor HPA.out.rdt).env HE.out)).mono ?_
                    rintro e wB ⟨rfl, hw⟩
                    rw [hw]
                    clear hw
                    unfold gaveUp
                    go_wp2_with fail
                    refine ⟨rfl, .inr ⟨fun c r hc => ?_, rfl, _, HPA.out.rdt⟩⟩
                    obtain ⟨hc0, r1', e1', hk1, hrest, hcB⟩ := hc
                    rw [HR1.out] at e1'
                    cases e1'
                    have ek := wordL_inj ⟨hk1.1, hk1.2.1⟩ ⟨HKd.out.1, HKd.out.2.1⟩ (hk1.2.2.trans HKd.out.2.2.symm)
                    have kh := HKh.out
                    rcases hrest with ⟨hk2, _⟩ | ⟨_, r2', r3', r4', e2', e3', e4', e5', e6', hcA, e7, e8⟩
                    · exact absurd (by rw [← ek]; exact hk2) kh
                    · rw [Hr2.out] at e2'
                      cases e2'
                      rw [Hr3.out] at e4'
                      cases e4'
                      rw [Hr4.out] at e6'
                      cases e6'
                      obtain rfl : c = ⟨n, k, bs (wordOf r2), bs (wordOf r3), am, 0⟩ := by
                        have z1 := hc0.inj HN.out
                        have z2 := hcA.inj HAm.out
                        cases c
                        simp only at *
                        subst z1 z2 ek e3' e5' e7
                        rfl
                      have z := HB.out
                      unfold Cm.B at hcB
                      simp only at z hcB
                      rw [z] at hcB
                      cases hcB
                  · have HB : Hid _ := hide hB
                    clear hB
                    go_wp2_with fail
                    refine (want_yes _ _).mono ?_
                    rintro e wB ⟨rfl, hw⟩
                    rw [hw]
                    clear hw
                    have g_0 := (HPA.out.blkAt (i := 2) rfl).c 0 _ rfl
                    have g_1 := (HPA.out.blkAt (i := 2) rfl).c 1 _ rfl
                    have g_2 := (HPA.out.blkAt (i := 2) rfl).c 2 _ rfl
                    have g_3 := (HPA.out.blkAt (i := 2) rfl).c 3 _ rfl
                    have g_4 := (HPA.out.blkAt (i := 2) rfl).c 4 _ rfl
                    have g_5 := (HPA.out.blkAt (i := 2) rfl).c 5 _ rfl
                    have z_0 := (HPA.out.blkAt (i := 1) rfl).c 0 _ rfl
                    have z_1 := (HPA.out.blkAt (i := 1) rfl).c 1 _ rfl
                    have z_2 := (HPA.out.blkAt (i := 1) rfl).c 2 _ rfl
                    have z_3 := (HPA.out.blkAt (i := 1) rfl).c 3 _ rfl
                    have z_4 := (HPA.out.blkAt (i := 1) rfl).c 4 _ rfl
                    have z_5 := (HPA.out.blkAt (i := 1) rfl).c 5 _ rfl
                    have y_0 := (HPA.out.blkAt (i := 1) rfl).f 0
                    have y_1 := (HPA.out.blkAt (i := 1) rfl).f 1
                    have y_2 := (HPA.out.blkAt (i := 1) rfl).f 2
                    have y_3 := (HPA.out.blkAt (i := 1) rfl).f 3
                    have y_4 := (HPA.out.blkAt (i := 1) rfl).f 4
                    have y_5 := (HPA.out.blkAt (i := 1) rfl).f 5
                    have HQ := HPA.out.set6 (i := 1) rfl (.int .i64 (⟨n, k, bs (wordOf r2), bs (wordOf r3), am, 0⟩ : Cm).id) (.int .i64 (⟨n, k, bs (wordOf r2), bs (wordOf r3), am, 0⟩ : Cm).kind) (.string (⟨n, k, bs (wordOf r2), bs (wordOf r3), am, 0⟩ : Cm).fr) (.string (⟨n, k, bs (wordOf r2), bs (wordOf r3), am, 0⟩ : Cm).«to») (.int .i64 (⟨n, k, bs (wordOf r2), bs (wordOf r3), am, 0⟩ : Cm).am) (.int .i64 (⟨n, k, bs (wordOf r2), bs (wordOf r3), am, 0⟩ : Cm).ref)
                    have e0 := (HQ.blkAt (i := 1) rfl).c 0 _ rfl
                    have e1 := (HQ.blkAt (i := 1) rfl).c 1 _ rfl
                    have e2 := (HQ.blkAt (i := 1) rfl).c 2 _ rfl
                    have e3 := (HQ.blkAt (i := 1) rfl).c 3 _ rfl
                    have e4 := (HQ.blkAt (i := 1) rfl).c 4 _ rfl
                    have e5 := (HQ.blkAt (i := 1) rfl).c 5 _ rfl
                    have HQ2 : Hid _ := hide HQ.rdt
                    clear HQ
                    dsimp only at e0 e1 e2 e3 e4 e5
                    go_wp2_with fail
                    refine bodyPost_ret (v := (⟨n, k, bs (wordOf r2), bs (wordOf r3), am, 0⟩ : Cm).v) (by simp [results, Tryz.results19, go_sem, e0, e1, e2, e3, e4, e5, Cm.v]) rfl (.inl ⟨(⟨n, k, bs (wordOf r2), bs (wordOf r3), am, 0⟩ : Cm), (restOf r4), ?_, rfl, HQ2.out⟩)
                    exact ⟨HN.out, r1, HR1.out, HKd.out, .inr ⟨HKh.out, r2, r3, r4, Hr2.out, rfl, Hr3.out, rfl, Hr4.out, HAm.out, rfl, rfl⟩, HB.out⟩
                · have HN2 : Hid (∀ n, ¬ IsNum (wordOf r4) n) := hide (fun n h => hn2 ⟨n, h⟩)
                  clear hn2
                  go_wp2_with fail
                  refine (nextNumber_bad B r4 t v w0 _ HE.out (HG.out.tor HPd.out.rdt) (by omega) HN2.out).mono ?_
                  rintro e we ⟨rfl, l5, hr5⟩
                  have HR5 : Hid _ := hide (HPd.out.rdt.trans hr5)
                  clear hr5
                  unfold gaveUp
                  go_wp2_with fail
                  refine ⟨rfl, .inr ⟨fun c r hc => ?_, rfl, _, HR5.out⟩⟩
                  obtain ⟨hc0, r1', e1', hk1, hrest, hcB⟩ := hc
                  rw [HR1.out] at e1'
                  cases e1'
                  have ek := wordL_inj ⟨hk1.1, hk1.2.1⟩ ⟨HKd.out.1, HKd.out.2.1⟩ (hk1.2.2.trans HKd.out.2.2.symm)
                  have kh := HKh.out
                  rcases hrest with ⟨hk2, _⟩ | ⟨_, r2', r3', r4', e2', e3', e4', e5', e6', hcA, e7, e8⟩
                  · exact absurd (by rw [← ek]; exact hk2) kh
                  · rw [Hr2.out] at e2'
                    cases e2'
                    rw [Hr3.out] at e4'
                    cases e4'
                    rw [Hr4.out] at e6'
                    cases e6'
                    exact HN2.out _ hcA
              · have H1 : Hid _ := hide h1
                clear h1
                go_wp2_with fail
                refine (nextNumber_no B _ t v w0 _ HE.out (HG.out.tor HPd.out.rdt) H1.out).mono ?_
                rintro e we ⟨rfl, l5, hr5⟩
                have HR5 : Hid _ := hide (HPd.out.rdt.trans hr5)
                clear hr5
                unfold gaveUp
                go_wp2_with fail
                refine ⟨rfl, .inr ⟨fun c r hc => ?_, rfl, _, HR5.out⟩⟩
                obtain ⟨hc0, r1', e1', hk1, hrest, hcB⟩ := hc
                rw [HR1.out] at e1'
                cases e1'
                have ek := wordL_inj ⟨hk1.1, hk1.2.1⟩ ⟨HKd.out.1, HKd.out.2.1⟩ (hk1.2.2.trans HKd.out.2.2.symm)
                have kh := HKh.out
                rcases hrest with ⟨hk2, _⟩ | ⟨_, r2', r3', r4', e2', e3', e4', e5', e6', hcA, e7, e8⟩
                · exact absurd (by rw [← ek]; exact hk2) kh
                · rw [Hr2.out] at e2'
                  cases e2'
                  rw [Hr3.out] at e4'
                  cases e4'
                  exact H1.out (by rw [e6']; rfl)
            · have H1 : Hid _ := hide h1
              clear h1
              go_wp2_with fail
              refine (nextText_no B _ t v w0 _ HE.out (HG.out.tor HPb.out.rdt) H1.out).mono ?_
              rintro e we ⟨rfl, l5, hr5⟩
              have HR5 : Hid _ := hide (HPb.out.rdt.trans hr5)
              clear hr5
              unfold gaveUp
              go_wp2_with fail
              refine ⟨rfl, .inr ⟨fun c r hc => ?_, rfl, _, HR5.out⟩⟩
              obtain ⟨hc0, r1', e1', hk1, hrest, hcB⟩ := hc
              rw [HR1.out] at e1'
              cases e1'
              have ek := wordL_inj ⟨hk1.1, hk1.2.1⟩ ⟨HKd.out.1, HKd.out.2.1⟩ (hk1.2.2.trans HKd.out.2.2.symm)
              have kh := HKh.out
              rcases hrest with ⟨hk2, _⟩ | ⟨_, r2', r3', r4', e2', e3', e4', e5', e6', hcA, e7, e8⟩
              · exact absurd (by rw [← ek]; exact hk2) kh
              · rw [Hr2.out] at e2'
                cases e2'
                exact H1.out (by rw [e4']; rfl)
          · have H1 : Hid _ := hide h1
            clear h1
            go_wp2_with fail
            refine (nextText_no B _ t v w0 _ HE.out (HG.out.tor HP7.out.rdt) H1.out).mono ?_
            rintro e we ⟨rfl, l5, hr5⟩
            have HR5 : Hid _ := hide (HP7.out.rdt.trans hr5)
            clear hr5
            unfold gaveUp
            go_wp2_with fail
            refine ⟨rfl, .inr ⟨fun c r hc => ?_, rfl, _, HR5.out⟩⟩
            obtain ⟨hc0, r1', e1', hk1, hrest, hcB⟩ := hc
            rw [HR1.out] at e1'
            cases e1'
            have ek := wordL_inj ⟨hk1.1, hk1.2.1⟩ ⟨HKd.out.1, HKd.out.2.1⟩ (hk1.2.2.trans HKd.out.2.2.symm)
            have kh := HKh.out
            rcases hrest with ⟨hk2, _⟩ | ⟨_, r2', r3', r4', e2', e3', e4', e5', e6', hcA, e7, e8⟩
            · exact absurd (by rw [← ek]; exact hk2) kh
            · exact H1.out (by rw [e2']; rfl)
      · have HK : Hid _ := hide hk
        clear hk hw6
        unfold gaveUp
        go_wp2_with fail
        refine ⟨rfl, .inr ⟨fun c r hc => ?_, rfl, _, HP5.out.rdt⟩⟩
        obtain ⟨_, r1', e1', hk1, _⟩ := hc
        rw [HR1.out] at e1'
        cases e1'
        exact HK.out c.kind hk1.1 hk1.2.1 hk1.2.2
    · have H1 : Hid _ := hide h1
      clear h1
      go_wp2_with fail
      refine (next_no B _ t v w0 _ HE.out (HG.out.tor HP4.out.rdt) H1.out).mono ?_
      rintro e w5 ⟨rfl, l5, hr5⟩
      have HR5 : Hid _ := hide (HP4.out.rdt.trans hr5)
      clear hr5
      unfold gaveUp
      go_wp2_with fail
      refine ⟨rfl, .inr ⟨fun c r hc => ?_, rfl, _, HR5.out⟩⟩
      obtain ⟨_, r1', e1', _⟩ := hc
      exact H1.out (by rw [e1']; rfl)
  · have HN : Hid (∀ n, ¬ IsNum (wordOf l) n) := hide (fun n h => hn ⟨n, h⟩)
    clear hn
    go_wp2_with fail
    refine (number_no _ (wordOf l) t v _ ((HG.out.tor HP2.out.rdt).env HE.out) (by omega) HN.out).mono ?_
    rintro e w3 ⟨rfl, hb3⟩
    have HR3 : Hid _ := hide (HP2.out.rdt.below hb3)
    clear hb3
    unfold gaveUp
    go_wp2_with fail
    exact ⟨rfl, .inr ⟨fun c r hc => HN.out c.id hc.1, rfl, _, HR3.out⟩⟩
end Go.Proofs.YtbcodlgpdehdhaaGreatDoor
