/- The rows of a ledger's text, as the program reads them. -/
import Derived.Test.YteaopalhbnhbaaaGreatDoorGp
import Derived.Test.YteaopalhbnhbaaaGreatDoorGb
import Derived.Test.YteaopalhbnhbaaaGreatDoorGc
namespace Go.Proofs.YteaopalhbnhbaaaGreatDoor
open Go.ChangeShapes Go.WideShapes Go.ChangeAt Go.RowKit Go.Lib
set_option linter.unusedVariables false
set_option maxRecDepth 100000
theorem itoa_inj {a b : Int} (ha : -99999999999999 ≤ a ∧ a ≤ 99999999999999) (hb : -99999999999999 ≤ b ∧ b ≤ 99999999999999) (h : itoa a = itoa b) : a = b := by
  rw [← (int_itoa ha.1 ha.2).2, ← (int_itoa hb.1 hb.2).2, h]
theorem IsNum.inj {l : List UInt8} {a b : Int} (h : IsNum l a) (k : IsNum l b) : a = b := itoa_inj h.1 k.1 (h.2.trans k.2.symm)
theorem Pool.rd {B : Nat} {w x y : World} {l l' : List UInt8} {S : List (List Rs)} (h : Pool [B] w ([blk B [.string (bs l)]] :: S) x) (k : RdTo B l' x y) : Pool [B] w ([blk B [.string (bs l')]] :: S) y :=
  h.step (i := 0) (rs := [blk B [.string (bs l)]]) (rs' := [blk B [.string (bs l')]]) rfl (by simpa [fps, blk] using k.2) (Star.ofBlk k.1) (fun b hb => .inl hb)
theorem Pool.rdt {B : Nat} {w x : World} {l : List UInt8} {S : List (List Rs)} (h : Pool [B] w ([blk B [.string (bs l)]] :: S) x) : RdTo B l w x := ⟨h.blkAt (i := 0) rfl, h.fr⟩
theorem Pool.setN2 {F : List Nat} {w x : World} {S : List (List Rs)} (h : Pool F w S x) {i b : Nat} {z0 z1 : Value} (hi : S[i]? = some [blk b [z0, z1]]) (v0 v1 : Value) :
    Pool F w (S.set i [blk b [v0, v1]]) ((x.setCell ⟨b, 0, none⟩ v0).setCell ⟨b, 1, none⟩ v1) := by
  have hlen : i < S.length := (List.getElem?_eq_some_iff.1 hi).1
  have h0 := h.setBlk (i := i) hi 0 v0 (by simp)
  have h1 := h0.setBlk (i := i) (by rw [List.getElem?_set_self (by simpa using hlen)]) 1 v1 (by simp)
  simpa [List.set_set] using h1
theorem Pool.setN4 {F : List Nat} {w x : World} {S : List (List Rs)} (h : Pool F w S x) {i b : Nat} {z0 z1 z2 z3 : Value} (hi : S[i]? = some [blk b [z0, z1, z2, z3]]) (v0 v1 v2 v3 : Value) :
    Pool F w (S.set i [blk b [v0, v1, v2, v3]]) ((((x.setCell ⟨b, 0, none⟩ v0).setCell ⟨b, 1, none⟩ v1).setCell ⟨b, 2, none⟩ v2).setCell ⟨b, 3, none⟩ v3) := by
  have hlen : i < S.length := (List.getElem?_eq_some_iff.1 hi).1
  have h0 := h.setBlk (i := i) hi 0 v0 (by simp)
  have h1 := h0.setBlk (i := i) (by rw [List.getElem?_set_self (by simpa using hlen)]) 1 v1 (by simp)
  have h2 := h1.setBlk (i := i) (by rw [List.getElem?_set_self (by simpa using hlen)]) 2 v2 (by simp)
  have h3 := h2.setBlk (i := i) (by rw [List.getElem?_set_self (by simpa using hlen)]) 3 v3 (by simp)
  simpa [List.set_set] using h3
/-- a blank and a word -/
def TxP (l x r : List UInt8) : Prop := ∃ r1, l = 32 :: r1 ∧ x = wordOf r1 ∧ r = restOf r1
/-- a blank and a number -/
def NuP (l : List UInt8) (n : Int) (r : List UInt8) : Prop := ∃ r1, l = 32 :: r1 ∧ IsNum (wordOf r1) n ∧ r = restOf r1
theorem TxP.inj {l x y r s : List UInt8} (h : TxP l x r) (k : TxP l y s) : x = y ∧ r = s := by
  obtain ⟨r1, e1, e2, e3⟩ := h
  obtain ⟨r2, f1, f2, f3⟩ := k
  rw [e1] at f1
  cases f1
  exact ⟨e2.trans f2.symm, e3.trans f3.symm⟩
theorem NuP.inj {l : List UInt8} {m n : Int} {r s : List UInt8} (h : NuP l m r) (k : NuP l n s) : m = n ∧ r = s := by
  obtain ⟨r1, e1, e2, e3⟩ := h
  obtain ⟨r2, f1, f2, f3⟩ := k
  rw [e1] at f1
  cases f1
  exact ⟨e2.inj f2, e3.trans f3.symm⟩
theorem TxP.len {l x r : List UInt8} (h : TxP l x r) : r.length + x.length < l.length := by
  obtain ⟨r1, rfl, rfl, rfl⟩ := h
  have := congrArg List.length (word_rest r1)
  simp only [List.length_append, List.length_cons] at this ⊢
  omega
theorem NuP.len {l : List UInt8} {n : Int} {r : List UInt8} (h : NuP l n r) : r.length < l.length := by
  obtain ⟨r1, rfl, _, rfl⟩ := h
  have := rest_size r1
  simp only [List.length_cons]
  omega
theorem head_32 {l : List UInt8} (h : l.head? = some 32) : ∃ r, l = 32 :: r := by
  cases l with
  | nil => cases h
  | cons a b => simp at h; exact ⟨b, by rw [h]⟩
def TxEnd (B : Nat) (l : List UInt8) (t : TypeId) (v : Value) (w : World) (e : Ending) (w' : World) : Prop :=
  (∃ x r, TxP l x r ∧ e = .returned (.string (bs x)) ∧ RdTo B r w w') ∨ ((∀ x r, ¬ TxP l x r) ∧ GvTo B t v w e w')
def NuEnd (B : Nat) (l : List UInt8) (t : TypeId) (v : Value) (w : World) (e : Ending) (w' : World) : Prop :=
  (∃ n r, NuP l n r ∧ e = .returned (.int .i64 n) ∧ RdTo B r w w') ∨ ((∀ n r, ¬ NuP l n r) ∧ GvTo B t v w e w')
theorem nextText_end (B : Nat) (l : List UInt8) (t : TypeId) (v : Value) (w0 w : World) (E : Env t v w0) (h : Rg w0 B l w) (hl : l.length ≤ 1048576) :
    Calls Tryz.prog 94 #[.pointer (some ⟨B, 0, none⟩)] w fun e w' => TxEnd B l t v w e w' := by
  by_cases h1 : l.head? = some 32
  · obtain ⟨r, rfl⟩ := head_32 h1
    refine (nextText_yes B r w h.r (by simp only [List.length_cons] at hl; omega)).mono ?_
    rintro e w' ⟨rfl, hr⟩
    exact .inl ⟨_, _, ⟨r, rfl, rfl, rfl⟩, rfl, hr⟩
  · refine (nextText_no B l t v w0 w E h h1).mono ?_
    intro e w' hg
    refine .inr ⟨fun x r hx => ?_, hg⟩
    obtain ⟨r1, e1, _⟩ := hx
    exact h1 (by rw [e1]; rfl)
theorem nextNumber_end (B : Nat) (l : List UInt8) (t : TypeId) (v : Value) (w0 w : World) (E : Env t v w0) (h : Rg w0 B l w) (hl : l.length ≤ 1048576) :
    Calls Tryz.prog 95 #[.pointer (some ⟨B, 0, none⟩)] w fun e w' => NuEnd B l t v w e w' := by
  by_cases h1 : l.head? = some 32
  · obtain ⟨r, rfl⟩ := head_32 h1
    have hl' : r.length ≤ 1048576 := by simp only [List.length_cons] at hl; omega
    by_cases hn : ∃ n, IsNum (wordOf r) n
    · obtain ⟨n, hn⟩ := hn
      refine (nextNumber_yes B r n t v w0 w E h hl' hn).mono ?_
      rintro e w' ⟨rfl, hr⟩
      exact .inl ⟨_, _, ⟨r, rfl, hn, rfl⟩, rfl, hr⟩
    · refine (nextNumber_bad B r t v w0 w E h hl' (fun n q => hn ⟨n, q⟩)).mono ?_
      intro e w' hg
      refine .inr ⟨fun x s hx => ?_, hg⟩
      obtain ⟨r1, e1, e2, _⟩ := hx
      cases e1
      exact hn ⟨x, e2⟩
  · refine (nextNumber_no B l t v w0 w E h h1).mono ?_
    intro e w' hg
    refine .inr ⟨fun x r hx => ?_, hg⟩
    obtain ⟨r1, e1, _⟩ := hx
    exact h1 (by rw [e1]; rfl)
theorem nl_yes (r : List UInt8) : Lib.hasPrefix (10 :: r) [10] = true ∧ Lib.trimPrefix (10 :: r) [10] = r := by
  have h : Lib.hasPrefix (10 :: r) [10] = true := by simp [Lib.hasPrefix]
  exact ⟨h, by unfold Lib.trimPrefix; rw [if_pos h]; rfl⟩
theorem nl_no {l : List UInt8} (hn : ∀ r, l ≠ 10 :: r) : Lib.hasPrefix l [10] = false ∧ Lib.trimPrefix l [10] = l := by
  have h : Lib.hasPrefix l [10] = false := by
    cases l with
    | nil => rfl
    | cons c r =>
      simp [Lib.hasPrefix, List.isPrefixOf]
      intro e
      exact hn r (by rw [← e])
  exact ⟨h, by unfold Lib.trimPrefix; rw [if_neg (by rw [h]; simp)]⟩
def AccP (l : List UInt8) (a : Acc) (r : List UInt8) : Prop := ∃ (x0 x1 r1 r2 r3 r4 : List UInt8), TxP l x0 r1 ∧ TxP r1 x1 r2 ∧ NuP r2 a.limit r3 ∧ NuP r3 a.posted r4 ∧ a.name = bs x0 ∧ a.cur = bs x1 ∧ r4 = 10 :: r
theorem AccP.inj {l : List UInt8} {a b : Acc} {r s : List UInt8} (h : AccP l a r) (k : AccP l b s) : a = b ∧ r = s := by
  obtain ⟨x0, x1, r1, r2, r3, r4, p0, p1, p2, p3, e0, e1, er⟩ := h
  obtain ⟨x0', x1', r1', r2', r3', r4', p0', p1', p2', p3', e0', e1', er'⟩ := k
  obtain ⟨q0, s0⟩ := p0.inj p0'
  subst s0
  obtain ⟨q1, s1⟩ := p1.inj p1'
  subst s1
  obtain ⟨q2, s2⟩ := p2.inj p2'
  subst s2
  obtain ⟨q3, s3⟩ := p3.inj p3'
  subst s3
  have es := er.symm.trans er'
  cases es
  refine ⟨?_, rfl⟩
  cases a; cases b
  simp only at *
  congr 1 <;> first | exact (e0.trans ((congrArg bs q0).trans e0'.symm)) | exact (e1.trans ((congrArg bs q1).trans e1'.symm)) | exact q2 | exact q3
theorem AccP.len {l : List UInt8} {a : Acc} {r : List UInt8} (h : AccP l a r) : r.length < l.length := by
  obtain ⟨x0, x1, r1, r2, r3, r4, p0, p1, p2, p3, e0, e1, er⟩ := h
  have l0 := p0.len
  have l1 := p1.len
  have l2 := p2.len
  have l3 := p3.len
  rw [er] at l3
  simp only [List.length_cons] at l3
  omega
def AccEnd (B : Nat) (l : List UInt8) (t : TypeId) (v : Value) (w : World) (e : Ending) (w' : World) : Prop :=
  (∃ a r, AccP l a r ∧ e = .returned (.agg #[.string a.name, .string a.cur, .int .i64 a.limit, .int .i64 a.posted]) ∧ RdTo B r w w') ∨ ((∀ a r, ¬ AccP l a r) ∧ GvTo B t v w e w')
set_option maxHeartbeats 4000000 in
theorem accountFrom_end (B : Nat) (l : List UInt8) (t : TypeId) (v : Value) (w0 w : World) (E : Env t v w0) (h : Rg w0 B l w) (hl : l.length ≤ 1048576) :
    Calls Tryz.prog 59 #[.pointer (some ⟨B, 0, none⟩)] w fun e w' => AccEnd B l t v w e w' := by
  have HE : Hid _ := hide E
  have HG : Hid _ := hide h
  have HP0 : Hid (Pool [B] w [[blk B [.string (bs l)]], [], []] w) := hide ((Pool.of (Star.ofBlk h.r)).cast (by simp))
  clear E h
  go_enter Tryz.func59, Tryz.ntmps59
  go_upto_region 1 with fail
  refine cnm_world (fun W1 hW1 => ?_)
  obtain ⟨C, hC⟩ : ∃ C, C = w.heap.size := ⟨_, rfl⟩
  have HP1 : Hid (Pool [B] w [[blk B [.string (bs l)]], [blk C [.string ⟨#[]⟩, .string ⟨#[]⟩, .int .i64 0, .int .i64 0]], []] W1) := hide (by
    have p1 := HP0.out.newBlk (i := 1) rfl [.string ⟨#[]⟩, .string ⟨#[]⟩, .int .i64 0, .int .i64 0] 50
    rw [← hC] at p1
    rw [hW1]; exact p1)
  rw [← hC]
  clear hW1 HP0 hC
  go_wp2_with fail
  refine (nextText_end B l t v w0 _ HE.out (HG.out.tor HP1.out.rdt) (by omega)).mono ?_
  rintro e y0 (⟨x0, r1, hx, rfl, hr⟩ | ⟨hno, rfl, l5, hr⟩)
  case inr =>
    have HNo : Hid _ := hide hno
    have HR5 : Hid _ := hide (HP1.out.rdt.trans hr)
    clear hno hr
    unfold gaveUp
    go_wp2_with fail
    refine ⟨rfl, .inr ⟨fun c r hc => ?_, rfl, _, HR5.out⟩⟩
    obtain ⟨x0', x1', r1', r2', r3', r4', p0', p1', p2', p3', er⟩ := hc
    exact HNo.out _ _ p0'
  have HX0 : Hid _ := hide hx
  have ln0 := hx.len
  have HPx0 : Hid (Pool [B] w [[blk B [.string (bs r1)]], [blk C [.string ⟨#[]⟩, .string ⟨#[]⟩, .int .i64 0, .int .i64 0]], []] y0) := hide (HP1.out.rd hr)
  clear hx hr HP1
  go_wp2_with fail
  refine (nextText_end B r1 t v w0 _ HE.out (HG.out.tor HPx0.out.rdt) (by omega)).mono ?_
  rintro e y1 (⟨x1, r2, hx, rfl, hr⟩ | ⟨hno, rfl, l5, hr⟩)
  case inr =>
    have HNo : Hid _ := hide hno
    have HR5 : Hid _ := hide (HPx0.out.rdt.trans hr)
    clear hno hr
    unfold gaveUp
    go_wp2_with fail
    refine ⟨rfl, .inr ⟨fun c r hc => ?_, rfl, _, HR5.out⟩⟩
    obtain ⟨x0', x1', r1', r2', r3', r4', p0', p1', p2', p3', er⟩ := hc
    obtain ⟨_, s0⟩ := HX0.out.inj p0'
    subst s0
    exact HNo.out _ _ p1'
  have HX1 : Hid _ := hide hx
  have ln1 := hx.len
  have HPx1 : Hid (Pool [B] w [[blk B [.string (bs r2)]], [blk C [.string ⟨#[]⟩, .string ⟨#[]⟩, .int .i64 0, .int .i64 0]], []] y1) := hide (HPx0.out.rd hr)
  clear hx hr HPx0
  go_wp2_with fail
  refine (nextNumber_end B r2 t v w0 _ HE.out (HG.out.tor HPx1.out.rdt) (by omega)).mono ?_
  rintro e y2 (⟨x2, r3, hx, rfl, hr⟩ | ⟨hno, rfl, l5, hr⟩)
  case inr =>
    have HNo : Hid _ := hide hno
    have HR5 : Hid _ := hide (HPx1.out.rdt.trans hr)
    clear hno hr
    unfold gaveUp
    go_wp2_with fail
    refine ⟨rfl, .inr ⟨fun c r hc => ?_, rfl, _, HR5.out⟩⟩
    obtain ⟨x0', x1', r1', r2', r3', r4', p0', p1', p2', p3', er⟩ := hc
    obtain ⟨_, s0⟩ := HX0.out.inj p0'
    subst s0
    obtain ⟨_, s1⟩ := HX1.out.inj p1'
    subst s1
    exact HNo.out _ _ p2'
  have HX2 : Hid _ := hide hx
  have ln2 := hx.len
  have HPx2 : Hid (Pool [B] w [[blk B [.string (bs r3)]], [blk C [.string ⟨#[]⟩, .string ⟨#[]⟩, .int .i64 0, .int .i64 0]], []] y2) := hide (HPx1.out.rd hr)
  clear hx hr HPx1
  go_wp2_with fail
  refine (nextNumber_end B r3 t v w0 _ HE.out (HG.out.tor HPx2.out.rdt) (by omega)).mono ?_
  rintro e y3 (⟨x3, r4, hx, rfl, hr⟩ | ⟨hno, rfl, l5, hr⟩)
  case inr =>
    have HNo : Hid _ := hide hno
    have HR5 : Hid _ := hide (HPx2.out.rdt.trans hr)
    clear hno hr
    unfold gaveUp
    go_wp2_with fail
    refine ⟨rfl, .inr ⟨fun c r hc => ?_, rfl, _, HR5.out⟩⟩
    obtain ⟨x0', x1', r1', r2', r3', r4', p0', p1', p2', p3', er⟩ := hc
    obtain ⟨_, s0⟩ := HX0.out.inj p0'
    subst s0
    obtain ⟨_, s1⟩ := HX1.out.inj p1'
    subst s1
    obtain ⟨_, s2⟩ := HX2.out.inj p2'
    subst s2
    exact HNo.out _ _ p3'
  have HX3 : Hid _ := hide hx
  have ln3 := hx.len
  have HPx3 : Hid (Pool [B] w [[blk B [.string (bs r4)]], [blk C [.string ⟨#[]⟩, .string ⟨#[]⟩, .int .i64 0, .int .i64 0]], []] y3) := hide (HPx2.out.rd hr)
  clear hx hr HPx2
  go_upto_region 2 with fail
  refine cnm_world (fun W2 hW2 => ?_)
  obtain ⟨G, hG⟩ : ∃ G, G = y3.heap.size := ⟨_, rfl⟩
  have HP2 : Hid (Pool [B] w [[blk B [.string (bs r4)]], [blk C [.string ⟨#[]⟩, .string ⟨#[]⟩, .int .i64 0, .int .i64 0]], [blk G [.string (bs x0), .string (bs x1), .int .i64 x2, .int .i64 x3]]] W2) := hide (by
    have p1 := HPx3.out.newBlk (i := 2) rfl [.string (bs x0), .string (bs x1), .int .i64 x2, .int .i64 x3] 50
    rw [← hG] at p1
    rw [hW2]; exact p1)
  rw [← hG]
  clear hW2 HPx3 hG
  go_wp2_with fail
  refine (begins_any B r4 [10] _ (HP2.out.blkAt (i := 0) rfl)).mono ?_
  rintro e y9 ⟨rfl, hr⟩
  by_cases hnl : ∃ r, r4 = 10 :: r
  · obtain ⟨r, hnl⟩ := hnl
    have HNl : Hid _ := hide hnl
    have eT : Lib.hasPrefix r4 [10] = true := by rw [hnl]; exact (nl_yes r).1
    have eR : Lib.trimPrefix r4 [10] = r := by rw [hnl]; exact (nl_yes r).2
    rw [eR] at hr
    rw [eT]
    have HP3 : Hid (Pool [B] w [[blk B [.string (bs r)]], [blk C [.string ⟨#[]⟩, .string ⟨#[]⟩, .int .i64 0, .int .i64 0]], [blk G [.string (bs x0), .string (bs x1), .int .i64 x2, .int .i64 x3]]] y9) := hide (HP2.out.rd hr)
    clear hr eT eR HP2 hnl
    go_wp2_with fail
    refine (want_yes _ _).mono ?_
    rintro e y10 ⟨rfl, hw⟩
    rw [hw]
    clear hw
    have g_0 := (HP3.out.blkAt (i := 2) rfl).c 0 _ rfl
    have z_0 := (HP3.out.blkAt (i := 1) rfl).c 0 _ rfl
    have f_0 := (HP3.out.blkAt (i := 1) rfl).f 0
    have g_1 := (HP3.out.blkAt (i := 2) rfl).c 1 _ rfl
    have z_1 := (HP3.out.blkAt (i := 1) rfl).c 1 _ rfl
    have f_1 := (HP3.out.blkAt (i := 1) rfl).f 1
    have g_2 := (HP3.out.blkAt (i := 2) rfl).c 2 _ rfl
    have z_2 := (HP3.out.blkAt (i := 1) rfl).c 2 _ rfl
    have f_2 := (HP3.out.blkAt (i := 1) rfl).f 2
    have g_3 := (HP3.out.blkAt (i := 2) rfl).c 3 _ rfl
    have z_3 := (HP3.out.blkAt (i := 1) rfl).c 3 _ rfl
    have f_3 := (HP3.out.blkAt (i := 1) rfl).f 3
    have HQ := HP3.out.setN4 (i := 1) rfl (.string (bs x0)) (.string (bs x1)) (.int .i64 x2) (.int .i64 x3)
    have e0 := (HQ.blkAt (i := 1) rfl).c 0 _ rfl
    have e1 := (HQ.blkAt (i := 1) rfl).c 1 _ rfl
    have e2 := (HQ.blkAt (i := 1) rfl).c 2 _ rfl
    have e3 := (HQ.blkAt (i := 1) rfl).c 3 _ rfl
    have HQ2 : Hid _ := hide HQ.rdt
    clear HQ
    go_wp2_with fail
    refine bodyPost_ret (v := .agg #[.string (bs x0), .string (bs x1), .int .i64 x2, .int .i64 x3]) (by simp [results, Tryz.results59, go_sem, e0, e1, e2, e3]) rfl (.inl ⟨⟨bs x0, bs x1, x2, x3⟩, r, ?_, rfl, HQ2.out⟩)
    exact ⟨x0, x1, r1, r2, r3, r4, HX0.out, HX1.out, HX2.out, HX3.out, rfl, rfl, HNl.out⟩
  · have HNo : Hid _ := hide hnl
    have eT : Lib.hasPrefix r4 [10] = false := (nl_no (fun r q => hnl ⟨r, q⟩)).1
    rw [eT]
    have HR5 : Hid _ := hide (HP2.out.rdt.trans hr)
    have HEy : Hid (Env t v y9) := hide ((HG.out.tor (HP2.out.rdt.trans hr)).env HE.out)
    clear hr eT HP2 hnl
    go_wp2_with fail
    refine (want_no _ t v _ HEy.out).mono ?_
    rintro e y10 ⟨rfl, hw⟩
    rw [hw]
    clear hw
    unfold gaveUp
    go_wp2_with fail
    refine ⟨rfl, .inr ⟨fun c r hc => ?_, rfl, _, HR5.out⟩⟩
    obtain ⟨x0', x1', r1', r2', r3', r4', p0', p1', p2', p3', e0', e1', er⟩ := hc
    obtain ⟨_, s0⟩ := HX0.out.inj p0'
    subst s0
    obtain ⟨_, s1⟩ := HX1.out.inj p1'
    subst s1
    obtain ⟨_, s2⟩ := HX2.out.inj p2'
    subst s2
    obtain ⟨_, s3⟩ := HX3.out.inj p3'
    subst s3
    exact HNo.out ⟨_, er⟩
def HldP (l : List UInt8) (a : Hld) (r : List UInt8) : Prop := ∃ (x1 x2 r1 r2 r3 r4 : List UInt8), NuP l a.id r1 ∧ TxP r1 x1 r2 ∧ TxP r2 x2 r3 ∧ NuP r3 a.amount r4 ∧ a.fr = bs x1 ∧ a.«to» = bs x2 ∧ r4 = 10 :: r
theorem HldP.inj {l : List UInt8} {a b : Hld} {r s : List UInt8} (h : HldP l a r) (k : HldP l b s) : a = b ∧ r = s := by
  obtain ⟨x1, x2, r1, r2, r3, r4, p0, p1, p2, p3, e0, e1, er⟩ := h
  obtain ⟨x1', x2', r1', r2', r3', r4', p0', p1', p2', p3', e0', e1', er'⟩ := k
  obtain ⟨q0, s0⟩ := p0.inj p0'
  subst s0
  obtain ⟨q1, s1⟩ := p1.inj p1'
  subst s1
  obtain ⟨q2, s2⟩ := p2.inj p2'
  subst s2
  obtain ⟨q3, s3⟩ := p3.inj p3'
  subst s3
  have es := er.symm.trans er'
  cases es
  refine ⟨?_, rfl⟩
  cases a; cases b
  simp only at *
  congr 1 <;> first | exact q0 | exact (e0.trans ((congrArg bs q1).trans e0'.symm)) | exact (e1.trans ((congrArg bs q2).trans e1'.symm)) | exact q3
theorem HldP.len {l : List UInt8} {a : Hld} {r : List UInt8} (h : HldP l a r) : r.length < l.length := by
  obtain ⟨x1, x2, r1, r2, r3, r4, p0, p1, p2, p3, e0, e1, er⟩ := h
  have l0 := p0.len
  have l1 := p1.len
  have l2 := p2.len
  have l3 := p3.len
  rw [er] at l3
  simp only [List.length_cons] at l3
  omega
def HldEnd (B : Nat) (l : List UInt8) (t : TypeId) (v : Value) (w : World) (e : Ending) (w' : World) : Prop :=
  (∃ a r, HldP l a r ∧ e = .returned (.agg #[.int .i64 a.id, .string a.fr, .string a.«to», .int .i64 a.amount]) ∧ RdTo B r w w') ∨ ((∀ a r, ¬ HldP l a r) ∧ GvTo B t v w e w')
set_option maxHeartbeats 4000000 in
theorem holdFrom_end (B : Nat) (l : List UInt8) (t : TypeId) (v : Value) (w0 w : World) (E : Env t v w0) (h : Rg w0 B l w) (hl : l.length ≤ 1048576) :
    Calls Tryz.prog 60 #[.pointer (some ⟨B, 0, none⟩)] w fun e w' => HldEnd B l t v w e w' := by
  have HE : Hid _ := hide E
  have HG : Hid _ := hide h
  have HP0 : Hid (Pool [B] w [[blk B [.string (bs l)]], [], []] w) := hide ((Pool.of (Star.ofBlk h.r)).cast (by simp))
  clear E h
  go_enter Tryz.func60, Tryz.ntmps60
  go_upto_region 1 with fail
  refine cnm_world (fun W1 hW1 => ?_)
  obtain ⟨C, hC⟩ : ∃ C, C = w.heap.size := ⟨_, rfl⟩
  have HP1 : Hid (Pool [B] w [[blk B [.string (bs l)]], [blk C [.int .i64 0, .string ⟨#[]⟩, .string ⟨#[]⟩, .int .i64 0]], []] W1) := hide (by
    have p1 := HP0.out.newBlk (i := 1) rfl [.int .i64 0, .string ⟨#[]⟩, .string ⟨#[]⟩, .int .i64 0] 53
    rw [← hC] at p1
    rw [hW1]; exact p1)
  rw [← hC]
  clear hW1 HP0 hC
  go_wp2_with fail
  refine (nextNumber_end B l t v w0 _ HE.out (HG.out.tor HP1.out.rdt) (by omega)).mono ?_
  rintro e y0 (⟨x0, r1, hx, rfl, hr⟩ | ⟨hno, rfl, l5, hr⟩)
  case inr =>
    have HNo : Hid _ := hide hno
    have HR5 : Hid _ := hide (HP1.out.rdt.trans hr)
    clear hno hr
    unfold gaveUp
    go_wp2_with fail
    refine ⟨rfl, .inr ⟨fun c r hc => ?_, rfl, _, HR5.out⟩⟩
    obtain ⟨x1', x2', r1', r2', r3', r4', p0', p1', p2', p3', er⟩ := hc
    exact HNo.out _ _ p0'
  have HX0 : Hid _ := hide hx
  have ln0 := hx.len
  have HPx0 : Hid (Pool [B] w [[blk B [.string (bs r1)]], [blk C [.int .i64 0, .string ⟨#[]⟩, .string ⟨#[]⟩, .int .i64 0]], []] y0) := hide (HP1.out.rd hr)
  clear hx hr HP1
  go_wp2_with fail
  refine (nextText_end B r1 t v w0 _ HE.out (HG.out.tor HPx0.out.rdt) (by omega)).mono ?_
  rintro e y1 (⟨x1, r2, hx, rfl, hr⟩ | ⟨hno, rfl, l5, hr⟩)
  case inr =>
    have HNo : Hid _ := hide hno
    have HR5 : Hid _ := hide (HPx0.out.rdt.trans hr)
    clear hno hr
    unfold gaveUp
    go_wp2_with fail
    refine ⟨rfl, .inr ⟨fun c r hc => ?_, rfl, _, HR5.out⟩⟩
    obtain ⟨x1', x2', r1', r2', r3', r4', p0', p1', p2', p3', er⟩ := hc
    obtain ⟨_, s0⟩ := HX0.out.inj p0'
    subst s0
    exact HNo.out _ _ p1'
  have HX1 : Hid _ := hide hx
  have ln1 := hx.len
  have HPx1 : Hid (Pool [B] w [[blk B [.string (bs r2)]], [blk C [.int .i64 0, .string ⟨#[]⟩, .string ⟨#[]⟩, .int .i64 0]], []] y1) := hide (HPx0.out.rd hr)
  clear hx hr HPx0
  go_wp2_with fail
  refine (nextText_end B r2 t v w0 _ HE.out (HG.out.tor HPx1.out.rdt) (by omega)).mono ?_
  rintro e y2 (⟨x2, r3, hx, rfl, hr⟩ | ⟨hno, rfl, l5, hr⟩)
  case inr =>
    have HNo : Hid _ := hide hno
    have HR5 : Hid _ := hide (HPx1.out.rdt.trans hr)
    clear hno hr
    unfold gaveUp
    go_wp2_with fail
    refine ⟨rfl, .inr ⟨fun c r hc => ?_, rfl, _, HR5.out⟩⟩
    obtain ⟨x1', x2', r1', r2', r3', r4', p0', p1', p2', p3', er⟩ := hc
    obtain ⟨_, s0⟩ := HX0.out.inj p0'
    subst s0
    obtain ⟨_, s1⟩ := HX1.out.inj p1'
    subst s1
    exact HNo.out _ _ p2'
  have HX2 : Hid _ := hide hx
  have ln2 := hx.len
  have HPx2 : Hid (Pool [B] w [[blk B [.string (bs r3)]], [blk C [.int .i64 0, .string ⟨#[]⟩, .string ⟨#[]⟩, .int .i64 0]], []] y2) := hide (HPx1.out.rd hr)
  clear hx hr HPx1
  go_wp2_with fail
  refine (nextNumber_end B r3 t v w0 _ HE.out (HG.out.tor HPx2.out.rdt) (by omega)).mono ?_
  rintro e y3 (⟨x3, r4, hx, rfl, hr⟩ | ⟨hno, rfl, l5, hr⟩)
  case inr =>
    have HNo : Hid _ := hide hno
    have HR5 : Hid _ := hide (HPx2.out.rdt.trans hr)
    clear hno hr
    unfold gaveUp
    go_wp2_with fail
    refine ⟨rfl, .inr ⟨fun c r hc => ?_, rfl, _, HR5.out⟩⟩
    obtain ⟨x1', x2', r1', r2', r3', r4', p0', p1', p2', p3', er⟩ := hc
    obtain ⟨_, s0⟩ := HX0.out.inj p0'
    subst s0
    obtain ⟨_, s1⟩ := HX1.out.inj p1'
    subst s1
    obtain ⟨_, s2⟩ := HX2.out.inj p2'
    subst s2
    exact HNo.out _ _ p3'
  have HX3 : Hid _ := hide hx
  have ln3 := hx.len
  have HPx3 : Hid (Pool [B] w [[blk B [.string (bs r4)]], [blk C [.int .i64 0, .string ⟨#[]⟩, .string ⟨#[]⟩, .int .i64 0]], []] y3) := hide (HPx2.out.rd hr)
  clear hx hr HPx2
  go_upto_region 2 with fail
  refine cnm_world (fun W2 hW2 => ?_)
  obtain ⟨G, hG⟩ : ∃ G, G = y3.heap.size := ⟨_, rfl⟩
  have HP2 : Hid (Pool [B] w [[blk B [.string (bs r4)]], [blk C [.int .i64 0, .string ⟨#[]⟩, .string ⟨#[]⟩, .int .i64 0]], [blk G [.int .i64 x0, .string (bs x1), .string (bs x2), .int .i64 x3]]] W2) := hide (by
    have p1 := HPx3.out.newBlk (i := 2) rfl [.int .i64 x0, .string (bs x1), .string (bs x2), .int .i64 x3] 53
    rw [← hG] at p1
    rw [hW2]; exact p1)
  rw [← hG]
  clear hW2 HPx3 hG
  go_wp2_with fail
  refine (begins_any B r4 [10] _ (HP2.out.blkAt (i := 0) rfl)).mono ?_
  rintro e y9 ⟨rfl, hr⟩
  by_cases hnl : ∃ r, r4 = 10 :: r
  · obtain ⟨r, hnl⟩ := hnl
    have HNl : Hid _ := hide hnl
    have eT : Lib.hasPrefix r4 [10] = true := by rw [hnl]; exact (nl_yes r).1
    have eR : Lib.trimPrefix r4 [10] = r := by rw [hnl]; exact (nl_yes r).2
    rw [eR] at hr
    rw [eT]
    have HP3 : Hid (Pool [B] w [[blk B [.string (bs r)]], [blk C [.int .i64 0, .string ⟨#[]⟩, .string ⟨#[]⟩, .int .i64 0]], [blk G [.int .i64 x0, .string (bs x1), .string (bs x2), .int .i64 x3]]] y9) := hide (HP2.out.rd hr)
    clear hr eT eR HP2 hnl
    go_wp2_with fail
    refine (want_yes _ _).mono ?_
    rintro e y10 ⟨rfl, hw⟩
    rw [hw]
    clear hw
    have g_0 := (HP3.out.blkAt (i := 2) rfl).c 0 _ rfl
    have z_0 := (HP3.out.blkAt (i := 1) rfl).c 0 _ rfl
    have f_0 := (HP3.out.blkAt (i := 1) rfl).f 0
    have g_1 := (HP3.out.blkAt (i := 2) rfl).c 1 _ rfl
    have z_1 := (HP3.out.blkAt (i := 1) rfl).c 1 _ rfl
    have f_1 := (HP3.out.blkAt (i := 1) rfl).f 1
    have g_2 := (HP3.out.blkAt (i := 2) rfl).c 2 _ rfl
    have z_2 := (HP3.out.blkAt (i := 1) rfl).c 2 _ rfl
    have f_2 := (HP3.out.blkAt (i := 1) rfl).f 2
    have g_3 := (HP3.out.blkAt (i := 2) rfl).c 3 _ rfl
    have z_3 := (HP3.out.blkAt (i := 1) rfl).c 3 _ rfl
    have f_3 := (HP3.out.blkAt (i := 1) rfl).f 3
    have HQ := HP3.out.setN4 (i := 1) rfl (.int .i64 x0) (.string (bs x1)) (.string (bs x2)) (.int .i64 x3)
    have e0 := (HQ.blkAt (i := 1) rfl).c 0 _ rfl
    have e1 := (HQ.blkAt (i := 1) rfl).c 1 _ rfl
    have e2 := (HQ.blkAt (i := 1) rfl).c 2 _ rfl
    have e3 := (HQ.blkAt (i := 1) rfl).c 3 _ rfl
    have HQ2 : Hid _ := hide HQ.rdt
    clear HQ
    go_wp2_with fail
    refine bodyPost_ret (v := .agg #[.int .i64 x0, .string (bs x1), .string (bs x2), .int .i64 x3]) (by simp [results, Tryz.results60, go_sem, e0, e1, e2, e3]) rfl (.inl ⟨⟨x0, bs x1, bs x2, x3⟩, r, ?_, rfl, HQ2.out⟩)
    exact ⟨x1, x2, r1, r2, r3, r4, HX0.out, HX1.out, HX2.out, HX3.out, rfl, rfl, HNl.out⟩
  · have HNo : Hid _ := hide hnl
    have eT : Lib.hasPrefix r4 [10] = false := (nl_no (fun r q => hnl ⟨r, q⟩)).1
    rw [eT]
    have HR5 : Hid _ := hide (HP2.out.rdt.trans hr)
    have HEy : Hid (Env t v y9) := hide ((HG.out.tor (HP2.out.rdt.trans hr)).env HE.out)
    clear hr eT HP2 hnl
    go_wp2_with fail
    refine (want_no _ t v _ HEy.out).mono ?_
    rintro e y10 ⟨rfl, hw⟩
    rw [hw]
    clear hw
    unfold gaveUp
    go_wp2_with fail
    refine ⟨rfl, .inr ⟨fun c r hc => ?_, rfl, _, HR5.out⟩⟩
    obtain ⟨x1', x2', r1', r2', r3', r4', p0', p1', p2', p3', e0', e1', er⟩ := hc
    obtain ⟨_, s0⟩ := HX0.out.inj p0'
    subst s0
    obtain ⟨_, s1⟩ := HX1.out.inj p1'
    subst s1
    obtain ⟨_, s2⟩ := HX2.out.inj p2'
    subst s2
    obtain ⟨_, s3⟩ := HX3.out.inj p3'
    subst s3
    exact HNo.out ⟨_, er⟩
def SnP (l : List UInt8) (a : Sn) (r : List UInt8) : Prop := ∃ (r1 r2 : List UInt8), NuP l a.id r1 ∧ NuP r1 a.code r2 ∧ r2 = 10 :: r
theorem SnP.inj {l : List UInt8} {a b : Sn} {r s : List UInt8} (h : SnP l a r) (k : SnP l b s) : a = b ∧ r = s := by
  obtain ⟨r1, r2, p0, p1, er⟩ := h
  obtain ⟨r1', r2', p0', p1', er'⟩ := k
  obtain ⟨q0, s0⟩ := p0.inj p0'
  subst s0
  obtain ⟨q1, s1⟩ := p1.inj p1'
  subst s1
  have es := er.symm.trans er'
  cases es
  refine ⟨?_, rfl⟩
  cases a; cases b
  simp only at *
  congr 1 <;> first | exact q0 | exact q1
theorem SnP.len {l : List UInt8} {a : Sn} {r : List UInt8} (h : SnP l a r) : r.length < l.length := by
  obtain ⟨r1, r2, p0, p1, er⟩ := h
  have l0 := p0.len
  have l1 := p1.len
  rw [er] at l1
  simp only [List.length_cons] at l1
  omega
def SnEnd (B : Nat) (l : List UInt8) (t : TypeId) (v : Value) (w : World) (e : Ending) (w' : World) : Prop :=
  (∃ a r, SnP l a r ∧ e = .returned (.agg #[.int .i64 a.id, .int .i64 a.code]) ∧ RdTo B r w w') ∨ ((∀ a r, ¬ SnP l a r) ∧ GvTo B t v w e w')
set_option maxHeartbeats 4000000 in
theorem seenFrom_end (B : Nat) (l : List UInt8) (t : TypeId) (v : Value) (w0 w : World) (E : Env t v w0) (h : Rg w0 B l w) (hl : l.length ≤ 1048576) :
    Calls Tryz.prog 61 #[.pointer (some ⟨B, 0, none⟩)] w fun e w' => SnEnd B l t v w e w' := by
  have HE : Hid _ := hide E
  have HG : Hid _ := hide h
  have HP0 : Hid (Pool [B] w [[blk B [.string (bs l)]], [], []] w) := hide ((Pool.of (Star.ofBlk h.r)).cast (by simp))
  clear E h
  go_enter Tryz.func61, Tryz.ntmps61
  go_upto_region 1 with fail
  refine cnm_world (fun W1 hW1 => ?_)
  obtain ⟨C, hC⟩ : ∃ C, C = w.heap.size := ⟨_, rfl⟩
  have HP1 : Hid (Pool [B] w [[blk B [.string (bs l)]], [blk C [.int .i64 0, .int .i64 0]], []] W1) := hide (by
    have p1 := HP0.out.newBlk (i := 1) rfl [.int .i64 0, .int .i64 0] 55
    rw [← hC] at p1
    rw [hW1]; exact p1)
  rw [← hC]
  clear hW1 HP0 hC
  go_wp2_with fail
  refine (nextNumber_end B l t v w0 _ HE.out (HG.out.tor HP1.out.rdt) (by omega)).mono ?_
  rintro e y0 (⟨x0, r1, hx, rfl, hr⟩ | ⟨hno, rfl, l5, hr⟩)
  case inr =>
    have HNo : Hid _ := hide hno
    have HR5 : Hid _ := hide (HP1.out.rdt.trans hr)
    clear hno hr
    unfold gaveUp
    go_wp2_with fail
    refine ⟨rfl, .inr ⟨fun c r hc => ?_, rfl, _, HR5.out⟩⟩
    obtain ⟨r1', r2', p0', p1', er⟩ := hc
    exact HNo.out _ _ p0'
  have HX0 : Hid _ := hide hx
  have ln0 := hx.len
  have HPx0 : Hid (Pool [B] w [[blk B [.string (bs r1)]], [blk C [.int .i64 0, .int .i64 0]], []] y0) := hide (HP1.out.rd hr)
  clear hx hr HP1
  go_wp2_with fail
  refine (nextNumber_end B r1 t v w0 _ HE.out (HG.out.tor HPx0.out.rdt) (by omega)).mono ?_
  rintro e y1 (⟨x1, r2, hx, rfl, hr⟩ | ⟨hno, rfl, l5, hr⟩)
  case inr =>
    have HNo : Hid _ := hide hno
    have HR5 : Hid _ := hide (HPx0.out.rdt.trans hr)
    clear hno hr
    unfold gaveUp
    go_wp2_with fail
    refine ⟨rfl, .inr ⟨fun c r hc => ?_, rfl, _, HR5.out⟩⟩
    obtain ⟨r1', r2', p0', p1', er⟩ := hc
    obtain ⟨_, s0⟩ := HX0.out.inj p0'
    subst s0
    exact HNo.out _ _ p1'
  have HX1 : Hid _ := hide hx
  have ln1 := hx.len
  have HPx1 : Hid (Pool [B] w [[blk B [.string (bs r2)]], [blk C [.int .i64 0, .int .i64 0]], []] y1) := hide (HPx0.out.rd hr)
  clear hx hr HPx0
  go_upto_region 2 with fail
  refine cnm_world (fun W2 hW2 => ?_)
  obtain ⟨G, hG⟩ : ∃ G, G = y1.heap.size := ⟨_, rfl⟩
  have HP2 : Hid (Pool [B] w [[blk B [.string (bs r2)]], [blk C [.int .i64 0, .int .i64 0]], [blk G [.int .i64 x0, .int .i64 x1]]] W2) := hide (by
    have p1 := HPx1.out.newBlk (i := 2) rfl [.int .i64 x0, .int .i64 x1] 55
    rw [← hG] at p1
    rw [hW2]; exact p1)
  rw [← hG]
  clear hW2 HPx1 hG
  go_wp2_with fail
  refine (begins_any B r2 [10] _ (HP2.out.blkAt (i := 0) rfl)).mono ?_
  rintro e y9 ⟨rfl, hr⟩
  by_cases hnl : ∃ r, r2 = 10 :: r
  · obtain ⟨r, hnl⟩ := hnl
    have HNl : Hid _ := hide hnl
    have eT : Lib.hasPrefix r2 [10] = true := by rw [hnl]; exact (nl_yes r).1
    have eR : Lib.trimPrefix r2 [10] = r := by rw [hnl]; exact (nl_yes r).2
    rw [eR] at hr
    rw [eT]
    have HP3 : Hid (Pool [B] w [[blk B [.string (bs r)]], [blk C [.int .i64 0, .int .i64 0]], [blk G [.int .i64 x0, .int .i64 x1]]] y9) := hide (HP2.out.rd hr)
    clear hr eT eR HP2 hnl
    go_wp2_with fail
    refine (want_yes _ _).mono ?_
    rintro e y10 ⟨rfl, hw⟩
    rw [hw]
    clear hw
    have g_0 := (HP3.out.blkAt (i := 2) rfl).c 0 _ rfl
    have z_0 := (HP3.out.blkAt (i := 1) rfl).c 0 _ rfl
    have f_0 := (HP3.out.blkAt (i := 1) rfl).f 0
    have g_1 := (HP3.out.blkAt (i := 2) rfl).c 1 _ rfl
    have z_1 := (HP3.out.blkAt (i := 1) rfl).c 1 _ rfl
    have f_1 := (HP3.out.blkAt (i := 1) rfl).f 1
    have HQ := HP3.out.setN2 (i := 1) rfl (.int .i64 x0) (.int .i64 x1)
    have e0 := (HQ.blkAt (i := 1) rfl).c 0 _ rfl
    have e1 := (HQ.blkAt (i := 1) rfl).c 1 _ rfl
    have HQ2 : Hid _ := hide HQ.rdt
    clear HQ
    go_wp2_with fail
    refine bodyPost_ret (v := .agg #[.int .i64 x0, .int .i64 x1]) (by simp [results, Tryz.results61, go_sem, e0, e1]) rfl (.inl ⟨⟨x0, x1⟩, r, ?_, rfl, HQ2.out⟩)
    exact ⟨r1, r2, HX0.out, HX1.out, HNl.out⟩
  · have HNo : Hid _ := hide hnl
    have eT : Lib.hasPrefix r2 [10] = false := (nl_no (fun r q => hnl ⟨r, q⟩)).1
    rw [eT]
    have HR5 : Hid _ := hide (HP2.out.rdt.trans hr)
    have HEy : Hid (Env t v y9) := hide ((HG.out.tor (HP2.out.rdt.trans hr)).env HE.out)
    clear hr eT HP2 hnl
    go_wp2_with fail
    refine (want_no _ t v _ HEy.out).mono ?_
    rintro e y10 ⟨rfl, hw⟩
    rw [hw]
    clear hw
    unfold gaveUp
    go_wp2_with fail
    refine ⟨rfl, .inr ⟨fun c r hc => ?_, rfl, _, HR5.out⟩⟩
    obtain ⟨r1', r2', p0', p1', er⟩ := hc
    obtain ⟨_, s0⟩ := HX0.out.inj p0'
    subst s0
    obtain ⟨_, s1⟩ := HX1.out.inj p1'
    subst s1
    exact HNo.out ⟨_, er⟩
end Go.Proofs.YteaopalhbnhbaaaGreatDoor
/- A ledger's text, in the program's reading: the plain mathematics. -/
namespace Go.Proofs.YteaopalhbnhbaaaGreatDoor
set_option linter.unusedVariables false
/-- rows that begin with a word: ys many ys there are -/
def RowsP {A : Type} (hd : List UInt8) (P : List UInt8 → A → List UInt8 → Prop) : List UInt8 → List A → List UInt8 → Prop
  | l, [], r => Lib.hasPrefix l hd = false ∧ r = l
  | l, a :: ys, r => ∃ r1 r2, l = hd ++ r1 ∧ P r1 a r2 ∧ RowsP hd P r2 ys r
/-- what a loop has read -/
def RowsI {A : Type} (hd : List UInt8) (P : List UInt8 → A → List UInt8 → Prop) (l : List UInt8) (done : List A) (cur : List UInt8) : Prop :=
  done.length + cur.length ≤ l.length ∧ ∀ ys r, RowsP hd P l ys r ↔ ∃ ys', ys = done ++ ys' ∧ RowsP hd P cur ys' r
theorem RowsI.start {A : Type} {hd : List UInt8} {P : List UInt8 → A → List UInt8 → Prop} (l : List UInt8) : RowsI hd P l [] l := ⟨by simp, fun ys r => ⟨fun h => ⟨ys, rfl, h⟩, fun ⟨ys', e, h⟩ => by rw [e]; exact h⟩⟩
theorem hasPrefix_app (hd r : List UInt8) : Lib.hasPrefix (hd ++ r) hd = true := by simp [Lib.hasPrefix]
theorem trimPrefix_app (hd r : List UInt8) : Lib.trimPrefix (hd ++ r) hd = r := by
  unfold Lib.trimPrefix
  rw [if_pos (hasPrefix_app hd r)]
  simp
theorem hasPrefix_split {l hd : List UInt8} (h : Lib.hasPrefix l hd = true) : l = hd ++ Lib.trimPrefix l hd := by
  unfold Lib.trimPrefix
  rw [if_pos h]
  simp only [Lib.hasPrefix, List.isPrefixOf_iff_prefix] at h
  obtain ⟨t, rfl⟩ := h
  simp
theorem trimPrefix_no {l hd : List UInt8} (h : Lib.hasPrefix l hd = false) : Lib.trimPrefix l hd = l := by
  unfold Lib.trimPrefix
  rw [if_neg (by rw [h]; simp)]
theorem RowsI.one {A : Type} {hd : List UInt8} {P : List UInt8 → A → List UInt8 → Prop} {l cur r1 r2 : List UInt8} {done : List A} {a : A} (h : RowsI hd P l done cur) (e : cur = hd ++ r1) (ha : P r1 a r2) (hinj : ∀ {x : List UInt8} {a b : A} {r s : List UInt8}, P x a r → P x b s → a = b ∧ r = s) (hlen : r2.length < r1.length) : RowsI hd P l (done ++ [a]) r2 := by
  refine ⟨?_, fun ys r => ?_⟩
  · have := h.1
    rw [e] at this
    simp only [List.length_append, List.length_cons, List.length_nil] at this ⊢
    omega
  · rw [h.2 ys r]
    constructor
    · rintro ⟨ys', rfl, hr⟩
      cases ys' with
      | nil =>
        have := hr.1
        rw [e, hasPrefix_app] at this
        cases this
      | cons b bs =>
        obtain ⟨q1, q2, e1, hb, hr⟩ := hr
        rw [e] at e1
        obtain rfl := List.append_cancel_left e1
        obtain ⟨rfl, rfl⟩ := hinj ha hb
        exact ⟨bs, by simp, hr⟩
    · rintro ⟨ys', rfl, hr⟩
      exact ⟨a :: ys', by simp, r1, r2, e, ha, hr⟩
theorem RowsI.stop {A : Type} {hd : List UInt8} {P : List UInt8 → A → List UInt8 → Prop} {l cur : List UInt8} {done : List A} (h : RowsI hd P l done cur) (e : Lib.hasPrefix cur hd = false) (ys : List A) (r : List UInt8) : RowsP hd P l ys r ↔ ys = done ∧ r = cur := by
  rw [h.2 ys r]
  constructor
  · rintro ⟨ys', rfl, hr⟩
    cases ys' with
    | nil => exact ⟨by simp, hr.2⟩
    | cons b bs =>
      obtain ⟨q1, q2, e1, _⟩ := hr
      rw [e1, hasPrefix_app] at e
      cases e
  · rintro ⟨rfl, rfl⟩
    exact ⟨[], by simp, e, rfl⟩
theorem RowsI.none {A : Type} {hd : List UInt8} {P : List UInt8 → A → List UInt8 → Prop} {l cur r1 : List UInt8} {done : List A} (h : RowsI hd P l done cur) (e : cur = hd ++ r1) (hno : ∀ a r, ¬ P r1 a r) (ys : List A) (r : List UInt8) : ¬ RowsP hd P l ys r := by
  rw [h.2 ys r]
  rintro ⟨ys', rfl, hr⟩
  cases ys' with
  | nil =>
    have := hr.1
    rw [e, hasPrefix_app] at this
    cases this
  | cons b bs =>
    obtain ⟨q1, q2, e1, hb, _⟩ := hr
    rw [e] at e1
    obtain rfl := List.append_cancel_left e1
    exact hno b q2 hb
end Go.Proofs.YteaopalhbnhbaaaGreatDoor
