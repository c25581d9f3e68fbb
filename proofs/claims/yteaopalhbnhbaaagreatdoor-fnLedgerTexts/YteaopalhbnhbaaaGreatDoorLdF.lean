/- The program's reader of a ledger. -/
import Derived.Test.YteaopalhbnhbaaaGreatDoorH5
import Derived.Test.YteaopalhbnhbaaaGreatDoorLCp
import Derived.Test.YteaopalhbnhbaaaGreatDoorIOk2
namespace Go.Proofs.YteaopalhbnhbaaaGreatDoor
open Go.ChangeShapes Go.WideShapes Go.ChangeAt Go.RowKit Go.Lib
set_option linter.unusedVariables false
set_option maxRecDepth 100000
def ldW : List UInt8 := [108, 101, 100, 103, 101, 114, 10]
def acW : List UInt8 := [97, 99, 99, 111, 117, 110, 116]
def hoW : List UInt8 := [104, 111, 108, 100]
def seW : List UInt8 := [115, 101, 101, 110]
/-- how much a reader has still to read -/
def rdLen (B : Nat) (x : World) : Nat := match x.cell? ⟨B, 0, none⟩ with
  | some (.string s) => s.size
  | _ => 0
theorem rdLen_of {B : Nat} {l : List UInt8} {x : World} (h : Blk B [.string (bs l)] x) : rdLen B x = l.length := by
  unfold rdLen
  rw [h.c 0 _ rfl]
  exact bs_size l
/-- what ledgerFrom makes of a text: a ledger, and what is left -/
def LedP (l : List UInt8) (L : Led) (r : List UInt8) : Prop :=
  ∃ r0 r1 r2, l = ldW ++ r0 ∧ RowsP acW AccP r0 L.acc r1 ∧ RowsP hoW HldP r1 L.hold r2 ∧ RowsP seW SnP r2 L.seen r ∧ ledS L = true
theorem rows_all {A : Type} {hd : List UInt8} {P : List UInt8 → A → List UInt8 → Prop} {Q : A → Prop} (hP : ∀ x a r, x.length ≤ 1048576 → P x a r → Q a ∧ r.length < x.length) : ∀ (ys : List A) (l r : List UInt8), l.length ≤ 1048576 → RowsP hd P l ys r → ∀ a ∈ ys, Q a := by
  intro ys
  induction ys with
  | nil => intro l r _ _ a ha; cases ha
  | cons b bs ih =>
    intro l r hl h a ha
    obtain ⟨r1, r2, e, hb, hr⟩ := h
    have e' := congrArg List.length e
    rw [List.length_append] at e'
    obtain ⟨q1, q2⟩ := hP r1 b r2 (by omega) hb
    rcases List.mem_cons.1 ha with rfl | ha
    · exact q1
    · exact ih r2 r (by omega) hr a ha
theorem NuP.i64 {l : List UInt8} {n : Int} {r : List UInt8} (h : NuP l n r) : I64 n := by
  obtain ⟨r1, _, ⟨⟨h0, h1⟩, _⟩, _⟩ := h
  exact ⟨by omega, by omega⟩
theorem txt_max {x : List UInt8} (h : x.length ≤ 1048576) : (bs x).size ≤ maxLen := by rw [bs_size]; unfold maxLen; omega
theorem acc_w (x : List UInt8) (a : Acc) (r : List UInt8) (hl : x.length ≤ 1048576) (h : AccP x a r) : AccW a ∧ r.length < x.length := by
  have hlen := h.len
  obtain ⟨x0, x1, r1, r2, r3, r4, p0, p1, p2, p3, e0, e1, er⟩ := h
  have l0 := p0.len
  have l1 := p1.len
  exact ⟨⟨by rw [e0]; exact txt_max (by omega), by rw [e1]; exact txt_max (by omega), p2.i64, p3.i64⟩, hlen⟩
theorem hld_w (x : List UInt8) (a : Hld) (r : List UInt8) (hl : x.length ≤ 1048576) (h : HldP x a r) : HldW a ∧ r.length < x.length := by
  have hlen := h.len
  obtain ⟨x1, x2, r1, r2, r3, r4, p0, p1, p2, p3, e0, e1, er⟩ := h
  have l0 := p0.len
  have l1 := p1.len
  have l2 := p2.len
  exact ⟨⟨by rw [e0]; exact txt_max (by omega), by rw [e1]; exact txt_max (by omega), p0.i64, p3.i64⟩, hlen⟩
theorem sn_w (x : List UInt8) (a : Sn) (r : List UInt8) (hl : x.length ≤ 1048576) (h : SnP x a r) : SnW a ∧ r.length < x.length := by
  have hlen := h.len
  obtain ⟨r1, r2, p0, p1, er⟩ := h
  exact ⟨⟨p0.i64, p1.i64⟩, hlen⟩
theorem Pool.setN3 {F : List Nat} {w x : World} {S : List (List Rs)} (h : Pool F w S x) {i b : Nat} {z0 z1 z2 : Value} (hi : S[i]? = some [blk b [z0, z1, z2]]) (v0 v1 v2 : Value) :
    Pool F w (S.set i [blk b [v0, v1, v2]]) (((x.setCell ⟨b, 0, none⟩ v0).setCell ⟨b, 1, none⟩ v1).setCell ⟨b, 2, none⟩ v2) := by
  have hlen : i < S.length := (List.getElem?_eq_some_iff.1 hi).1
  have h0 := h.setBlk (i := i) hi 0 v0 (by simp)
  have h1 := h0.setBlk (i := i) (by rw [List.getElem?_set_self (by simpa using hlen)]) 1 v1 (by simp)
  have h2 := h1.setBlk (i := i) (by rw [List.getElem?_set_self (by simpa using hlen)]) 2 v2 (by simp)
  simpa [List.set_set] using h2
theorem ac1 (x : Acc) : ∀ u ∈ accCells x, u.oneCell' = true := fun u hu => acc_one [x] u (by simpa using hu)
theorem ho1 (x : Hld) : ∀ u ∈ hldCells x, u.oneCell' = true := fun u hu => hld_one [x] u (by simpa using hu)
theorem se1 (x : Sn) : ∀ u ∈ snCells x, u.oneCell' = true := fun u hu => sn_one' [x] u (by simpa using hu)
theorem wpOp_callP {P : Program} {ops : Array Oper} {Q : Exit → Act → World → Prop} {i : Nat} {o : Oper} {a : Act} {w : World} {K : Act → World → Prop} {f : FuncId} {args : Array Value} {R : Ending → World → Prop} (hi : ops[i]? = some o) (hg : o.guard = none) (hr : (execOp a.eval o).run P w = .ok (.enter f args) w) (hc : Calls P f args w R) (hK : ∀ e w', R e w' → (∃ v, e = .returned v ∧ K (a.put o.dst v) w') ∨ ∃ ch, e = .panicked ch ∧ Q (.panic ch) a w') : wpOp P ops Q i K a w := by
  unfold wpOp
  have hw : Region.wanted o (yielded ops a.tmps) = true := by simp [Region.wanted, hg]
  simp only [hi, hw, if_true]
  refine .inl ?_
  unfold Oper.wp
  rw [hr, Oper.upon_enter]
  refine hc.mono fun e w' he => ?_
  rcases hK e w' he with ⟨v, rfl, hv⟩ | ⟨ch, rfl, hv⟩
  · exact hv
  · exact hv
structure Lf2 (B : Nat) (w : World) (C G : Nat) (q1 : List UInt8) (a0 : Option Addr) (c0 : Nat) (d0 : List Acc) (a1 : Option Addr) (c1 : Nat) (d1 : List Hld) (a2 : Option Addr) (c2 : Nat) (d2 : List Sn) (l0 l1 l2 l3 l4 l5 l6 l7 : Bool) (u29 u30 u31 u32 u33 u34 u35 : Value) (y : Sn) (s : List UInt8) (x : World) : Prop where
  pool : Pool [B] w [[blk B [.string (bs s)]], [blk C [.slice none 0 0, .slice none 0 0, .slice none 0 0]], cond l7 [blk G [.slice a0 d0.length c0, .slice a1 d1.length c1, u34]] [blk G [.slice a0 d0.length c0, .slice a1 d1.length c1, .slice a2 d2.length c2]], [row 50 4 (.slice a0 d0.length c0) d0.length (d0.flatMap accCells)], [row 53 4 (.slice a1 d1.length c1) d1.length (d1.flatMap hldCells)], cond l5 [row 55 2 u34 (d2.length + 1) (d2.flatMap snCells ++ snCells y)] [row 55 2 (.slice a2 d2.length c2) d2.length (d2.flatMap snCells)], cond l4 [blk (gOf (slA u33)) (snCells y)] []] x
  ps : l3 = true → SnP q1 y s
  q3 : l3 = true → u32 = .agg #[.int .i64 y.id, .int .i64 y.code]
  q4 : l4 = true → u33 = .slice (some ⟨gOf (slA u33), 0, none⟩) 1 1
  d4 : l4 = true → l3 = true
  d5 : l5 = true → l4 = true
  d51 : l5 = true → l1 = true
  d7 : l7 = true → l5 = true
  p29 : l0 = true → u29 = .pointer (some ⟨G, 2, none⟩)
  p30 : l1 = true → u30 = .slice a2 d2.length c2
  p31 : l2 = true → u31 = .pointer (some ⟨B, 0, none⟩)
  s0 : l3 = false → s = q1
  p35 : l6 = true → u35 = .pointer (some ⟨G, 2, none⟩)
structure Lf1 (B : Nat) (w : World) (C G : Nat) (q1 : List UInt8) (a0 : Option Addr) (c0 : Nat) (d0 : List Acc) (a1 : Option Addr) (c1 : Nat) (d1 : List Hld) (l0 l1 l2 l3 l4 l5 l6 l7 : Bool) (u20 u21 u22 u23 u24 u25 u26 : Value) (y : Hld) (s : List UInt8) (x : World) : Prop where
  pool : Pool [B] w [[blk B [.string (bs s)]], [blk C [.slice none 0 0, .slice none 0 0, .slice none 0 0]], cond l7 [blk G [.slice a0 d0.length c0, u25, .slice none 0 0]] [blk G [.slice a0 d0.length c0, .slice a1 d1.length c1, .slice none 0 0]], [row 50 4 (.slice a0 d0.length c0) d0.length (d0.flatMap accCells)], cond l5 [row 53 4 u25 (d1.length + 1) (d1.flatMap hldCells ++ hldCells y)] [row 53 4 (.slice a1 d1.length c1) d1.length (d1.flatMap hldCells)], [row 55 2 (.slice none 0 0) ([] : List Sn).length (([] : List Sn).flatMap snCells)], cond l4 [blk (gOf (slA u24)) (hldCells y)] []] x
  ps : l3 = true → HldP q1 y s
  q3 : l3 = true → u23 = .agg #[.int .i64 y.id, .string y.fr, .string y.«to», .int .i64 y.amount]
  q4 : l4 = true → u24 = .slice (some ⟨gOf (slA u24), 0, none⟩) 1 1
  d4 : l4 = true → l3 = true
  d5 : l5 = true → l4 = true
  d51 : l5 = true → l1 = true
  d7 : l7 = true → l5 = true
  p20 : l0 = true → u20 = .pointer (some ⟨G, 1, none⟩)
  p21 : l1 = true → u21 = .slice a1 d1.length c1
  p22 : l2 = true → u22 = .pointer (some ⟨B, 0, none⟩)
  s0 : l3 = false → s = q1
  p26 : l6 = true → u26 = .pointer (some ⟨G, 1, none⟩)
structure Lf0 (B : Nat) (w : World) (C G : Nat) (q1 : List UInt8) (a0 : Option Addr) (c0 : Nat) (d0 : List Acc) (l0 l1 l2 l3 l4 l5 l6 l7 : Bool) (u11 u12 u13 u14 u15 u16 u17 : Value) (y : Acc) (s : List UInt8) (x : World) : Prop where
  pool : Pool [B] w [[blk B [.string (bs s)]], [blk C [.slice none 0 0, .slice none 0 0, .slice none 0 0]], cond l7 [blk G [u16, .slice none 0 0, .slice none 0 0]] [blk G [.slice a0 d0.length c0, .slice none 0 0, .slice none 0 0]], cond l5 [row 50 4 u16 (d0.length + 1) (d0.flatMap accCells ++ accCells y)] [row 50 4 (.slice a0 d0.length c0) d0.length (d0.flatMap accCells)], [row 53 4 (.slice none 0 0) ([] : List Hld).length (([] : List Hld).flatMap hldCells)], [row 55 2 (.slice none 0 0) ([] : List Sn).length (([] : List Sn).flatMap snCells)], cond l4 [blk (gOf (slA u15)) (accCells y)] []] x
  ps : l3 = true → AccP q1 y s
  q3 : l3 = true → u14 = .agg #[.string y.name, .string y.cur, .int .i64 y.limit, .int .i64 y.posted]
  q4 : l4 = true → u15 = .slice (some ⟨gOf (slA u15), 0, none⟩) 1 1
  d4 : l4 = true → l3 = true
  d5 : l5 = true → l4 = true
  d51 : l5 = true → l1 = true
  d7 : l7 = true → l5 = true
  p11 : l0 = true → u11 = .pointer (some ⟨G, 0, none⟩)
  p12 : l1 = true → u12 = .slice a0 d0.length c0
  p13 : l2 = true → u13 = .pointer (some ⟨B, 0, none⟩)
  s0 : l3 = false → s = q1
  p17 : l6 = true → u17 = .pointer (some ⟨G, 0, none⟩)
def LfEnd (B : Nat) (l : List UInt8) (t : TypeId) (v : Value) (w : World) (e : Ending) (w' : World) : Prop :=
  (∃ L p r, LedP l L r ∧ LedW L ∧ PlOk p L ∧ (L.acc.length ≤ 1048576 ∧ L.hold.length ≤ 1048576 ∧ L.seen.length ≤ 1048576) ∧ e = .returned (ledV p L) ∧ Pool [B] w [[blk B [.string (bs r)]], ledL p L] w') ∨ ((∀ L r, ¬ LedP l L r) ∧ GvTo B t v w e w')
set_option maxHeartbeats 8000000 in
theorem ledgerFrom_end (B : Nat) (l : List UInt8) (t td : TypeId) (v vd : Value) (w0 w : World) (E : Env t v w0) (ED : w0.cell? ⟨1, 0, none⟩ = some (.iface td vd)) (h : Rg w0 B l w) (hl : l.length ≤ 1048576) :
    Calls Tryz.prog 24 #[.pointer (some ⟨B, 0, none⟩)] w fun e w' => LfEnd B l t v w e w' := by
  obtain ⟨i0, hi0, hz0, hy0, hx0⟩ := info_parts infoAcc
  obtain ⟨i1, hi1, hz1, hy1, hx1⟩ := info_parts infoHld
  obtain ⟨i2, hi2, hz2, hy2, hx2⟩ := info_parts infoSn
  have HE : Hid _ := hide E
  have HD : Hid _ := hide ED
  have HG : Hid _ := hide h
  have HP0 : Hid (Pool [B] w [[blk B [.string (bs l)]], [], [], [], [], [], []] w) := hide ((Pool.of (Star.ofBlk h.r)).cast (by simp))
  clear E ED h
  go_enter Tryz.func24, Tryz.ntmps24
  go_upto_region 2 with fail
  refine cnm_world (fun W1 hW1 => ?_)
  obtain ⟨C, hC⟩ : ∃ C, C = w.heap.size := ⟨_, rfl⟩
  obtain ⟨G, hG⟩ : ∃ G, G = w.heap.size + 1 := ⟨_, rfl⟩
  have HP1 : Hid (Pool [B] w [[blk B [.string (bs l)]], [blk C [.slice none 0 0, .slice none 0 0, .slice none 0 0]], [blk G [.slice none 0 0, .slice none 0 0, .slice none 0 0]], [row 50 4 (.slice none 0 0) ([] : List Acc).length (([] : List Acc).flatMap accCells)], [row 53 4 (.slice none 0 0) ([] : List Hld).length (([] : List Hld).flatMap hldCells)], [row 55 2 (.slice none 0 0) ([] : List Sn).length (([] : List Sn).flatMap snCells)], []] W1) := hide (by
    have p1 := HP0.out.newBlk (i := 1) rfl [.slice none 0 0, .slice none 0 0, .slice none 0 0] 28
    have s1 : (w.alloc (.cells ([.slice none 0 0, .slice none 0 0, .slice none 0 0] : List Value).toArray 28)).heap.size = w.heap.size + 1 := by simp
    have p2 := p1.newBlk (i := 2) rfl [.slice none 0 0, .slice none 0 0, .slice none 0 0] 28
    rw [s1] at p2
    rw [← hG, ← hC] at p2
    rw [hW1]
    exact ((p2.newNil (i := 3) rfl 50 4).newNil (i := 4) rfl 53 4).newNil (i := 5) rfl 55 2)
  rw [← hG, ← hC]
  clear hW1 HP0 hC hG
  go_wp2_with fail
  refine (begins_any B l ldW _ (HP1.out.blkAt (i := 0) rfl)).mono ?_
  rintro e w2 ⟨rfl, hr⟩
  cases hp : Lib.hasPrefix l ldW
  · have HNo : Hid _ := hide hp
    have HR5 : Hid _ := hide (HP1.out.rdt.trans hr)
    have HEy : Hid (Env t v w2) := hide ((HG.out.tor (HP1.out.rdt.trans hr)).env HE.out)
    clear hr hp HP1
    go_wp2_with fail
    refine (want_no _ t v _ HEy.out).mono ?_
    rintro e y10 ⟨rfl, hw⟩
    rw [hw]
    clear hw
    unfold gaveUp
    go_wp2_with fail
    refine ⟨rfl, .inr ⟨fun c r hc => ?_, rfl, _, HR5.out⟩⟩
    obtain ⟨r0, r1, r2, e0, _⟩ := hc
    have := HNo.out
    rw [e0, hasPrefix_app] at this
    cases this
  · obtain ⟨r0, hr0⟩ : ∃ r0, r0 = Lib.trimPrefix l ldW := ⟨_, rfl⟩
    have HL0 : Hid (l = ldW ++ r0) := hide (by rw [hr0]; exact hasPrefix_split hp)
    have hl0 : r0.length ≤ l.length := by have := congrArg List.length HL0.out; simp only [List.length_append] at this; omega
    rw [← hr0] at hr
    have HP2 : Hid (Pool [B] w [[blk B [.string (bs r0)]], [blk C [.slice none 0 0, .slice none 0 0, .slice none 0 0]], [blk G [.slice none 0 0, .slice none 0 0, .slice none 0 0]], [row 50 4 (.slice none 0 0) ([] : List Acc).length (([] : List Acc).flatMap accCells)], [row 53 4 (.slice none 0 0) ([] : List Hld).length (([] : List Hld).flatMap hldCells)], [row 55 2 (.slice none 0 0) ([] : List Sn).length (([] : List Sn).flatMap snCells)], []] w2) := hide (HP1.out.rd hr)
    clear hr HP1 hp hr0
    go_wp2_with fail
    refine (want_yes _ _).mono ?_
    rintro e y10 ⟨rfl, hw⟩
    rw [hw]
    clear hw y10
    go_wp2_with fail
    go_loopw [] (fun wr => ∃ (d0 : List Acc) (qa : List UInt8) (a0 : Option Addr) (c0 : Nat), d0.length + qa.length ≤ 1048576 ∧ Hid (RowsI acW AccP r0 d0 qa) ∧ Hid (Pool [B] w [[blk B [.string (bs qa)]], [blk C [.slice none 0 0, .slice none 0 0, .slice none 0 0]], [blk G [.slice a0 d0.length c0, .slice none 0 0, .slice none 0 0]], [row 50 4 (.slice a0 d0.length c0) d0.length (d0.flatMap accCells)], [row 53 4 (.slice none 0 0) ([] : List Hld).length (([] : List Hld).flatMap hldCells)], [row 55 2 (.slice none 0 0) ([] : List Sn).length (([] : List Sn).flatMap snCells)], []] wr)) (fun wr => rdLen B wr)
    case atStart => exact ⟨[], r0, none, 0, by simp; omega, hide (RowsI.start _), HP2⟩
    case round =>
      obtain ⟨d0, qa, a0, c0, hq0, HI, HPr⟩ := hrel
      clear HP2
      have hrd : rdLen B wr = qa.length := rdLen_of (HPr.out.blkAt (i := 0) rfl)
      go_wp2_with fail
      refine (begins_any B qa acW _ (HPr.out.blkAt (i := 0) rfl)).mono ?_
      rintro e w3 ⟨rfl, hr⟩
      cases hp : Lib.hasPrefix qa acW
      · have HS0 : Hid (∀ ys r, RowsP acW AccP r0 ys r ↔ ys = d0 ∧ r = qa) := hide (fun ys r => HI.out.stop hp ys r)
        rw [trimPrefix_no hp] at hr
        have HP3 : Hid (Pool [B] w [[blk B [.string (bs qa)]], [blk C [.slice none 0 0, .slice none 0 0, .slice none 0 0]], [blk G [.slice a0 d0.length c0, .slice none 0 0, .slice none 0 0]], [row 50 4 (.slice a0 d0.length c0) d0.length (d0.flatMap accCells)], [row 53 4 (.slice none 0 0) ([] : List Hld).length (([] : List Hld).flatMap hldCells)], [row 55 2 (.slice none 0 0) ([] : List Sn).length (([] : List Sn).flatMap snCells)], []] w3) := hide (HPr.out.rd hr)
        clear hr HPr hp HI hrd
        go_wp2_with fail
        go_loopw [] (fun wr => ∃ (d1 : List Hld) (qb : List UInt8) (a1 : Option Addr) (c1 : Nat), d1.length + qb.length ≤ 1048576 ∧ Hid (RowsI hoW HldP qa d1 qb) ∧ Hid (Pool [B] w [[blk B [.string (bs qb)]], [blk C [.slice none 0 0, .slice none 0 0, .slice none 0 0]], [blk G [.slice a0 d0.length c0, .slice a1 d1.length c1, .slice none 0 0]], [row 50 4 (.slice a0 d0.length c0) d0.length (d0.flatMap accCells)], [row 53 4 (.slice a1 d1.length c1) d1.length (d1.flatMap hldCells)], [row 55 2 (.slice none 0 0) ([] : List Sn).length (([] : List Sn).flatMap snCells)], []] wr)) (fun wr => rdLen B wr)
        case atStart => exact ⟨[], qa, none, 0, by simp; omega, hide (RowsI.start _), HP3⟩
        case round =>
          obtain ⟨d1, qb, a1, c1, hq1, HI, HPr⟩ := hrel
          clear HP3
          have hrd : rdLen B wr = qb.length := rdLen_of (HPr.out.blkAt (i := 0) rfl)
          go_wp2_with fail
          refine (begins_any B qb hoW _ (HPr.out.blkAt (i := 0) rfl)).mono ?_
          rintro e w3 ⟨rfl, hr⟩
          cases hp : Lib.hasPrefix qb hoW
          · have HS1 : Hid (∀ ys r, RowsP hoW HldP qa ys r ↔ ys = d1 ∧ r = qb) := hide (fun ys r => HI.out.stop hp ys r)
            rw [trimPrefix_no hp] at hr
            have HP4 : Hid (Pool [B] w [[blk B [.string (bs qb)]], [blk C [.slice none 0 0, .slice none 0 0, .slice none 0 0]], [blk G [.slice a0 d0.length c0, .slice a1 d1.length c1, .slice none 0 0]], [row 50 4 (.slice a0 d0.length c0) d0.length (d0.flatMap accCells)], [row 53 4 (.slice a1 d1.length c1) d1.length (d1.flatMap hldCells)], [row 55 2 (.slice none 0 0) ([] : List Sn).length (([] : List Sn).flatMap snCells)], []] w3) := hide (HPr.out.rd hr)
            clear hr HPr hp HI hrd
            go_wp2_with fail
            go_loopw [] (fun wr => ∃ (d2 : List Sn) (qc : List UInt8) (a2 : Option Addr) (c2 : Nat), d2.length + qc.length ≤ 1048576 ∧ Hid (RowsI seW SnP qb d2 qc) ∧ Hid (Pool [B] w [[blk B [.string (bs qc)]], [blk C [.slice none 0 0, .slice none 0 0, .slice none 0 0]], [blk G [.slice a0 d0.length c0, .slice a1 d1.length c1, .slice a2 d2.length c2]], [row 50 4 (.slice a0 d0.length c0) d0.length (d0.flatMap accCells)], [row 53 4 (.slice a1 d1.length c1) d1.length (d1.flatMap hldCells)], [row 55 2 (.slice a2 d2.length c2) d2.length (d2.flatMap snCells)], []] wr)) (fun wr => rdLen B wr)
            case atStart => exact ⟨[], qb, none, 0, by simp; omega, hide (RowsI.start _), HP4⟩
            case round =>
              obtain ⟨d2, qc, a2, c2, hq2, HI, HPr⟩ := hrel
              clear HP4
              have hrd : rdLen B wr = qc.length := rdLen_of (HPr.out.blkAt (i := 0) rfl)
              go_wp2_with fail
              refine (begins_any B qc seW _ (HPr.out.blkAt (i := 0) rfl)).mono ?_
              rintro e w3 ⟨rfl, hr⟩
              cases hp : Lib.hasPrefix qc seW
              · have HS2 : Hid (∀ ys r, RowsP seW SnP qb ys r ↔ ys = d2 ∧ r = qc) := hide (fun ys r => HI.out.stop hp ys r)
                rw [trimPrefix_no hp] at hr
                have HP5 : Hid (Pool [B] w [[blk B [.string (bs qc)]], [blk C [.slice none 0 0, .slice none 0 0, .slice none 0 0]], [blk G [.slice a0 d0.length c0, .slice a1 d1.length c1, .slice a2 d2.length c2]], [row 50 4 (.slice a0 d0.length c0) d0.length (d0.flatMap accCells)], [row 53 4 (.slice a1 d1.length c1) d1.length (d1.flatMap hldCells)], [row 55 2 (.slice a2 d2.length c2) d2.length (d2.flatMap snCells)], []] w3) := hide (HPr.out.rd hr)
                clear hr HPr hp HI hrd
                have HLW : Hid (LedW ⟨d0, d1, d2⟩) := hide ⟨rows_all acc_w d0 r0 qa (by omega) ((HS0.out d0 qa).2 ⟨rfl, rfl⟩), rows_all hld_w d1 qa qb (by omega) ((HS1.out d1 qb).2 ⟨rfl, rfl⟩), rows_all sn_w d2 qb qc (by omega) ((HS2.out d2 qc).2 ⟨rfl, rfl⟩)⟩
                obtain ⟨b0, k0, e0, s0, p0⟩ := Pool.toOrow accLen HP5.out (i := 3) rfl
                obtain ⟨b1, k1, e1, s1, p1⟩ := Pool.toOrow hldLen p0 (i := 4) rfl
                obtain ⟨b2, k2, e2, s2, p2⟩ := Pool.toOrow snLen p1 (i := 5) rfl
                simp only [Value.slice.injEq, true_and] at e0 e1 e2
                obtain ⟨rfl, rfl⟩ := e0
                obtain ⟨rfl, rfl⟩ := e1
                obtain ⟨rfl, rfl⟩ := e2
                have HPK : Hid (PlOk ⟨a0, c0, a1, c1, a2, c2⟩ ⟨d0, d1, d2⟩) := hide ⟨s0, s1, s2⟩
                have HP6 : Hid (Pool [B] w [[blk B [.string (bs qc)]], [blk C [.slice none 0 0, .slice none 0 0, .slice none 0 0]], [blk G [.slice a0 d0.length c0, .slice a1 d1.length c1, .slice a2 d2.length c2]], ledL ⟨a0, c0, a1, c1, a2, c2⟩ ⟨d0, d1, d2⟩] w3) := hide (p2.cast (by simp [ledL]))
                clear HP5 s0 s1 s2 p0 p1 p2
                have HLd : Hid (LedAt w3 a0 a1 a2 ⟨d0, d1, d2⟩) := hide (by
                  have st := HP6.out.get (i := 3) rfl
                  exact ⟨(st.get (r := orow 4 accCells a0 c0 d0) (by simp [ledL])).2.rows.acc HLW.out.acc, (st.get (r := orow 4 hldCells a1 c1 d1) (by simp [ledL])).2.rows.hold HLW.out.hold, (st.get (r := orow 2 snCells a2 c2 d2) (by simp [ledL])).2.rows.ans HLW.out.seen⟩)
                have g0 := (HP6.out.blkAt (i := 2) rfl).c 0 _ rfl
                have g1 := (HP6.out.blkAt (i := 2) rfl).c 1 _ rfl
                have g2 := (HP6.out.blkAt (i := 2) rfl).c 2 _ rfl
                go_wp2_with fail
                refine (implLedgerOk_any a0 a1 a2 ⟨d0, d1, d2⟩ c0 c1 c2 td vd _ HLd.out (below_keeps (HG.out.tor HP6.out.rdt).b _ _ HD.out) (by show d0.length ≤ _; omega) (by show d1.length ≤ _; omega) (by show d2.length ≤ _; omega)).mono ?_
                rintro e w4 ⟨rfl, hb⟩
                have HP7 : Hid (Pool [B] w [[blk B [.string (bs qc)]], [blk C [.slice none 0 0, .slice none 0 0, .slice none 0 0]], [blk G [.slice a0 d0.length c0, .slice a1 d1.length c1, .slice a2 d2.length c2]], ledL ⟨a0, c0, a1, c1, a2, c2⟩ ⟨d0, d1, d2⟩] w4) := hide (HP6.out.keep hb)
                clear hb HP6 HLd g0 g1 g2
                cases hok : ledS ⟨d0, d1, d2⟩
                · have HOk : Hid _ := hide hok
                  clear hok
                  go_wp2_with fail
                  refine (want_no _ t v _ ((HG.out.tor HP7.out.rdt).env HE.out)).mono ?_
                  rintro e y10 ⟨rfl, hw⟩
                  rw [hw]
                  clear hw
                  have HR5 : Hid _ := hide HP7.out.rdt
                  unfold gaveUp
                  go_wp2_with fail
                  refine ⟨rfl, .inr ⟨fun c r hc => ?_, rfl, _, HR5.out⟩⟩
                  obtain ⟨q0, q2, q3, f0, hA, hB, hC, hS⟩ := hc
                  have f1 := HL0.out
                  rw [f1] at f0
                  obtain rfl := List.append_cancel_left f0
                  obtain ⟨h0, rfl⟩ := (HS0.out _ _).1 hA
                  obtain ⟨h1, rfl⟩ := (HS1.out _ _).1 hB
                  obtain ⟨h2, rfl⟩ := (HS2.out _ _).1 hC
                  have e9 : c = ⟨d0, d1, d2⟩ := by cases c; simp only at h0 h1 h2; subst h0 h1 h2; rfl
                  rw [e9, HOk.out] at hS
                  cases hS
                · have HOk : Hid _ := hide hok
                  clear hok
                  go_wp2_with fail
                  refine (want_yes _ _).mono ?_
                  rintro e y10 ⟨rfl, hw⟩
                  rw [hw]
                  clear hw
                  have g0 := (HP7.out.blkAt (i := 2) rfl).c 0 _ rfl
                  have g1 := (HP7.out.blkAt (i := 2) rfl).c 1 _ rfl
                  have g2 := (HP7.out.blkAt (i := 2) rfl).c 2 _ rfl
                  have z0 := (HP7.out.blkAt (i := 1) rfl).c 0 _ rfl
                  have z1 := (HP7.out.blkAt (i := 1) rfl).c 1 _ rfl
                  have z2 := (HP7.out.blkAt (i := 1) rfl).c 2 _ rfl
                  have f0 := (HP7.out.blkAt (i := 1) rfl).f 0
                  have f1 := (HP7.out.blkAt (i := 1) rfl).f 1
                  have f2 := (HP7.out.blkAt (i := 1) rfl).f 2
                  have HQ := HP7.out.setN3 (i := 1) rfl (.slice a0 d0.length c0) (.slice a1 d1.length c1) (.slice a2 d2.length c2)
                  have e0 := (HQ.blkAt (i := 1) rfl).c 0 _ rfl
                  have e1 := (HQ.blkAt (i := 1) rfl).c 1 _ rfl
                  have e2 := (HQ.blkAt (i := 1) rfl).c 2 _ rfl
                  have HQ2 : Hid (Pool [B] w [[blk B [.string (bs qc)]], ledL ⟨a0, c0, a1, c1, a2, c2⟩ ⟨d0, d1, d2⟩] _) := hide (((HQ.drop (i := 1) rfl).drop (i := 2) rfl).cast (by simp))
                  clear HQ
                  go_wp2_with fail
                  refine bodyPost_ret (v := ledV ⟨a0, c0, a1, c1, a2, c2⟩ ⟨d0, d1, d2⟩) (by simp [results, Tryz.results24, go_sem, e0, e1, e2, ledV]) rfl (.inl ⟨⟨d0, d1, d2⟩, ⟨a0, c0, a1, c1, a2, c2⟩, qc, ?_, HLW.out, HPK.out, ⟨by show d0.length ≤ _; omega, by show d1.length ≤ _; omega, by show d2.length ≤ _; omega⟩, rfl, HQ2.out⟩)
                  exact ⟨r0, qa, qb, HL0.out, (HS0.out _ _).2 ⟨rfl, rfl⟩, (HS1.out _ _).2 ⟨rfl, rfl⟩, (HS2.out _ _).2 ⟨rfl, rfl⟩, HOk.out⟩
              · obtain ⟨q1, hq1⟩ : ∃ q1, q1 = Lib.trimPrefix qc seW := ⟨_, rfl⟩
                have HQ1 : Hid (qc = seW ++ q1) := hide (by rw [hq1]; exact hasPrefix_split hp)
                have hl1 : q1.length < qc.length := by have := congrArg List.length HQ1.out; simp only [List.length_append, seW, List.length_cons, List.length_nil] at this; omega
                rw [← hq1] at hr
                have HP5 : Hid (Pool [B] w [[blk B [.string (bs q1)]], [blk C [.slice none 0 0, .slice none 0 0, .slice none 0 0]], [blk G [.slice a0 d0.length c0, .slice a1 d1.length c1, .slice a2 d2.length c2]], [row 50 4 (.slice a0 d0.length c0) d0.length (d0.flatMap accCells)], [row 53 4 (.slice a1 d1.length c1) d1.length (d1.flatMap hldCells)], [row 55 2 (.slice a2 d2.length c2) d2.length (d2.flatMap snCells)], []] w3) := hide (HPr.out.rd hr)
                clear hr HPr hp hq1
                go_upto_region 8 with fail
                refine wp_region_inv (by kernel_rfl) (fun L act x => ∃ l0 l1 l2 l3 l4 l5 l6 l7 : Bool, ∃ u29 u30 u31 u32 u33 u34 u35 : Value, ∃ y : Sn, ∃ s : List UInt8, L = #[l0, l1, l2, l3, l4, l5, l6, l7] ∧ act = { tmps := #[Value.pointer (some { block := B, off := 0 }), undef, Value.pointer (some { block := C, off := 0 }), Value.pointer (some { block := G, off := 0 }), Value.agg #[Value.slice none 0 0, Value.slice none 0 0, Value.slice none 0 0], Value.pointer (some { block := B, off := 0 }), Value.pointer (some { block := B, off := 0 }), Value.bool true, Value.tuple #[], Value.pointer (some { block := B, off := 0 }), Value.bool false, u11, u12, u13, u14, u15, u16, u17, Value.pointer (some { block := B, off := 0 }), Value.bool false, u20, u21, u22, u23, u24, u25, u26, Value.pointer (some { block := B, off := 0 }), Value.bool true, u29, u30, u31, u32, u33, u34, u35, undef, undef, undef, undef, undef], defers := [] } ∧ Lf2 B w C G q1 a0 c0 d0 a1 c1 d1 a2 c2 d2 l0 l1 l2 l3 l4 l5 l6 l7 u29 u30 u31 u32 u33 u34 u35 y s x) ?_ ?_ ?_
                rotate_left 2
                · exact ⟨false, false, false, false, false, false, false, false, (u29), (u30), (u31), (u32), (u33), (u34), (u35), (⟨0, 0⟩), (q1), rfl, rfl, { pool := HP5.out.drew, s0 := fun _ => rfl, ps := fun z => (by cases z), q3 := fun z => (by cases z), q4 := fun z => (by cases z), d4 := fun z => (by cases z), d5 := fun z => (by cases z), d51 := fun z => (by cases z), d7 := fun z => (by cases z), p29 := fun z => (by cases z), p30 := fun z => (by cases z), p31 := fun z => (by cases z), p35 := fun z => (by cases z) }⟩
                · rintro L act x i ⟨l0, l1, l2, l3, l4, l5, l6, l7, u29, u30, u31, u32, u33, u34, u35, y, s, rfl, rfl, h⟩ hi K hK
                  have hi15 : i < 8 := by
                    obtain ⟨_, o, ho, _⟩ := mem_ready.1 hi
                    exact (Array.getElem?_eq_some_iff.1 ho).1
                  have hl := (mem_ready.1 hi).1
                  obtain rfl | rfl | rfl | rfl | rfl | rfl | rfl | rfl := (by omega : i = 0 ∨ i = 1 ∨ i = 2 ∨ i = 3 ∨ i = 4 ∨ i = 5 ∨ i = 6 ∨ i = 7)
                  · have e : l0 = false := hl
                    subst e
                    refine wpOp_run (v := .pointer (some ⟨G, 2, none⟩)) (w' := x) (by rfl) (by rfl) ?_ (hK _ _ ⟨true, l1, l2, l3, l4, l5, l6, l7, (.pointer (some ⟨G, 2, none⟩)), u30, u31, u32, u33, u34, u35, (y), (s), rfl, rfl, { h with p29 := fun _ => rfl }⟩)
                    go_simp
                  · have e : l1 = false := hl
                    subst e
                    have d0 : l0 = true := ready_on hi 0 (by kernel_rfl)
                    subst d0
                    have z5 : l5 = false := by
                      cases hz : l5
                      · rfl
                      · exact absurd (h.d51 hz) (by simp)
                    subst z5
                    have z7 : l7 = false := by
                      cases hz : l7
                      · rfl
                      · exact absurd (h.d7 hz) (by simp)
                    subst z7
                    have cc := (h.pool.blkAt (i := 2) rfl).c 2 _ rfl
                    refine wpOp_run (v := .slice a2 d2.length c2) (w' := x) (by rfl) (by rfl) ?_ (hK _ _ ⟨true, true, l2, l3, l4, false, l6, false, u29, (.slice a2 d2.length c2), u31, u32, u33, u34, u35, (y), (s), rfl, rfl, { h with p30 := fun _ => rfl, d51 := fun _ => rfl }⟩)
                    rw [h.p29 rfl]
                    go_simp
                  · have e : l2 = false := hl
                    subst e
                    refine wpOp_run (v := .pointer (some ⟨B, 0, none⟩)) (w' := x) (by rfl) (by rfl) ?_ (hK _ _ ⟨l0, l1, true, l3, l4, l5, l6, l7, u29, u30, (.pointer (some ⟨B, 0, none⟩)), u32, u33, u34, u35, (y), (s), rfl, rfl, { h with p31 := fun _ => rfl }⟩)
                    go_simp
                  · have e : l3 = false := hl
                    subst e
                    have d2 : l2 = true := ready_on hi 2 (by kernel_rfl)
                    subst d2
                    have z4 : l4 = false := by
                      cases hz : l4
                      · rfl
                      · exact absurd (h.d4 hz) (by simp)
                    subst z4
                    have z5 : l5 = false := by
                      cases hz : l5
                      · rfl
                      · exact absurd (h.d5 hz) (by simp)
                    subst z5
                    have z7 : l7 = false := by
                      cases hz : l7
                      · rfl
                      · exact absurd (h.d7 hz) (by simp)
                    subst z7
                    have es := (h.s0 rfl).symm
                    subst es
                    refine wpOp_callP (by rfl) (by rfl) ?_ (seenFrom_end B q1 t v w0 _ HE.out (HG.out.tor h.pool.rdt) (by omega)) ?_
                    · rw [h.p31 rfl]; go_simp
                    · rintro e w' (⟨yy, rr, hy, rfl, hr⟩ | ⟨hno, rfl, l9, hr⟩)
                      · exact .inl ⟨_, rfl, hK _ _ ⟨l0, l1, true, true, false, false, l6, false, u29, u30, u31, (.agg #[.int .i64 yy.id, .int .i64 yy.code]), u33, u34, u35, (yy), (rr), rfl, rfl, { h with pool := h.pool.rd hr, ps := fun _ => hy, q3 := fun _ => rfl, d4 := fun _ => rfl, d5 := fun z => (by cases z), d51 := fun z => (by cases z), d7 := fun z => (by cases z), q4 := fun z => (by cases z), s0 := fun z => (by cases z) }⟩⟩
                      · refine .inr ⟨_, rfl, ?_⟩
                        have HNo : Hid _ := hide hno
                        have HR5 : Hid (RdTo B l9 w w') := hide (h.pool.rdt.trans hr)
                        clear h hK hi hl hr hno
                        go_wp2_with fail
                        refine ⟨rfl, .inr ⟨fun c r hc => ?_, rfl, _, HR5.out⟩⟩
                        obtain ⟨q0, q2, q3, e0, hA, hB, hC, _⟩ := hc
                        have e1 := HL0.out
                        rw [e1] at e0
                        obtain rfl := List.append_cancel_left e0
                        obtain ⟨_, rfl⟩ := (HS0.out _ _).1 hA
                        obtain ⟨_, rfl⟩ := (HS1.out _ _).1 hB
                        exact HI.out.none HQ1.out HNo.out _ _ hC
                  · have e : l4 = false := hl
                    subst e
                    have d3 : l3 = true := ready_on hi 3 (by kernel_rfl)
                    subst d3
                    have z5 : l5 = false := by
                      cases hz : l5
                      · rfl
                      · exact absurd (h.d5 hz) (by simp)
                    subst z5
                    have z7 : l7 = false := by
                      cases hz : l7
                      · rfl
                      · exact absurd (h.d7 hz) (by simp)
                    subst z7
                    refine wpOp_run (v := .slice (some ⟨x.heap.size, 0, none⟩) 1 1) (w' := x.alloc (.cells #[.int .i64 y.id, .int .i64 y.code] 55)) (by rfl) (by rfl) ?_ (hK _ _ ⟨l0, l1, l2, true, true, false, l6, false, u29, u30, u31, u32, (.slice (some ⟨x.heap.size, 0, none⟩) 1 1), u34, u35, (y), (s), rfl, rfl, { h with q4 := (fun _ => rfl), pool := (h.pool.newBlk (i := 6) rfl (snCells y) 55), d4 := fun _ => rfl, d5 := fun z => (by cases z), d51 := fun z => (by cases z), d7 := fun z => (by cases z) }⟩)
                    rw [h.q3 rfl]
                    go_simp
                  · have e : l5 = false := hl
                    subst e
                    have d1 : l1 = true := ready_on hi 1 (by kernel_rfl)
                    subst d1
                    have d3 : l3 = true := ready_on hi 3 (by kernel_rfl)
                    subst d3
                    have d4 : l4 = true := ready_on hi 4 (by kernel_rfl)
                    subst d4
                    have z7 : l7 = false := by
                      cases hz : l7
                      · rfl
                      · exact absurd (h.d7 hz) (by simp)
                    subst z7
                    obtain ⟨v', z, hr, hp⟩ := h.pool.append (P := Tryz.prog) (i0 := 5) rfl 26 26 i2 _ 16 Tryz.underlying26 hi2 hz2 hy2 hx2 rfl (by decide) (some ⟨gOf (slA u33), 0, none⟩) 1 1 (snCells y) rfl (fun e => by cases e) (blk_news (h.pool.blkAt (i := 6) rfl)) (se1 y) (by unfold maxLen; omega) (by omega)
                    refine wpOp_run (v := v') (w' := z) (by rfl) (by rfl) ?_ (hK _ _ ⟨l0, true, l2, true, true, true, l6, false, u29, u30, u31, u32, u33, (v'), u35, (y), (s), rfl, rfl, { h with pool := (hp), d5 := fun _ => rfl, d51 := fun _ => rfl, d7 := fun z => (by cases z) }⟩)
                    exact exec_append rfl (h.p30 rfl) (h.q4 rfl) hr
                  · have e : l6 = false := hl
                    subst e
                    have d0 : l0 = true := ready_on hi 0 (by kernel_rfl)
                    subst d0
                    have d1 : l1 = true := ready_on hi 1 (by kernel_rfl)
                    subst d1
                    have d2 : l2 = true := ready_on hi 2 (by kernel_rfl)
                    subst d2
                    have d3 : l3 = true := ready_on hi 3 (by kernel_rfl)
                    subst d3
                    have d4 : l4 = true := ready_on hi 4 (by kernel_rfl)
                    subst d4
                    have d5 : l5 = true := ready_on hi 5 (by kernel_rfl)
                    subst d5
                    refine wpOp_run (v := .pointer (some ⟨G, 2, none⟩)) (w' := x) (by rfl) (by rfl) ?_ (hK _ _ ⟨true, true, true, true, true, true, true, l7, u29, u30, u31, u32, u33, u34, (.pointer (some ⟨G, 2, none⟩)), (y), (s), rfl, rfl, { h with p35 := fun _ => rfl }⟩)
                    go_simp
                  · have e : l7 = false := hl
                    subst e
                    have d0 : l0 = true := ready_on hi 0 (by kernel_rfl)
                    subst d0
                    have d1 : l1 = true := ready_on hi 1 (by kernel_rfl)
                    subst d1
                    have d2 : l2 = true := ready_on hi 2 (by kernel_rfl)
                    subst d2
                    have d3 : l3 = true := ready_on hi 3 (by kernel_rfl)
                    subst d3
                    have d4 : l4 = true := ready_on hi 4 (by kernel_rfl)
                    subst d4
                    have d5 : l5 = true := ready_on hi 5 (by kernel_rfl)
                    subst d5
                    have d6 : l6 = true := ready_on hi 6 (by kernel_rfl)
                    subst d6
                    obtain ⟨a6, k6, e6⟩ := row_shape (h.pool.rowAt (i := 5) rfl)
                    have A6 := h.pool.blkAt (i := 2) rfl
                    have t1 := A6.c 2 _ rfl
                    have f1 := A6.f 2
                    refine wpOp_skip (w' := x.setCell ⟨G, 2, none⟩ u34) (by rfl) (by rfl) ?_ (hK _ _ ⟨true, true, true, true, true, true, true, true, u29, u30, u31, u32, u33, u34, u35, (y), (s), rfl, rfl, { h with pool := (h.pool.setBlk (i := 2) rfl 2 u34 (by simp)), d7 := fun _ => rfl }⟩)
                    rw [h.p35 rfl, e6]
                    go_simp
                · rintro L act x ⟨l0, l1, l2, l3, l4, l5, l6, l7, u29, u30, u31, u32, u33, u34, u35, y, s, rfl, rfl, h⟩ hr
                  have hall := ready_all hr rfl (by decide)
                  have t0 : l0 = true := hall 0 (by decide)
                  have t1 : l1 = true := hall 1 (by decide)
                  have t2 : l2 = true := hall 2 (by decide)
                  have t3 : l3 = true := hall 3 (by decide)
                  have t4 : l4 = true := hall 4 (by decide)
                  have t5 : l5 = true := hall 5 (by decide)
                  have t6 : l6 = true := hall 6 (by decide)
                  have t7 : l7 = true := hall 7 (by decide)
                  subst t0 t1 t2 t3 t4 t5 t6 t7
                  clear hall hr
                  obtain ⟨a6, k6, e6⟩ := row_shape (h.pool.rowAt (i := 5) rfl)
                  have hy := h.ps rfl
                  have HPn : Hid (Pool [B] w [[blk B [.string (bs s)]], [blk C [.slice none 0 0, .slice none 0 0, .slice none 0 0]], [blk G [.slice a0 d0.length c0, .slice a1 d1.length c1, .slice a6 (d2 ++ [y]).length k6]], [row 50 4 (.slice a0 d0.length c0) d0.length (d0.flatMap accCells)], [row 53 4 (.slice a1 d1.length c1) d1.length (d1.flatMap hldCells)], [row 55 2 (.slice a6 (d2 ++ [y]).length k6) (d2 ++ [y]).length ((d2 ++ [y]).flatMap snCells)], []] x) := hide (by
                    have z := h.pool.drop (i := 6) rfl
                    rw [e6] at z
                    have e2 : d2.flatMap snCells ++ snCells y = (d2 ++ [y]).flatMap snCells := by simp
                    have e3 : d2.length + 1 = (d2 ++ [y]).length := by simp
                    rw [e2, e3] at z
                    exact z)
                  have HIn : Hid (RowsI seW SnP qb (d2 ++ [y]) s) := hide (HI.out.one HQ1.out hy SnP.inj hy.len)
                  have hln := hy.len
                  have hrx := rdLen_of (HPn.out.blkAt (i := 0) rfl)
                  clear h hy e6
                  go_wp2
                  exact ⟨⟨d2 ++ [y], s, a6, k6, by simp; omega, HIn, HPn⟩, by omega⟩
          · obtain ⟨q1, hq1⟩ : ∃ q1, q1 = Lib.trimPrefix qb hoW := ⟨_, rfl⟩
            have HQ1 : Hid (qb = hoW ++ q1) := hide (by rw [hq1]; exact hasPrefix_split hp)
            have hl1 : q1.length < qb.length := by have := congrArg List.length HQ1.out; simp only [List.length_append, hoW, List.length_cons, List.length_nil] at this; omega
            rw [← hq1] at hr
            have HP5 : Hid (Pool [B] w [[blk B [.string (bs q1)]], [blk C [.slice none 0 0, .slice none 0 0, .slice none 0 0]], [blk G [.slice a0 d0.length c0, .slice a1 d1.length c1, .slice none 0 0]], [row 50 4 (.slice a0 d0.length c0) d0.length (d0.flatMap accCells)], [row 53 4 (.slice a1 d1.length c1) d1.length (d1.flatMap hldCells)], [row 55 2 (.slice none 0 0) ([] : List Sn).length (([] : List Sn).flatMap snCells)], []] w3) := hide (HPr.out.rd hr)
            clear hr HPr hp hq1
            go_upto_region 6 with fail
            refine wp_region_inv (by kernel_rfl) (fun L act x => ∃ l0 l1 l2 l3 l4 l5 l6 l7 : Bool, ∃ u20 u21 u22 u23 u24 u25 u26 : Value, ∃ y : Hld, ∃ s : List UInt8, L = #[l0, l1, l2, l3, l4, l5, l6, l7] ∧ act = { tmps := #[Value.pointer (some { block := B, off := 0 }), undef, Value.pointer (some { block := C, off := 0 }), Value.pointer (some { block := G, off := 0 }), Value.agg #[Value.slice none 0 0, Value.slice none 0 0, Value.slice none 0 0], Value.pointer (some { block := B, off := 0 }), Value.pointer (some { block := B, off := 0 }), Value.bool true, Value.tuple #[], Value.pointer (some { block := B, off := 0 }), Value.bool false, u11, u12, u13, u14, u15, u16, u17, Value.pointer (some { block := B, off := 0 }), Value.bool true, u20, u21, u22, u23, u24, u25, u26, undef, undef, undef, undef, undef, undef, undef, undef, undef, undef, undef, undef, undef, undef], defers := [] } ∧ Lf1 B w C G q1 a0 c0 d0 a1 c1 d1 l0 l1 l2 l3 l4 l5 l6 l7 u20 u21 u22 u23 u24 u25 u26 y s x) ?_ ?_ ?_
            rotate_left 2
            · exact ⟨false, false, false, false, false, false, false, false, (u20), (u21), (u22), (u23), (u24), (u25), (u26), (⟨0, ⟨#[]⟩, ⟨#[]⟩, 0⟩), (q1), rfl, rfl, { pool := HP5.out.drew, s0 := fun _ => rfl, ps := fun z => (by cases z), q3 := fun z => (by cases z), q4 := fun z => (by cases z), d4 := fun z => (by cases z), d5 := fun z => (by cases z), d51 := fun z => (by cases z), d7 := fun z => (by cases z), p20 := fun z => (by cases z), p21 := fun z => (by cases z), p22 := fun z => (by cases z), p26 := fun z => (by cases z) }⟩
            · rintro L act x i ⟨l0, l1, l2, l3, l4, l5, l6, l7, u20, u21, u22, u23, u24, u25, u26, y, s, rfl, rfl, h⟩ hi K hK
              have hi15 : i < 8 := by
                obtain ⟨_, o, ho, _⟩ := mem_ready.1 hi
                exact (Array.getElem?_eq_some_iff.1 ho).1
              have hl := (mem_ready.1 hi).1
              obtain rfl | rfl | rfl | rfl | rfl | rfl | rfl | rfl := (by omega : i = 0 ∨ i = 1 ∨ i = 2 ∨ i = 3 ∨ i = 4 ∨ i = 5 ∨ i = 6 ∨ i = 7)
              · have e : l0 = false := hl
                subst e
                refine wpOp_run (v := .pointer (some ⟨G, 1, none⟩)) (w' := x) (by rfl) (by rfl) ?_ (hK _ _ ⟨true, l1, l2, l3, l4, l5, l6, l7, (.pointer (some ⟨G, 1, none⟩)), u21, u22, u23, u24, u25, u26, (y), (s), rfl, rfl, { h with p20 := fun _ => rfl }⟩)
                go_simp
              · have e : l1 = false := hl
                subst e
                have d0 : l0 = true := ready_on hi 0 (by kernel_rfl)
                subst d0
                have z5 : l5 = false := by
                  cases hz : l5
                  · rfl
                  · exact absurd (h.d51 hz) (by simp)
                subst z5
                have z7 : l7 = false := by
                  cases hz : l7
                  · rfl
                  · exact absurd (h.d7 hz) (by simp)
                subst z7
                have cc := (h.pool.blkAt (i := 2) rfl).c 1 _ rfl
                refine wpOp_run (v := .slice a1 d1.length c1) (w' := x) (by rfl) (by rfl) ?_ (hK _ _ ⟨true, true, l2, l3, l4, false, l6, false, u20, (.slice a1 d1.length c1), u22, u23, u24, u25, u26, (y), (s), rfl, rfl, { h with p21 := fun _ => rfl, d51 := fun _ => rfl }⟩)
                rw [h.p20 rfl]
                go_simp
              · have e : l2 = false := hl
                subst e
                refine wpOp_run (v := .pointer (some ⟨B, 0, none⟩)) (w' := x) (by rfl) (by rfl) ?_ (hK _ _ ⟨l0, l1, true, l3, l4, l5, l6, l7, u20, u21, (.pointer (some ⟨B, 0, none⟩)), u23, u24, u25, u26, (y), (s), rfl, rfl, { h with p22 := fun _ => rfl }⟩)
                go_simp
              · have e : l3 = false := hl
                subst e
                have d2 : l2 = true := ready_on hi 2 (by kernel_rfl)
                subst d2
                have z4 : l4 = false := by
                  cases hz : l4
                  · rfl
                  · exact absurd (h.d4 hz) (by simp)
                subst z4
                have z5 : l5 = false := by
                  cases hz : l5
                  · rfl
                  · exact absurd (h.d5 hz) (by simp)
                subst z5
                have z7 : l7 = false := by
                  cases hz : l7
                  · rfl
                  · exact absurd (h.d7 hz) (by simp)
                subst z7
                have es := (h.s0 rfl).symm
                subst es
                refine wpOp_callP (by rfl) (by rfl) ?_ (holdFrom_end B q1 t v w0 _ HE.out (HG.out.tor h.pool.rdt) (by omega)) ?_
                · rw [h.p22 rfl]; go_simp
                · rintro e w' (⟨yy, rr, hy, rfl, hr⟩ | ⟨hno, rfl, l9, hr⟩)
                  · exact .inl ⟨_, rfl, hK _ _ ⟨l0, l1, true, true, false, false, l6, false, u20, u21, u22, (.agg #[.int .i64 yy.id, .string yy.fr, .string yy.«to», .int .i64 yy.amount]), u24, u25, u26, (yy), (rr), rfl, rfl, { h with pool := h.pool.rd hr, ps := fun _ => hy, q3 := fun _ => rfl, d4 := fun _ => rfl, d5 := fun z => (by cases z), d51 := fun z => (by cases z), d7 := fun z => (by cases z), q4 := fun z => (by cases z), s0 := fun z => (by cases z) }⟩⟩
                  · refine .inr ⟨_, rfl, ?_⟩
                    have HNo : Hid _ := hide hno
                    have HR5 : Hid (RdTo B l9 w w') := hide (h.pool.rdt.trans hr)
                    clear h hK hi hl hr hno
                    go_wp2_with fail
                    refine ⟨rfl, .inr ⟨fun c r hc => ?_, rfl, _, HR5.out⟩⟩
                    obtain ⟨q0, q2, q3, e0, hA, hB, _⟩ := hc
                    have e1 := HL0.out
                    rw [e1] at e0
                    obtain rfl := List.append_cancel_left e0
                    obtain ⟨_, rfl⟩ := (HS0.out _ _).1 hA
                    exact HI.out.none HQ1.out HNo.out _ _ hB
              · have e : l4 = false := hl
                subst e
                have d3 : l3 = true := ready_on hi 3 (by kernel_rfl)
                subst d3
                have z5 : l5 = false := by
                  cases hz : l5
                  · rfl
                  · exact absurd (h.d5 hz) (by simp)
                subst z5
                have z7 : l7 = false := by
                  cases hz : l7
                  · rfl
                  · exact absurd (h.d7 hz) (by simp)
                subst z7
                refine wpOp_run (v := .slice (some ⟨x.heap.size, 0, none⟩) 1 1) (w' := x.alloc (.cells #[.int .i64 y.id, .string y.fr, .string y.«to», .int .i64 y.amount] 53)) (by rfl) (by rfl) ?_ (hK _ _ ⟨l0, l1, l2, true, true, false, l6, false, u20, u21, u22, u23, (.slice (some ⟨x.heap.size, 0, none⟩) 1 1), u25, u26, (y), (s), rfl, rfl, { h with q4 := (fun _ => rfl), pool := (h.pool.newBlk (i := 6) rfl (hldCells y) 53), d4 := fun _ => rfl, d5 := fun z => (by cases z), d51 := fun z => (by cases z), d7 := fun z => (by cases z) }⟩)
                rw [h.q3 rfl]
                go_simp
              · have e : l5 = false := hl
                subst e
                have d1 : l1 = true := ready_on hi 1 (by kernel_rfl)
                subst d1
                have d3 : l3 = true := ready_on hi 3 (by kernel_rfl)
                subst d3
                have d4 : l4 = true := ready_on hi 4 (by kernel_rfl)
                subst d4
                have z7 : l7 = false := by
                  cases hz : l7
                  · rfl
                  · exact absurd (h.d7 hz) (by simp)
                subst z7
                obtain ⟨v', z, hr, hp⟩ := h.pool.append (P := Tryz.prog) (i0 := 4) rfl 25 25 i1 _ 48 Tryz.underlying25 hi1 hz1 hy1 hx1 rfl (by decide) (some ⟨gOf (slA u24), 0, none⟩) 1 1 (hldCells y) rfl (fun e => by cases e) (blk_news (h.pool.blkAt (i := 6) rfl)) (ho1 y) (by unfold maxLen; omega) (by omega)
                refine wpOp_run (v := v') (w' := z) (by rfl) (by rfl) ?_ (hK _ _ ⟨l0, true, l2, true, true, true, l6, false, u20, u21, u22, u23, u24, (v'), u26, (y), (s), rfl, rfl, { h with pool := (hp), d5 := fun _ => rfl, d51 := fun _ => rfl, d7 := fun z => (by cases z) }⟩)
                exact exec_append rfl (h.p21 rfl) (h.q4 rfl) hr
              · have e : l6 = false := hl
                subst e
                have d0 : l0 = true := ready_on hi 0 (by kernel_rfl)
                subst d0
                have d1 : l1 = true := ready_on hi 1 (by kernel_rfl)
                subst d1
                have d2 : l2 = true := ready_on hi 2 (by kernel_rfl)
                subst d2
                have d3 : l3 = true := ready_on hi 3 (by kernel_rfl)
                subst d3
                have d4 : l4 = true := ready_on hi 4 (by kernel_rfl)
                subst d4
                have d5 : l5 = true := ready_on hi 5 (by kernel_rfl)
                subst d5
                refine wpOp_run (v := .pointer (some ⟨G, 1, none⟩)) (w' := x) (by rfl) (by rfl) ?_ (hK _ _ ⟨true, true, true, true, true, true, true, l7, u20, u21, u22, u23, u24, u25, (.pointer (some ⟨G, 1, none⟩)), (y), (s), rfl, rfl, { h with p26 := fun _ => rfl }⟩)
                go_simp
              · have e : l7 = false := hl
                subst e
                have d0 : l0 = true := ready_on hi 0 (by kernel_rfl)
                subst d0
                have d1 : l1 = true := ready_on hi 1 (by kernel_rfl)
                subst d1
                have d2 : l2 = true := ready_on hi 2 (by kernel_rfl)
                subst d2
                have d3 : l3 = true := ready_on hi 3 (by kernel_rfl)
                subst d3
                have d4 : l4 = true := ready_on hi 4 (by kernel_rfl)
                subst d4
                have d5 : l5 = true := ready_on hi 5 (by kernel_rfl)
                subst d5
                have d6 : l6 = true := ready_on hi 6 (by kernel_rfl)
                subst d6
                obtain ⟨a6, k6, e6⟩ := row_shape (h.pool.rowAt (i := 4) rfl)
                have A6 := h.pool.blkAt (i := 2) rfl
                have t1 := A6.c 1 _ rfl
                have f1 := A6.f 1
                refine wpOp_skip (w' := x.setCell ⟨G, 1, none⟩ u25) (by rfl) (by rfl) ?_ (hK _ _ ⟨true, true, true, true, true, true, true, true, u20, u21, u22, u23, u24, u25, u26, (y), (s), rfl, rfl, { h with pool := (h.pool.setBlk (i := 2) rfl 1 u25 (by simp)), d7 := fun _ => rfl }⟩)
                rw [h.p26 rfl, e6]
                go_simp
            · rintro L act x ⟨l0, l1, l2, l3, l4, l5, l6, l7, u20, u21, u22, u23, u24, u25, u26, y, s, rfl, rfl, h⟩ hr
              have hall := ready_all hr rfl (by decide)
              have t0 : l0 = true := hall 0 (by decide)
              have t1 : l1 = true := hall 1 (by decide)
              have t2 : l2 = true := hall 2 (by decide)
              have t3 : l3 = true := hall 3 (by decide)
              have t4 : l4 = true := hall 4 (by decide)
              have t5 : l5 = true := hall 5 (by decide)
              have t6 : l6 = true := hall 6 (by decide)
              have t7 : l7 = true := hall 7 (by decide)
              subst t0 t1 t2 t3 t4 t5 t6 t7
              clear hall hr
              obtain ⟨a6, k6, e6⟩ := row_shape (h.pool.rowAt (i := 4) rfl)
              have hy := h.ps rfl
              have HPn : Hid (Pool [B] w [[blk B [.string (bs s)]], [blk C [.slice none 0 0, .slice none 0 0, .slice none 0 0]], [blk G [.slice a0 d0.length c0, .slice a6 (d1 ++ [y]).length k6, .slice none 0 0]], [row 50 4 (.slice a0 d0.length c0) d0.length (d0.flatMap accCells)], [row 53 4 (.slice a6 (d1 ++ [y]).length k6) (d1 ++ [y]).length ((d1 ++ [y]).flatMap hldCells)], [row 55 2 (.slice none 0 0) ([] : List Sn).length (([] : List Sn).flatMap snCells)], []] x) := hide (by
                have z := h.pool.drop (i := 6) rfl
                rw [e6] at z
                have e2 : d1.flatMap hldCells ++ hldCells y = (d1 ++ [y]).flatMap hldCells := by simp
                have e3 : d1.length + 1 = (d1 ++ [y]).length := by simp
                rw [e2, e3] at z
                exact z)
              have HIn : Hid (RowsI hoW HldP qa (d1 ++ [y]) s) := hide (HI.out.one HQ1.out hy HldP.inj hy.len)
              have hln := hy.len
              have hrx := rdLen_of (HPn.out.blkAt (i := 0) rfl)
              clear h hy e6
              go_wp2
              exact ⟨⟨d1 ++ [y], s, a6, k6, by simp; omega, HIn, HPn⟩, by omega⟩
      · obtain ⟨q1, hq1⟩ : ∃ q1, q1 = Lib.trimPrefix qa acW := ⟨_, rfl⟩
        have HQ1 : Hid (qa = acW ++ q1) := hide (by rw [hq1]; exact hasPrefix_split hp)
        have hl1 : q1.length < qa.length := by have := congrArg List.length HQ1.out; simp only [List.length_append, acW, List.length_cons, List.length_nil] at this; omega
        rw [← hq1] at hr
        have HP5 : Hid (Pool [B] w [[blk B [.string (bs q1)]], [blk C [.slice none 0 0, .slice none 0 0, .slice none 0 0]], [blk G [.slice a0 d0.length c0, .slice none 0 0, .slice none 0 0]], [row 50 4 (.slice a0 d0.length c0) d0.length (d0.flatMap accCells)], [row 53 4 (.slice none 0 0) ([] : List Hld).length (([] : List Hld).flatMap hldCells)], [row 55 2 (.slice none 0 0) ([] : List Sn).length (([] : List Sn).flatMap snCells)], []] w3) := hide (HPr.out.rd hr)
        clear hr HPr hp hq1
        go_upto_region 4 with fail
        refine wp_region_inv (by kernel_rfl) (fun L act x => ∃ l0 l1 l2 l3 l4 l5 l6 l7 : Bool, ∃ u11 u12 u13 u14 u15 u16 u17 : Value, ∃ y : Acc, ∃ s : List UInt8, L = #[l0, l1, l2, l3, l4, l5, l6, l7] ∧ act = { tmps := #[Value.pointer (some { block := B, off := 0 }), undef, Value.pointer (some { block := C, off := 0 }), Value.pointer (some { block := G, off := 0 }), Value.agg #[Value.slice none 0 0, Value.slice none 0 0, Value.slice none 0 0], Value.pointer (some { block := B, off := 0 }), Value.pointer (some { block := B, off := 0 }), Value.bool true, Value.tuple #[], Value.pointer (some { block := B, off := 0 }), Value.bool true, u11, u12, u13, u14, u15, u16, u17, undef, undef, undef, undef, undef, undef, undef, undef, undef, undef, undef, undef, undef, undef, undef, undef, undef, undef, undef, undef, undef, undef, undef], defers := [] } ∧ Lf0 B w C G q1 a0 c0 d0 l0 l1 l2 l3 l4 l5 l6 l7 u11 u12 u13 u14 u15 u16 u17 y s x) ?_ ?_ ?_
        rotate_left 2
        · exact ⟨false, false, false, false, false, false, false, false, (u11), (u12), (u13), (u14), (u15), (u16), (u17), (⟨⟨#[]⟩, ⟨#[]⟩, 0, 0⟩), (q1), rfl, rfl, { pool := HP5.out.drew, s0 := fun _ => rfl, ps := fun z => (by cases z), q3 := fun z => (by cases z), q4 := fun z => (by cases z), d4 := fun z => (by cases z), d5 := fun z => (by cases z), d51 := fun z => (by cases z), d7 := fun z => (by cases z), p11 := fun z => (by cases z), p12 := fun z => (by cases z), p13 := fun z => (by cases z), p17 := fun z => (by cases z) }⟩
        · rintro L act x i ⟨l0, l1, l2, l3, l4, l5, l6, l7, u11, u12, u13, u14, u15, u16, u17, y, s, rfl, rfl, h⟩ hi K hK
          have hi15 : i < 8 := by
            obtain ⟨_, o, ho, _⟩ := mem_ready.1 hi
            exact (Array.getElem?_eq_some_iff.1 ho).1
          have hl := (mem_ready.1 hi).1
          obtain rfl | rfl | rfl | rfl | rfl | rfl | rfl | rfl := (by omega : i = 0 ∨ i = 1 ∨ i = 2 ∨ i = 3 ∨ i = 4 ∨ i = 5 ∨ i = 6 ∨ i = 7)
          · have e : l0 = false := hl
            subst e
            refine wpOp_run (v := .pointer (some ⟨G, 0, none⟩)) (w' := x) (by rfl) (by rfl) ?_ (hK _ _ ⟨true, l1, l2, l3, l4, l5, l6, l7, (.pointer (some ⟨G, 0, none⟩)), u12, u13, u14, u15, u16, u17, (y), (s), rfl, rfl, { h with p11 := fun _ => rfl }⟩)
            go_simp
          · have e : l1 = false := hl
            subst e
            have d0 : l0 = true := ready_on hi 0 (by kernel_rfl)
            subst d0
            have z5 : l5 = false := by
              cases hz : l5
              · rfl
              · exact absurd (h.d51 hz) (by simp)
            subst z5
            have z7 : l7 = false := by
              cases hz : l7
              · rfl
              · exact absurd (h.d7 hz) (by simp)
            subst z7
            have cc := (h.pool.blkAt (i := 2) rfl).c 0 _ rfl
            refine wpOp_run (v := .slice a0 d0.length c0) (w' := x) (by rfl) (by rfl) ?_ (hK _ _ ⟨true, true, l2, l3, l4, false, l6, false, u11, (.slice a0 d0.length c0), u13, u14, u15, u16, u17, (y), (s), rfl, rfl, { h with p12 := fun _ => rfl, d51 := fun _ => rfl }⟩)
            rw [h.p11 rfl]
            go_simp
          · have e : l2 = false := hl
            subst e
            refine wpOp_run (v := .pointer (some ⟨B, 0, none⟩)) (w' := x) (by rfl) (by rfl) ?_ (hK _ _ ⟨l0, l1, true, l3, l4, l5, l6, l7, u11, u12, (.pointer (some ⟨B, 0, none⟩)), u14, u15, u16, u17, (y), (s), rfl, rfl, { h with p13 := fun _ => rfl }⟩)
            go_simp
          · have e : l3 = false := hl
            subst e
            have d2 : l2 = true := ready_on hi 2 (by kernel_rfl)
            subst d2
            have z4 : l4 = false := by
              cases hz : l4
              · rfl
              · exact absurd (h.d4 hz) (by simp)
            subst z4
            have z5 : l5 = false := by
              cases hz : l5
              · rfl
              · exact absurd (h.d5 hz) (by simp)
            subst z5
            have z7 : l7 = false := by
              cases hz : l7
              · rfl
              · exact absurd (h.d7 hz) (by simp)
            subst z7
            have es := (h.s0 rfl).symm
            subst es
            refine wpOp_callP (by rfl) (by rfl) ?_ (accountFrom_end B q1 t v w0 _ HE.out (HG.out.tor h.pool.rdt) (by omega)) ?_
            · rw [h.p13 rfl]; go_simp
            · rintro e w' (⟨yy, rr, hy, rfl, hr⟩ | ⟨hno, rfl, l9, hr⟩)
              · exact .inl ⟨_, rfl, hK _ _ ⟨l0, l1, true, true, false, false, l6, false, u11, u12, u13, (.agg #[.string yy.name, .string yy.cur, .int .i64 yy.limit, .int .i64 yy.posted]), u15, u16, u17, (yy), (rr), rfl, rfl, { h with pool := h.pool.rd hr, ps := fun _ => hy, q3 := fun _ => rfl, d4 := fun _ => rfl, d5 := fun z => (by cases z), d51 := fun z => (by cases z), d7 := fun z => (by cases z), q4 := fun z => (by cases z), s0 := fun z => (by cases z) }⟩⟩
              · refine .inr ⟨_, rfl, ?_⟩
                have HNo : Hid _ := hide hno
                have HR5 : Hid (RdTo B l9 w w') := hide (h.pool.rdt.trans hr)
                clear h hK hi hl hr hno
                go_wp2_with fail
                refine ⟨rfl, .inr ⟨fun c r hc => ?_, rfl, _, HR5.out⟩⟩
                obtain ⟨q0, q2, q3, e0, hA, _⟩ := hc
                have e1 := HL0.out
                rw [e1] at e0
                obtain rfl := List.append_cancel_left e0
                exact HI.out.none HQ1.out HNo.out _ _ hA
          · have e : l4 = false := hl
            subst e
            have d3 : l3 = true := ready_on hi 3 (by kernel_rfl)
            subst d3
            have z5 : l5 = false := by
              cases hz : l5
              · rfl
              · exact absurd (h.d5 hz) (by simp)
            subst z5
            have z7 : l7 = false := by
              cases hz : l7
              · rfl
              · exact absurd (h.d7 hz) (by simp)
            subst z7
            refine wpOp_run (v := .slice (some ⟨x.heap.size, 0, none⟩) 1 1) (w' := x.alloc (.cells #[.string y.name, .string y.cur, .int .i64 y.limit, .int .i64 y.posted] 50)) (by rfl) (by rfl) ?_ (hK _ _ ⟨l0, l1, l2, true, true, false, l6, false, u11, u12, u13, u14, (.slice (some ⟨x.heap.size, 0, none⟩) 1 1), u16, u17, (y), (s), rfl, rfl, { h with q4 := (fun _ => rfl), pool := (h.pool.newBlk (i := 6) rfl (accCells y) 50), d4 := fun _ => rfl, d5 := fun z => (by cases z), d51 := fun z => (by cases z), d7 := fun z => (by cases z) }⟩)
            rw [h.q3 rfl]
            go_simp
          · have e : l5 = false := hl
            subst e
            have d1 : l1 = true := ready_on hi 1 (by kernel_rfl)
            subst d1
            have d3 : l3 = true := ready_on hi 3 (by kernel_rfl)
            subst d3
            have d4 : l4 = true := ready_on hi 4 (by kernel_rfl)
            subst d4
            have z7 : l7 = false := by
              cases hz : l7
              · rfl
              · exact absurd (h.d7 hz) (by simp)
            subst z7
            obtain ⟨v', z, hr, hp⟩ := h.pool.append (P := Tryz.prog) (i0 := 3) rfl 24 24 i0 _ 48 Tryz.underlying24 hi0 hz0 hy0 hx0 rfl (by decide) (some ⟨gOf (slA u15), 0, none⟩) 1 1 (accCells y) rfl (fun e => by cases e) (blk_news (h.pool.blkAt (i := 6) rfl)) (ac1 y) (by unfold maxLen; omega) (by omega)
            refine wpOp_run (v := v') (w' := z) (by rfl) (by rfl) ?_ (hK _ _ ⟨l0, true, l2, true, true, true, l6, false, u11, u12, u13, u14, u15, (v'), u17, (y), (s), rfl, rfl, { h with pool := (hp), d5 := fun _ => rfl, d51 := fun _ => rfl, d7 := fun z => (by cases z) }⟩)
            exact exec_append rfl (h.p12 rfl) (h.q4 rfl) hr
          · have e : l6 = false := hl
            subst e
            have d0 : l0 = true := ready_on hi 0 (by kernel_rfl)
            subst d0
            have d1 : l1 = true := ready_on hi 1 (by kernel_rfl)
            subst d1
            have d2 : l2 = true := ready_on hi 2 (by kernel_rfl)
            subst d2
            have d3 : l3 = true := ready_on hi 3 (by kernel_rfl)
            subst d3
            have d4 : l4 = true := ready_on hi 4 (by kernel_rfl)
            subst d4
            have d5 : l5 = true := ready_on hi 5 (by kernel_rfl)
            subst d5
            refine wpOp_run (v := .pointer (some ⟨G, 0, none⟩)) (w' := x) (by rfl) (by rfl) ?_ (hK _ _ ⟨true, true, true, true, true, true, true, l7, u11, u12, u13, u14, u15, u16, (.pointer (some ⟨G, 0, none⟩)), (y), (s), rfl, rfl, { h with p17 := fun _ => rfl }⟩)
            go_simp
          · have e : l7 = false := hl
            subst e
            have d0 : l0 = true := ready_on hi 0 (by kernel_rfl)
            subst d0
            have d1 : l1 = true := ready_on hi 1 (by kernel_rfl)
            subst d1
            have d2 : l2 = true := ready_on hi 2 (by kernel_rfl)
            subst d2
            have d3 : l3 = true := ready_on hi 3 (by kernel_rfl)
            subst d3
            have d4 : l4 = true := ready_on hi 4 (by kernel_rfl)
            subst d4
            have d5 : l5 = true := ready_on hi 5 (by kernel_rfl)
            subst d5
            have d6 : l6 = true := ready_on hi 6 (by kernel_rfl)
            subst d6
            obtain ⟨a6, k6, e6⟩ := row_shape (h.pool.rowAt (i := 3) rfl)
            have A6 := h.pool.blkAt (i := 2) rfl
            have t1 := A6.c 0 _ rfl
            have f1 := A6.f 0
            refine wpOp_skip (w' := x.setCell ⟨G, 0, none⟩ u16) (by rfl) (by rfl) ?_ (hK _ _ ⟨true, true, true, true, true, true, true, true, u11, u12, u13, u14, u15, u16, u17, (y), (s), rfl, rfl, { h with pool := (h.pool.setBlk (i := 2) rfl 0 u16 (by simp)), d7 := fun _ => rfl }⟩)
            rw [h.p17 rfl, e6]
            go_simp
        · rintro L act x ⟨l0, l1, l2, l3, l4, l5, l6, l7, u11, u12, u13, u14, u15, u16, u17, y, s, rfl, rfl, h⟩ hr
          have hall := ready_all hr rfl (by decide)
          have t0 : l0 = true := hall 0 (by decide)
          have t1 : l1 = true := hall 1 (by decide)
          have t2 : l2 = true := hall 2 (by decide)
          have t3 : l3 = true := hall 3 (by decide)
          have t4 : l4 = true := hall 4 (by decide)
          have t5 : l5 = true := hall 5 (by decide)
          have t6 : l6 = true := hall 6 (by decide)
          have t7 : l7 = true := hall 7 (by decide)
          subst t0 t1 t2 t3 t4 t5 t6 t7
          clear hall hr
          obtain ⟨a6, k6, e6⟩ := row_shape (h.pool.rowAt (i := 3) rfl)
          have hy := h.ps rfl
          have HPn : Hid (Pool [B] w [[blk B [.string (bs s)]], [blk C [.slice none 0 0, .slice none 0 0, .slice none 0 0]], [blk G [.slice a6 (d0 ++ [y]).length k6, .slice none 0 0, .slice none 0 0]], [row 50 4 (.slice a6 (d0 ++ [y]).length k6) (d0 ++ [y]).length ((d0 ++ [y]).flatMap accCells)], [row 53 4 (.slice none 0 0) ([] : List Hld).length (([] : List Hld).flatMap hldCells)], [row 55 2 (.slice none 0 0) ([] : List Sn).length (([] : List Sn).flatMap snCells)], []] x) := hide (by
            have z := h.pool.drop (i := 6) rfl
            rw [e6] at z
            have e2 : d0.flatMap accCells ++ accCells y = (d0 ++ [y]).flatMap accCells := by simp
            have e3 : d0.length + 1 = (d0 ++ [y]).length := by simp
            rw [e2, e3] at z
            exact z)
          have HIn : Hid (RowsI acW AccP r0 (d0 ++ [y]) s) := hide (HI.out.one HQ1.out hy AccP.inj hy.len)
          have hln := hy.len
          have hrx := rdLen_of (HPn.out.blkAt (i := 0) rfl)
          clear h hy e6
          go_wp2
          exact ⟨⟨d0 ++ [y], s, a6, k6, by simp; omega, HIn, HPn⟩, by omega⟩
end Go.Proofs.YteaopalhbnhbaaaGreatDoor
