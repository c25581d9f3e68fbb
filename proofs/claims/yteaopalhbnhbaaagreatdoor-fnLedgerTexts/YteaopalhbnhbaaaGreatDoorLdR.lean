/- Where a reader's panic ends: readWhole at a ledger; ReadLedger. -/
import Derived.Test.YteaopalhbnhbaaaGreatDoorLdF
import Derived.Defers
import Derived.Recover
namespace Go.Proofs.YteaopalhbnhbaaaGreatDoor
open Go.ChangeShapes Go.WideShapes Go.ChangeAt Go.RowKit Go.Lib
set_option linter.unusedVariables false
set_option maxRecDepth 100000
set_option maxHeartbeats 4000000 in
theorem catch_idle (p q : Addr) (w : World) :
    CallsD Tryz.prog 56 #[.pointer (some p), .pointer (some q)] .returning w fun e u' w' => e = .returned (.tuple #[]) ∧ u' = .returning ∧ w' = w := by
  refine callsD_of_wpS Tryz.func56 rfl fun c₀ cs hu => ?_
  apply wpS_seq
  apply wpS_region
  simp [wpOpsS, go_sem, recoverD, hu, Tryz.ntmps56, Exit.thenS]
  refine wpS_cond (t := false) (by simp [Act.eval, Array.replicate]) ?_
  simp only [Bool.false_eq_true, if_false]
  refine wpS_of_wp (wp_skip ?_)
  cases c₀
  simp_all [bodyPostS, results, Tryz.results56]
set_option maxHeartbeats 4000000 in
theorem catch_panic (A R : Nat) (v0 v1 v2 : Value) (b : Bool) (hv : ∃ a0 n0 c0 a1 n1 c1 a2 n2 c2, v0 = .slice a0 n0 c0 ∧ v1 = .slice a1 n1 c1 ∧ v2 = .slice a2 n2 c2) (u : TypeId) (pv : Value) (older : List PanicEntry) (w0 w : World) (S : List (List Rs)) (h : Pool [] w0 ([blk A [v0, v1, v2]] :: [blk R [.bool b]] :: S) w) :
    CallsD Tryz.prog 56 #[.pointer (some ⟨A, 0, none⟩), .pointer (some ⟨R, 0, none⟩)] (.panicking ({ v := .iface u pv, recovered := false } :: older)) w fun e u' w' =>
      e = .returned (.tuple #[]) ∧ u' = .panicking ({ v := .iface u pv, recovered := true } :: older) ∧ Pool [] w0 ([blk A [.slice none 0 0, .slice none 0 0, .slice none 0 0]] :: [blk R [.bool false]] :: S) w' := by
  have HP : Hid _ := hide h
  obtain ⟨a0, n0, c0, a1, n1, c1, a2, n2, c2, rfl, rfl, rfl⟩ := hv
  clear h
  refine callsD_of_wpS Tryz.func56 rfl fun c₀ cs hu => ?_
  apply wpS_seq
  apply wpS_region
  simp [wpOpsS, go_sem, recoverD, hu, Tryz.ntmps56, Exit.thenS]
  refine wpS_cond (t := true) (by simp [Act.eval, Array.replicate]) ?_
  simp only [if_true]
  refine wpS_of_wp ?_
  go_upto_region 2 with fail
  refine cnm_world (fun W1 hW1 => ?_)
  have e_0 : W1.cell? ⟨w.heap.size, 0, none⟩ = some (.slice none 0 0) := by rw [hW1]; simp
  have e_1 : W1.cell? ⟨w.heap.size, 1, none⟩ = some (.slice none 0 0) := by rw [hW1]; simp
  have e_2 : W1.cell? ⟨w.heap.size, 2, none⟩ = some (.slice none 0 0) := by rw [hW1]; simp
  have h1 : Pool [] w0 ([blk A [.slice a0 n0 c0, .slice a1 n1 c1, .slice a2 n2 c2]] :: [blk R [.bool b]] :: S) W1 := by rw [hW1]; exact HP.out.alloc _
  clear hW1
  have z_0 := (h1.blkAt (i := 0) rfl).c 0 _ rfl
  have z_1 := (h1.blkAt (i := 0) rfl).c 1 _ rfl
  have z_2 := (h1.blkAt (i := 0) rfl).c 2 _ rfl
  have y_0 := (h1.blkAt (i := 0) rfl).f 0
  have y_1 := (h1.blkAt (i := 0) rfl).f 1
  have y_2 := (h1.blkAt (i := 0) rfl).f 2
  have q_0 := (h1.blkAt (i := 1) rfl).c 0 _ rfl
  have p_0 := (h1.blkAt (i := 1) rfl).f 0
  have h2 := h1.setN3 (i := 0) rfl (.slice none 0 0) (.slice none 0 0) (.slice none 0 0)
  have q_0 := (h2.blkAt (i := 1) rfl).c 0 _ rfl
  have p_0 := (h2.blkAt (i := 1) rfl).f 0
  have HQ : Hid (Pool [] w0 ([blk A [.slice none 0 0, .slice none 0 0, .slice none 0 0]] :: [blk R [.bool false]] :: S) _) := hide (h2.setBlk (i := 1) rfl 0 (.bool false) (by simp))
  clear h1 h2
  go_wp2
  have hq := HQ.out
  simp [bodyPostS, results, Tryz.results56, hq]
theorem Pool.rdAt {F : List Nat} {B : Nat} {w x y : World} {l l' : List UInt8} {S : List (List Rs)} (h : Pool F w S x) {i : Nat} (hi : S[i]? = some [blk B [.string (bs l)]]) (k : RdTo B l' x y) : Pool F w (S.set i [blk B [.string (bs l')]]) y :=
  h.step hi (by simpa [fps, blk] using k.2) (Star.ofBlk k.1) (fun b hb => .inl hb)
theorem Pool.cells3 {F : List Nat} {w x : World} {S : List (List Rs)} (h : Pool F w S x) {i A : Nat} {v0 v1 v2 : Value} (hi : S[i]? = some [blk A [v0, v1, v2]]) :
    (x.cell? ⟨A, 0, none⟩ = some v0 ∧ x.cell? ⟨A, 1, none⟩ = some v1 ∧ x.cell? ⟨A, 2, none⟩ = some v2) ∧ (x.frozen? ⟨A, 0, none⟩ = false ∧ x.frozen? ⟨A, 1, none⟩ = false ∧ x.frozen? ⟨A, 2, none⟩ = false) :=
  ⟨⟨(h.blkAt hi).c 0 _ rfl, (h.blkAt hi).c 1 _ rfl, (h.blkAt hi).c 2 _ rfl⟩, ⟨(h.blkAt hi).f 0, (h.blkAt hi).f 1, (h.blkAt hi).f 2⟩⟩
def nilP : LP := ⟨none, 0, none, 0, none, 0⟩
def nilL : Led := ⟨[], [], []⟩
theorem nilP_ok : PlOk nilP nilL := ⟨⟨(by intro a h; cases h), (fun _ => rfl), Nat.le_refl _⟩, ⟨(by intro a h; cases h), (fun _ => rfl), Nat.le_refl _⟩, ⟨(by intro a h; cases h), (fun _ => rfl), Nat.le_refl _⟩⟩
theorem nilL_w : LedW nilL := ⟨(fun _ h => by cases h), (fun _ h => by cases h), (fun _ h => by cases h)⟩
/-- the rows of a ledger that is empty -/
theorem Pool.nilLed {F : List Nat} {w x : World} {S : List (List Rs)} (h : Pool F w S x) {i : Nat} (hi : S[i]? = some []) : Pool F w (S.set i (ledL nilP nilL)) x :=
  h.new hi (Below.refl _ _) ((Star.ofNone (sz := 4) (f := accCells)).app ((Star.ofNone (sz := 4) (f := hldCells)).app (Star.ofNone (sz := 2) (f := snCells)) (fun c hc => by simp [fps, orow, Value.ownBlock] at hc)) (fun c hc => by simp [fps, orow, Value.ownBlock] at hc)) (fun c hc => by simp [fps, ledL, orow, nilP, Value.ownBlock] at hc)
/-- what readWhole answers -/
structure RlIs (l : List UInt8) (L : Led) (p : LP) (b : Bool) : Prop where
  yes : b = true → LedP l L []
  no : b = false → (∀ D, ¬ LedP l D []) ∧ L = nilL ∧ p = nilP
  w : LedW L
  pl : PlOk p L
  sz : L.acc.length ≤ 1048576 ∧ L.hold.length ≤ 1048576 ∧ L.seen.length ≤ 1048576
def RlEnd (l : List UInt8) (w : World) (e : Ending) (w' : World) : Prop :=
  ∃ L p b, RlIs l L p b ∧ e = .returned (.tuple #[ledV p L, .bool b]) ∧ Pool [] w [ledL p L] w'
theorem isEmpty_bs (r : List UInt8) : (bs r).toList.isEmpty = r.isEmpty := by rw [Lib.toList_data, bs_list]
theorem rows_inj {A : Type} {hd : List UInt8} {P : List UInt8 → A → List UInt8 → Prop} (hinj : ∀ {x : List UInt8} {a b : A} {r s : List UInt8}, P x a r → P x b s → a = b ∧ r = s) : ∀ (ys zs : List A) (l r s : List UInt8), RowsP hd P l ys r → RowsP hd P l zs s → ys = zs ∧ r = s := by
  intro ys
  induction ys with
  | nil =>
    intro zs l r s h k
    cases zs with
    | nil => exact ⟨rfl, h.2.trans k.2.symm⟩
    | cons b bs =>
      obtain ⟨q1, q2, e, _⟩ := k
      have := h.1
      rw [e, hasPrefix_app] at this
      cases this
  | cons a as' ih =>
    intro zs l r s h k
    obtain ⟨q1, q2, e, ha, hr⟩ := h
    cases zs with
    | nil =>
      have := k.1
      rw [e, hasPrefix_app] at this
      cases this
    | cons b bs =>
      obtain ⟨p1, p2, f, hb, ks⟩ := k
      rw [e] at f
      obtain rfl := List.append_cancel_left f
      obtain ⟨rfl, rfl⟩ := hinj ha hb
      obtain ⟨rfl, rfl⟩ := ih _ _ _ _ hr ks
      exact ⟨rfl, rfl⟩
theorem LedP.inj {l : List UInt8} {L D : Led} {r s : List UInt8} (h : LedP l L r) (k : LedP l D s) : L = D ∧ r = s := by
  obtain ⟨r0, r1, r2, e, h0, h1, h2, _⟩ := h
  obtain ⟨s0, s1, s2, f, k0, k1, k2, _⟩ := k
  rw [e] at f
  obtain rfl := List.append_cancel_left f
  obtain ⟨q0, rfl⟩ := rows_inj (P := AccP) AccP.inj _ _ _ _ _ h0 k0
  obtain ⟨q1, rfl⟩ := rows_inj (P := HldP) HldP.inj _ _ _ _ _ h1 k1
  obtain ⟨q2, rfl⟩ := rows_inj (P := SnP) SnP.inj _ _ _ _ _ h2 k2
  refine ⟨?_, rfl⟩
  cases L
  cases D
  simp only at q0 q1 q2
  subst q0 q1 q2
  rfl
set_option maxHeartbeats 8000000 in
theorem readWhole_any (l : List UInt8) (t td : TypeId) (v vd : Value) (w : World) (E : Env t v w) (ED : w.cell? ⟨1, 0, none⟩ = some (.iface td vd)) (hl : l.length ≤ 1048576) :
    Calls Tryz.prog 23 #[.string (bs l), .func (.func 24) #[] #[]] w fun e w' => RlEnd l w e w' := by
  have HE : Hid _ := hide E
  have HD : Hid _ := hide ED
  clear E ED
  have hmf : ∀ (fn : Fn) (first cap : Array Value) (w : World), (Instr.makeFunc fn first cap).run Tryz.prog w = .ok (.func fn first cap) w := fun _ _ _ _ => rfl
  go_enter_defers Tryz.func23, Tryz.ntmps23
  go_upto_region 3 with fail
  refine cnm_world (fun W3 hW3 => ?_)
  have HP3 : Hid (Pool [] w [[blk w.heap.size [.slice none 0 0, .slice none 0 0, .slice none 0 0]], [blk (w.heap.size + 1) [.bool false]], [blk (w.heap.size + 1 + 1) [.string (bs l)]], []] W3) := hide (by
    have p1 := (Pool.start w [[], [], [], []] rfl).newBlk (i := 0) rfl [.slice none 0 0, .slice none 0 0, .slice none 0 0] 28
    have s1 : (w.alloc (.cells ([.slice none 0 0, .slice none 0 0, .slice none 0 0] : List Value).toArray 28)).heap.size = w.heap.size + 1 := by simp
    have p2 := p1.newBlk (i := 1) rfl [.bool false] 4
    rw [s1] at p2
    have s2 : ((w.alloc (.cells ([.slice none 0 0, .slice none 0 0, .slice none 0 0] : List Value).toArray 28)).alloc (.cells [.bool false].toArray 4)).heap.size = w.heap.size + 1 + 1 := by simp
    have p3 := p2.newBlk (i := 2) rfl [.string (bs l)] 91
    rw [s2] at p3
    rw [hW3]; exact p3)
  clear hW3
  obtain ⟨A, hA⟩ : ∃ A, A = w.heap.size := ⟨_, rfl⟩
  obtain ⟨R, hR⟩ : ∃ R, R = w.heap.size + 1 := ⟨_, rfl⟩
  obtain ⟨B, hB⟩ : ∃ B, B = w.heap.size + 1 + 1 := ⟨_, rfl⟩
  rw [← hB, ← hR, ← hA] at HP3
  rw [← hB, ← hR, ← hA]
  have HBB : Hid (w.heap.size ≤ B) := hide (by omega)
  clear hA hR hB
  go_wp2_with fail
  refine (ledgerFrom_end B l t td v vd w W3 HE.out HD.out ⟨HP3.out.below, HBB.out, HP3.out.blkAt (i := 2) rfl⟩ hl).mono ?_
  rintro e w4 (⟨L, p, r, hp, hw, hpl, hsz, rfl, hr⟩ | ⟨hno, rfl, l5, hr⟩)
  · have HPr : Hid _ := hide hp
    have HI : Hid (LedW L ∧ PlOk p L ∧ (L.acc.length ≤ 1048576 ∧ L.hold.length ≤ 1048576 ∧ L.seen.length ≤ 1048576)) := hide ⟨hw, hpl, hsz⟩
    have HP4 : Hid (Pool [] w [[blk A [.slice none 0 0, .slice none 0 0, .slice none 0 0]], [blk R [.bool false]], [blk B [.string (bs r)]], ledL p L] w4) := hide (by
      have z := HP3.out.call (i := 2) (rs := [blk B [.string (bs l)]]) (rs' := [blk B [.string (bs r)]] ++ ledL p L) rfl (by simpa [fps, blk] using hr.cast (S' := [[blk B [.string (bs r)]] ++ ledL p L]) (by simp))
      exact z.cast (by simp))
    clear hp hr HP3 hw hpl hsz
    obtain ⟨⟨z0, z1, z2⟩, y0, y1, y2⟩ := HP4.out.cells3 (i := 0) rfl
    unfold ledV
    go_upto_region 4 with fail
    refine cnm_world (fun W5 hW5 => ?_)
    have HP5 : Hid (Pool [] w [[blk A [.slice p.aa L.acc.length p.ca, .slice p.ha L.hold.length p.ch, .slice p.sa L.seen.length p.cs]], [blk R [.bool false]], [blk B [.string (bs r)]], ledL p L] W5) := hide (by
      have p1 := HP4.out.setN3 (i := 0) rfl (.slice p.aa L.acc.length p.ca) (.slice p.ha L.hold.length p.ch) (.slice p.sa L.seen.length p.cs)
      rw [hW5]; exact p1)
    clear hW5 HP4 z0 z1 z2 y0 y1 y2
    have d_0 := (HP5.out.blkAt (i := 2) rfl).c 0 _ rfl
    cases hr : r.isEmpty
    · have hr' : (bs r).toList.isEmpty = false := by rw [isEmpty_bs]; exact hr
      have HNr : Hid (r ≠ []) := hide (fun z => by rw [z] at hr; cases hr)
      clear hr
      go_wp2_with fail
      refine (want_no _ t v _ (HE.out.below HP5.out.below)).mono ?_
      rintro e w6 ⟨rfl, hw⟩
      rw [hw]
      clear hw
      unfold gaveUp
      go_wp2_with fail
      refine leaves_cons (f := 56) (args := #[.pointer (some ⟨A, 0, none⟩), .pointer (some ⟨R, 0, none⟩)]) (by simp) (by simp [go_sem]) ?_
      refine (catch_panic A R _ _ _ false ⟨_, _, _, _, _, _, _, _, _, rfl, rfl, rfl⟩ t v [] w _ _ HP5.out).mono ?_
      rintro e u' w7 ⟨rfl, rfl, hp7⟩
      obtain ⟨⟨z0, z1, z2⟩, _⟩ := hp7.cells3 (i := 0) rfl
      have q0 := (hp7.blkAt (i := 1) rfl).c 0 _ rfl
      have hfin : RlEnd l w (.returned (.tuple #[.agg #[.slice none 0 0, .slice none 0 0, .slice none 0 0], .bool false])) w7 := ⟨nilL, nilP, false, ⟨fun z => (by cases z), fun _ => ⟨fun D hD => HNr.out (HPr.out.inj hD).2, rfl, rfl⟩, nilL_w, nilP_ok, by simp [nilL]⟩, rfl, (((((((hp7.drop (i := 0) rfl).drop (i := 1) rfl).drop (i := 2) rfl).drop (i := 3) rfl)).nilLed (i := 0) rfl).cast (by simp))⟩
      simp [Leaves, settle, results, Tryz.results23, go_sem, z0, z1, z2, q0, hfin]
    · have hr' : (bs r).toList.isEmpty = true := by rw [isEmpty_bs]; exact hr
      have HNr : Hid (r = []) := hide (by simpa using hr)
      clear hr
      go_wp2_with fail
      refine (want_yes _ _).mono ?_
      rintro e w6 ⟨rfl, hw⟩
      rw [hw]
      clear hw
      obtain ⟨⟨z0, z1, z2⟩, y0, y1, y2⟩ := HP5.out.cells3 (i := 0) rfl
      have p2 := HP5.out.setN3 (i := 0) rfl (.slice p.aa L.acc.length p.ca) (.slice p.ha L.hold.length p.ch) (.slice p.sa L.seen.length p.cs)
      have q0 := (p2.blkAt (i := 1) rfl).c 0 _ rfl
      have qf := (p2.blkAt (i := 1) rfl).f 0
      have p3 := p2.setBlk (i := 1) rfl 0 (.bool true) (by simp)
      have HP8 : Hid _ := hide p3
      clear p2 p3
      go_wp2_with fail
      refine leaves_cons (f := 56) (args := #[.pointer (some ⟨A, 0, none⟩), .pointer (some ⟨R, 0, none⟩)]) (by simp) (by simp [go_sem]) ?_
      refine (catch_idle _ _ _).mono ?_
      rintro e u' w7 ⟨rfl, rfl, hw7⟩
      have hp7 := HP8.out
      rw [← hw7] at hp7
      clear hw7
      obtain ⟨⟨x0, x1, x2⟩, _⟩ := hp7.cells3 (i := 0) rfl
      have g0 := (hp7.blkAt (i := 1) rfl).c 0 _ rfl
      have hfin : RlEnd l w (.returned (.tuple #[ledV p L, .bool true])) w7 := ⟨L, p, true, ⟨fun _ => HNr.out ▸ HPr.out, fun z => (by cases z), HI.out.1, HI.out.2.1, HI.out.2.2⟩, rfl, (((hp7.drop (i := 0) rfl).drop (i := 1) rfl).drop (i := 2) rfl).cast (by simp)⟩
      unfold ledV at hfin
      simp [Leaves, settle, results, Tryz.results23, go_sem, x0, x1, x2, g0, hfin]
  · have HNo : Hid _ := hide hno
    have HP4 : Hid (Pool [] w [[blk A [.slice none 0 0, .slice none 0 0, .slice none 0 0]], [blk R [.bool false]], [blk B [.string (bs l5)]], []] w4) := hide (HP3.out.rdAt (i := 2) rfl hr)
    clear hno hr HP3
    unfold gaveUp
    go_wp2_with fail
    refine leaves_cons (f := 56) (args := #[.pointer (some ⟨A, 0, none⟩), .pointer (some ⟨R, 0, none⟩)]) (by simp) (by simp [go_sem]) ?_
    refine (catch_panic A R _ _ _ false ⟨_, _, _, _, _, _, _, _, _, rfl, rfl, rfl⟩ t v [] w _ _ HP4.out).mono ?_
    rintro e u' w7 ⟨rfl, rfl, hp7⟩
    obtain ⟨⟨z0, z1, z2⟩, _⟩ := hp7.cells3 (i := 0) rfl
    have q0 := (hp7.blkAt (i := 1) rfl).c 0 _ rfl
    have hfin : RlEnd l w (.returned (.tuple #[.agg #[.slice none 0 0, .slice none 0 0, .slice none 0 0], .bool false])) w7 := ⟨nilL, nilP, false, ⟨fun z => (by cases z), fun _ => ⟨fun D hD => HNo.out D _ hD, rfl, rfl⟩, nilL_w, nilP_ok, by simp [nilL]⟩, rfl, (((((((hp7.drop (i := 0) rfl).drop (i := 1) rfl).drop (i := 2) rfl).drop (i := 3) rfl)).nilLed (i := 0) rfl).cast (by simp))⟩
    simp [Leaves, settle, results, Tryz.results23, go_sem, z0, z1, z2, q0, hfin]
set_option maxHeartbeats 4000000 in
theorem implReadLedger_any (l : List UInt8) (t td : TypeId) (v vd : Value) (w : World) (E : Env t v w) (ED : w.cell? ⟨1, 0, none⟩ = some (.iface td vd)) (hl : l.length ≤ 1048576) :
    Calls Tryz.prog 8 #[.string (bs l)] w fun e w' => RlEnd l w e w' := by
  have HE : Hid _ := hide E
  have HD : Hid _ := hide ED
  clear E ED
  go_enter Tryz.func8, Tryz.ntmps8
  go_wp2_with fail
  refine cnm_calls (fun W1 hW1 => ?_)
  have HP1 : Hid (Pool [] w [[blk w.heap.size [.slice none 0 0, .slice none 0 0, .slice none 0 0]], []] W1) := hide (by
    have p1 := (Pool.start w [[], []] rfl).newBlk (i := 0) rfl [.slice none 0 0, .slice none 0 0, .slice none 0 0] 28
    rw [hW1]; exact p1)
  clear hW1
  refine (readWhole_any l t td v vd W1 (HE.out.below HP1.out.below) (below_keeps HP1.out.below _ _ HD.out) hl).mono ?_
  rintro e w2 ⟨L, p, b, hi, rfl, h2⟩
  have HI : Hid _ := hide hi
  have HP2 : Hid (Pool [] w [[blk w.heap.size [.slice none 0 0, .slice none 0 0, .slice none 0 0]], ledL p L] w2) := hide (HP1.out.call (i := 1) (rs := []) rfl (by simpa [fps] using h2))
  clear h2 HP1 hi
  obtain ⟨⟨z0, z1, z2⟩, y0, y1, y2⟩ := HP2.out.cells3 (i := 0) rfl
  have p1 := HP2.out.setN3 (i := 0) rfl (.slice p.aa L.acc.length p.ca) (.slice p.ha L.hold.length p.ch) (.slice p.sa L.seen.length p.cs)
  obtain ⟨⟨x0, x1, x2⟩, _⟩ := p1.cells3 (i := 0) rfl
  have HB : Hid (Pool [] w [ledL p L] _) := hide ((p1.drop (i := 0) rfl).cast (by simp))
  clear p1
  unfold ledV
  go_wp2_with fail
  refine bodyPost_ret (v := .tuple #[ledV p L, .bool b]) (by simp [results, Tryz.results8, go_sem, x0, x1, x2, ledV]) rfl ⟨L, p, b, HI.out, rfl, HB.out⟩
end Go.Proofs.YteaopalhbnhbaaaGreatDoor
