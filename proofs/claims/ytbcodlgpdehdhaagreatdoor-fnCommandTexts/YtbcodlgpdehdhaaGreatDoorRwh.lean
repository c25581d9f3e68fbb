/- Where a reader's panic ends: readWhole at a command; ReadCommand. -/
import Derived.Test.YtbcodlgpdehdhaaGreatDoorRcc
import Derived.Defers
import Derived.Recover
namespace Go.Proofs.YtbcodlgpdehdhaaGreatDoor
open Go.ChangeShapes Go.WideShapes Go.ChangeAt Go.RowKit Go.Lib
set_option linter.unusedVariables false
set_option maxRecDepth 100000
set_option maxHeartbeats 4000000 in
theorem catch_idle (p q : Addr) (w : World) :
    CallsD Tryz.prog 39 #[.pointer (some p), .pointer (some q)] .returning w fun e u' w' => e = .returned (.tuple #[]) ∧ u' = .returning ∧ w' = w := by
  refine callsD_of_wpS Tryz.func39 rfl fun c₀ cs hu => ?_
  apply wpS_seq
  apply wpS_region
  simp [wpOpsS, go_sem, recoverD, hu, Tryz.ntmps39, Exit.thenS]
  refine wpS_cond (t := false) (by simp [Act.eval, Array.replicate]) ?_
  simp only [Bool.false_eq_true, if_false]
  refine wpS_of_wp (wp_skip ?_)
  cases c₀
  simp_all [bodyPostS, results, Tryz.results39]
set_option maxHeartbeats 4000000 in
theorem catch_panic (A R : Nat) (c : Cm) (b : Bool) (u : TypeId) (pv : Value) (older : List PanicEntry) (w0 w : World) (S : List (List Rs)) (h : Pool [] w0 ([blk A c.cells] :: [blk R [.bool b]] :: S) w) :
    CallsD Tryz.prog 39 #[.pointer (some ⟨A, 0, none⟩), .pointer (some ⟨R, 0, none⟩)] (.panicking ({ v := .iface u pv, recovered := false } :: older)) w fun e u' w' =>
      e = .returned (.tuple #[]) ∧ u' = .panicking ({ v := .iface u pv, recovered := true } :: older) ∧ Pool [] w0 ([blk A [.int .i64 0, .int .i64 0, .string ⟨#[]⟩, .string ⟨#[]⟩, .int .i64 0, .int .i64 0]] :: [blk R [.bool false]] :: S) w' := by
  have HP : Hid _ := hide h
  clear h
  refine callsD_of_wpS Tryz.func39 rfl fun c₀ cs hu => ?_
  apply wpS_seq
  apply wpS_region
  simp [wpOpsS, go_sem, recoverD, hu, Tryz.ntmps39, Exit.thenS]
  refine wpS_cond (t := true) (by simp [Act.eval, Array.replicate]) ?_
  simp only [if_true]
  refine wpS_of_wp ?_
  go_upto_region 2 with fail
  refine cnm_world (fun W1 hW1 => ?_)
  have e_0 : W1.cell? ⟨w.heap.size, 0, none⟩ = some (.int .i64 0) := by rw [hW1]; simp
  have e_1 : W1.cell? ⟨w.heap.size, 1, none⟩ = some (.int .i64 0) := by rw [hW1]; simp
  have e_2 : W1.cell? ⟨w.heap.size, 2, none⟩ = some (.string ⟨#[]⟩) := by rw [hW1]; simp
  have e_3 : W1.cell? ⟨w.heap.size, 3, none⟩ = some (.string ⟨#[]⟩) := by rw [hW1]; simp
  have e_4 : W1.cell? ⟨w.heap.size, 4, none⟩ = some (.int .i64 0) := by rw [hW1]; simp
  have e_5 : W1.cell? ⟨w.heap.size, 5, none⟩ = some (.int .i64 0) := by rw [hW1]; simp
  have h1 : Pool [] w0 ([blk A c.cells] :: [blk R [.bool b]] :: S) W1 := by rw [hW1]; exact HP.out.alloc _
  clear hW1
  have z_0 := (h1.blkAt (i := 0) rfl).c 0 _ rfl
  have z_1 := (h1.blkAt (i := 0) rfl).c 1 _ rfl
  have z_2 := (h1.blkAt (i := 0) rfl).c 2 _ rfl
  have z_3 := (h1.blkAt (i := 0) rfl).c 3 _ rfl
  have z_4 := (h1.blkAt (i := 0) rfl).c 4 _ rfl
  have z_5 := (h1.blkAt (i := 0) rfl).c 5 _ rfl
  have y_0 := (h1.blkAt (i := 0) rfl).f 0
  have y_1 := (h1.blkAt (i := 0) rfl).f 1
  have y_2 := (h1.blkAt (i := 0) rfl).f 2
  have y_3 := (h1.blkAt (i := 0) rfl).f 3
  have y_4 := (h1.blkAt (i := 0) rfl).f 4
  have y_5 := (h1.blkAt (i := 0) rfl).f 5
  have q_0 := (h1.blkAt (i := 1) rfl).c 0 _ rfl
  have p_0 := (h1.blkAt (i := 1) rfl).f 0
  have h2 := h1.set6 (i := 0) rfl (.int .i64 0) (.int .i64 0) (.string ⟨#[]⟩) (.string ⟨#[]⟩) (.int .i64 0) (.int .i64 0)
  have q_0 := (h2.blkAt (i := 1) rfl).c 0 _ rfl
  have p_0 := (h2.blkAt (i := 1) rfl).f 0
  have HQ : Hid (Pool [] w0 ([blk A [.int .i64 0, .int .i64 0, .string ⟨#[]⟩, .string ⟨#[]⟩, .int .i64 0, .int .i64 0]] :: [blk R [.bool false]] :: S) _) := hide (h2.setBlk (i := 1) rfl 0 (.bool false) (by simp))
  clear h1 h2
  go_wp2
  have hq := HQ.out
  simp [bodyPostS, results, Tryz.results39, hq]
theorem Pool.rdAt {F : List Nat} {B : Nat} {w x y : World} {l l' : List UInt8} {S : List (List Rs)} (h : Pool F w S x) {i : Nat} (hi : S[i]? = some [blk B [.string (bs l)]]) (k : RdTo B l' x y) : Pool F w (S.set i [blk B [.string (bs l')]]) y :=
  h.step hi (by simpa [fps, blk] using k.2) (Star.ofBlk k.1) (fun b hb => .inl hb)
theorem Pool.cells6 {F : List Nat} {w x : World} {S : List (List Rs)} (h : Pool F w S x) {i A : Nat} {v0 v1 v2 v3 v4 v5 : Value} (hi : S[i]? = some [blk A [v0, v1, v2, v3, v4, v5]]) :
    (x.cell? ⟨A, 0, none⟩ = some v0 ∧ x.cell? ⟨A, 1, none⟩ = some v1 ∧ x.cell? ⟨A, 2, none⟩ = some v2 ∧ x.cell? ⟨A, 3, none⟩ = some v3 ∧ x.cell? ⟨A, 4, none⟩ = some v4 ∧ x.cell? ⟨A, 5, none⟩ = some v5) ∧
    (x.frozen? ⟨A, 0, none⟩ = false ∧ x.frozen? ⟨A, 1, none⟩ = false ∧ x.frozen? ⟨A, 2, none⟩ = false ∧ x.frozen? ⟨A, 3, none⟩ = false ∧ x.frozen? ⟨A, 4, none⟩ = false ∧ x.frozen? ⟨A, 5, none⟩ = false) :=
  ⟨⟨(h.blkAt hi).c 0 _ rfl, (h.blkAt hi).c 1 _ rfl, (h.blkAt hi).c 2 _ rfl, (h.blkAt hi).c 3 _ rfl, (h.blkAt hi).c 4 _ rfl, (h.blkAt hi).c 5 _ rfl⟩, ⟨(h.blkAt hi).f 0, (h.blkAt hi).f 1, (h.blkAt hi).f 2, (h.blkAt hi).f 3, (h.blkAt hi).f 4, (h.blkAt hi).f 5⟩⟩
/-- what readWhole answers -/
def RwEnd (l : List UInt8) (w : World) (e : Ending) (w' : World) : Prop :=
  Below w.heap.size w w' ∧ ((∃ c, ParseOk l c [] ∧ e = .returned (.tuple #[c.v, .bool true])) ∨ ((∀ c, ¬ ParseOk l c []) ∧ e = .returned (.tuple #[.agg #[.int .i64 0, .int .i64 0, .string ⟨#[]⟩, .string ⟨#[]⟩, .int .i64 0, .int .i64 0], .bool false])))
theorem isEmpty_bs (r : List UInt8) : (bs r).toList.isEmpty = r.isEmpty := by rw [Lib.toList_data, bs_list]
theorem ParseOk.rest {l : List UInt8} {c c' : Cm} {r r' : List UInt8} (h : ParseOk l c r) (k : ParseOk l c' r') : r = r' := by
  obtain ⟨a1, r1, e1, k1, h1, _⟩ := h
  obtain ⟨a2, r1', e1', k1', h1', _⟩ := k
  rw [e1] at e1'
  cases e1'
  have ek := wordL_inj ⟨k1.1, k1.2.1⟩ ⟨k1'.1, k1'.2.1⟩ (k1.2.2.trans k1'.2.2.symm)
  rcases h1 with ⟨q, r2, e2, _, _, _, _, e3⟩ | ⟨q, r2, r3, r4, e2, _, e3, _, e4, _, _, e5⟩
  · rcases h1' with ⟨q', r2', e2', _, _, _, _, e3'⟩ | ⟨q', _⟩
    · rw [e2] at e2'
      cases e2'
      rw [e3, e3']
    · exact absurd (by rw [← ek]; exact q) q'
  · rcases h1' with ⟨q', _⟩ | ⟨q', r2', r3', r4', e2', _, e3', _, e4', _, _, e5'⟩
    · exact absurd (by rw [ek]; exact q') q
    · rw [e2] at e2'
      cases e2'
      rw [e3] at e3'
      cases e3'
      rw [e4] at e4'
      cases e4'
      rw [e5, e5']
set_option maxHeartbeats 8000000 in
theorem readWhole_any (l : List UInt8) (t : TypeId) (v : Value) (w : World) (E : Env t v w) (hl : l.length ≤ 1048576) :
    Calls Tryz.prog 18 #[.string (bs l), .func (.func 19) #[] #[]] w fun e w' => RwEnd l w e w' := by
  have HE : Hid _ := hide E
  clear E
  have hmf : ∀ (fn : Fn) (first cap : Array Value) (w : World), (Instr.makeFunc fn first cap).run Tryz.prog w = .ok (.func fn first cap) w := fun _ _ _ _ => rfl
  go_enter_defers Tryz.func18, Tryz.ntmps18
  go_upto_region 3 with fail
  refine cnm_world (fun W3 hW3 => ?_)
  have HP3 : Hid (Pool [] w [[blk w.heap.size (⟨0, 0, ⟨#[]⟩, ⟨#[]⟩, 0, 0⟩ : Cm).cells], [blk (w.heap.size + 1) [.bool false]], [blk (w.heap.size + 1 + 1) [.string (bs l)]]] W3) := hide (by
    have p1 := (Pool.start w [[], [], []] rfl).newBlk (i := 0) rfl (⟨0, 0, ⟨#[]⟩, ⟨#[]⟩, 0, 0⟩ : Cm).cells 25
    have s1 : (w.alloc (.cells (⟨0, 0, ⟨#[]⟩, ⟨#[]⟩, 0, 0⟩ : Cm).cells.toArray 25)).heap.size = w.heap.size + 1 := by simp
    have p2 := p1.newBlk (i := 1) rfl [.bool false] 4
    rw [s1] at p2
    have s2 : ((w.alloc (.cells (⟨0, 0, ⟨#[]⟩, ⟨#[]⟩, 0, 0⟩ : Cm).cells.toArray 25)).alloc (.cells [.bool false].toArray 4)).heap.size = w.heap.size + 1 + 1 := by simp
    have p3 := p2.newBlk (i := 2) rfl [.string (bs l)] 80
    rw [s2] at p3
    rw [hW3]; exact p3)
  clear hW3
  obtain ⟨A, hA⟩ : ∃ A, A = w.heap.size := ⟨_, rfl⟩
  obtain ⟨R, hR⟩ : ∃ R, R = w.heap.size + 1 := ⟨_, rfl⟩
  obtain ⟨B, hB⟩ : ∃ B, B = w.heap.size + 1 + 1 := ⟨_, rfl⟩
  rw [← hB, ← hR, ← hA] at HP3
  rw [← hB, ← hR, ← hA]
  have HBB : Hid (w.heap.size ≤ B) := hide (by omega)
  clear hA hR hB
  go_wp2_with fail
  refine (commandFrom_any B l t v w W3 HE.out ⟨HP3.out.below, HBB.out, HP3.out.blkAt (i := 2) rfl⟩ hl).mono ?_
  rintro e w4 (⟨c, r, hp, rfl, hr⟩ | ⟨hno, rfl, l5, hr⟩)
  · have HPr : Hid _ := hide hp
    have HP4 : Hid (Pool [] w [[blk A (⟨0, 0, ⟨#[]⟩, ⟨#[]⟩, 0, 0⟩ : Cm).cells], [blk R [.bool false]], [blk B [.string (bs r)]]] w4) := hide (HP3.out.rdAt (i := 2) rfl hr)
    clear hp hr HP3
    obtain ⟨⟨z0, z1, z2, z3, z4, z5⟩, y0, y1, y2, y3, y4, y5⟩ := HP4.out.cells6 (i := 0) rfl
    unfold Cm.v
    go_upto_region 4 with fail
    refine cnm_world (fun W5 hW5 => ?_)
    have HP5 : Hid (Pool [] w [[blk A c.cells], [blk R [.bool false]], [blk B [.string (bs r)]]] W5) := hide (by
      have p1 := HP4.out.set6 (i := 0) rfl (.int .i64 c.id) (.int .i64 c.kind) (.string c.fr) (.string c.«to») (.int .i64 c.am) (.int .i64 c.ref)
      rw [hW5]; exact p1)
    clear hW5 HP4 z0 z1 z2 z3 z4 z5 y0 y1 y2 y3 y4 y5
    have d_0 := (HP5.out.blkAt (i := 2) rfl).c 0 _ rfl
    cases hr : r.isEmpty
    · have hr' : (bs r).toList.isEmpty = false := by rw [isEmpty_bs]; exact hr
      have HNr : Hid (r ≠ []) := hide (fun z => by rw [z] at hr; cases hr)
      clear hr
      go_wp2_with fail
      refine (want_no _ t v _ (HE.out.below HP5.out.below)).mono ?_
      rintro e w6 ⟨rfl, hw⟩
      rw [hw]
      clear hw
      unfold gaveUp
      go_wp2_with fail
      refine leaves_cons (f := 39) (args := #[.pointer (some ⟨A, 0, none⟩), .pointer (some ⟨R, 0, none⟩)]) (by simp) (by simp [go_sem]) ?_
      refine (catch_panic A R c false t v [] w _ _ HP5.out).mono ?_
      rintro e u' w7 ⟨rfl, rfl, hp7⟩
      obtain ⟨⟨z0, z1, z2, z3, z4, z5⟩, _⟩ := hp7.cells6 (i := 0) rfl
      have q0 := (hp7.blkAt (i := 1) rfl).c 0 _ rfl
      have hfin : RwEnd l w (.returned (.tuple #[.agg #[.int .i64 0, .int .i64 0, .string ⟨#[]⟩, .string ⟨#[]⟩, .int .i64 0, .int .i64 0], .bool false])) w7 := ⟨hp7.below, .inr ⟨fun c' hc' => HNr.out (HPr.out.rest hc'), rfl⟩⟩
      simp [Leaves, settle, results, Tryz.results18, go_sem, z0, z1, z2, z3, z4, z5, q0, hfin]
    · have hr' : (bs r).toList.isEmpty = true := by rw [isEmpty_bs]; exact hr
      have HNr : Hid (r = []) := hide (by simpa using hr)
      clear hr
      go_wp2_with fail
      refine (want_yes _ _).mono ?_
      rintro e w6 ⟨rfl, hw⟩
      rw [hw]
      clear hw
      obtain ⟨⟨z0, z1, z2, z3, z4, z5⟩, y0, y1, y2, y3, y4, y5⟩ := HP5.out.cells6 (i := 0) rfl
      have p2 := HP5.out.set6 (i := 0) rfl (.int .i64 c.id) (.int .i64 c.kind) (.string c.fr) (.string c.«to») (.int .i64 c.am) (.int .i64 c.ref)
      have q0 := (p2.blkAt (i := 1) rfl).c 0 _ rfl
      have qf := (p2.blkAt (i := 1) rfl).f 0
      have p3 := p2.setBlk (i := 1) rfl 0 (.bool true) (by simp)
      have HP8 : Hid _ := hide p3
      clear p2 p3
      go_wp2_with fail
      refine leaves_cons (f := 39) (args := #[.pointer (some ⟨A, 0, none⟩), .pointer (some ⟨R, 0, none⟩)]) (by simp) (by simp [go_sem]) ?_
      refine (catch_idle _ _ _).mono ?_
      rintro e u' w7 ⟨rfl, rfl, hw7⟩
      have hp7 := HP8.out
      rw [← hw7] at hp7
      clear hw7
      obtain ⟨⟨x0, x1, x2, x3, x4, x5⟩, _⟩ := hp7.cells6 (i := 0) rfl
      have g0 := (hp7.blkAt (i := 1) rfl).c 0 _ rfl
      have hfin : RwEnd l w (.returned (.tuple #[c.v, .bool true])) w7 := ⟨hp7.below, .inl ⟨c, HNr.out ▸ HPr.out, rfl⟩⟩
      unfold Cm.v at hfin
      simp [Leaves, settle, results, Tryz.results18, go_sem, x0, x1, x2, x3, x4, x5, g0, hfin]
  · have HNo : Hid _ := hide hno
    have HP4 : Hid (Pool [] w [[blk A (⟨0, 0, ⟨#[]⟩, ⟨#[]⟩, 0, 0⟩ : Cm).cells], [blk R [.bool false]], [blk B [.string (bs l5)]]] w4) := hide (HP3.out.rdAt (i := 2) rfl hr)
    clear hno hr HP3
    unfold gaveUp
    go_wp2_with fail
    refine leaves_cons (f := 39) (args := #[.pointer (some ⟨A, 0, none⟩), .pointer (some ⟨R, 0, none⟩)]) (by simp) (by simp [go_sem]) ?_
    refine (catch_panic A R _ false t v [] w _ _ HP4.out).mono ?_
    rintro e u' w7 ⟨rfl, rfl, hp7⟩
    obtain ⟨⟨z0, z1, z2, z3, z4, z5⟩, _⟩ := hp7.cells6 (i := 0) rfl
    have q0 := (hp7.blkAt (i := 1) rfl).c 0 _ rfl
    have hfin : RwEnd l w (.returned (.tuple #[.agg #[.int .i64 0, .int .i64 0, .string ⟨#[]⟩, .string ⟨#[]⟩, .int .i64 0, .int .i64 0], .bool false])) w7 := ⟨hp7.below, .inr ⟨fun c' hc' => HNo.out c' _ hc', rfl⟩⟩
    simp [Leaves, settle, results, Tryz.results18, go_sem, z0, z1, z2, z3, z4, z5, q0, hfin]
set_option maxHeartbeats 4000000 in
theorem implReadCommand_any (l : List UInt8) (t : TypeId) (v : Value) (w : World) (E : Env t v w) (hl : l.length ≤ 1048576) :
    Calls Tryz.prog 7 #[.string (bs l)] w fun e w' => RwEnd l w e w' := by
  have HE : Hid _ := hide E
  clear E
  go_enter Tryz.func7, Tryz.ntmps7
  go_wp2_with fail
  refine cnm_calls (fun W1 hW1 => ?_)
  have HP1 : Hid (Pool [] w [[blk w.heap.size (⟨0, 0, ⟨#[]⟩, ⟨#[]⟩, 0, 0⟩ : Cm).cells]] W1) := hide (by
    have p1 := (Pool.start w [[]] rfl).newBlk (i := 0) rfl (⟨0, 0, ⟨#[]⟩, ⟨#[]⟩, 0, 0⟩ : Cm).cells 25
    rw [hW1]; exact p1)
  clear hW1
  refine (readWhole_any l t v W1 (HE.out.below HP1.out.below) hl).mono ?_
  rintro e w2 ⟨hb2, h2⟩
  have HP2 : Hid (Pool [] w [[blk w.heap.size (⟨0, 0, ⟨#[]⟩, ⟨#[]⟩, 0, 0⟩ : Cm).cells]] w2) := hide (HP1.out.keep hb2)
  clear hb2 HP1
  obtain ⟨⟨z0, z1, z2, z3, z4, z5⟩, y0, y1, y2, y3, y4, y5⟩ := HP2.out.cells6 (i := 0) rfl
  rcases h2 with ⟨c, hp, rfl⟩ | ⟨hno, rfl⟩
  · have HPr : Hid _ := hide hp
    clear hp
    have p1 := HP2.out.set6 (i := 0) rfl (.int .i64 c.id) (.int .i64 c.kind) (.string c.fr) (.string c.«to») (.int .i64 c.am) (.int .i64 c.ref)
    obtain ⟨⟨x0, x1, x2, x3, x4, x5⟩, _⟩ := p1.cells6 (i := 0) rfl
    have HB : Hid _ := hide p1.below
    clear p1
    unfold Cm.v
    go_wp2_with fail
    refine bodyPost_ret (v := .tuple #[c.v, .bool true]) (by simp [results, Tryz.results7, go_sem, x0, x1, x2, x3, x4, x5, Cm.v]) rfl ⟨HB.out, .inl ⟨c, HPr.out, rfl⟩⟩
  · have HNo : Hid _ := hide hno
    clear hno
    have p1 := HP2.out.set6 (i := 0) rfl (.int .i64 0) (.int .i64 0) (.string ⟨#[]⟩) (.string ⟨#[]⟩) (.int .i64 0) (.int .i64 0)
    obtain ⟨⟨x0, x1, x2, x3, x4, x5⟩, _⟩ := p1.cells6 (i := 0) rfl
    have HB : Hid _ := hide p1.below
    clear p1
    go_wp2_with fail
    refine bodyPost_ret (v := .tuple #[.agg #[.int .i64 0, .int .i64 0, .string ⟨#[]⟩, .string ⟨#[]⟩, .int .i64 0, .int .i64 0], .bool false]) (by simp [results, Tryz.results7, go_sem, x0, x1, x2, x3, x4, x5]) rfl ⟨HB.out, .inr ⟨HNo.out, rfl⟩⟩
end Go.Proofs.YtbcodlgpdehdhaaGreatDoor
