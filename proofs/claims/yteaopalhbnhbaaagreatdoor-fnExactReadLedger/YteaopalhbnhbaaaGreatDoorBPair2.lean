/- The contract of the pair of the book. -/
import Derived.Test.YteaopalhbnhbaaaGreatDoorBPair
namespace Go.Proofs.YteaopalhbnhbaaaGreatDoor
open Go.ChangeShapes Go.WideShapes Go.ChangeAt Go.RowKit Go.Maps
set_option linter.unusedVariables false
set_option maxRecDepth 100000
/-- what pair tells -/
def PairEnd (L : Led) (fr tn : ByteArray) (g : Value) (w : World) (e : Ending) (w' : World) : Prop :=
  Below w.heap.size w w' ∧
  ((∃ i j, ∃ hi : i < L.acc.length, ∃ hj : j < L.acc.length, ∃ p r, L.acc[i].name = fr ∧ L.acc[j].name = tn ∧ L.acc[i].cur = L.acc[j].cur ∧ AccBlk w' p L.acc[i] ∧ AccBlk w' r L.acc[j] ∧ e = .returned (.tuple #[.pointer (some ⟨p, 0, none⟩), .pointer (some ⟨r, 0, none⟩), .nilIface])) ∨
   (((∀ i (hi : i < L.acc.length), L.acc[i].name ≠ fr) ∨ ∀ i (hi : i < L.acc.length), L.acc[i].name ≠ tn) ∧ ∃ n, n < w'.heap.size ∧ w.heap.size ≤ n ∧ w'.cell? ⟨n, 0, none⟩ = some (.int .i64 5) ∧ w'.cell? ⟨n, 1, none⟩ = some g ∧ e = .returned (.tuple #[.pointer none, .pointer none, .iface 139 (.pointer (some ⟨n, 0, none⟩))])) ∨
   (∃ i j, ∃ hi : i < L.acc.length, ∃ hj : j < L.acc.length, L.acc[i].name = fr ∧ L.acc[j].name = tn ∧ L.acc[i].cur ≠ L.acc[j].cur ∧ ∃ n, n < w'.heap.size ∧ w.heap.size ≤ n ∧ w'.cell? ⟨n, 0, none⟩ = some (.int .i64 6) ∧ w'.cell? ⟨n, 1, none⟩ = some g ∧ e = .returned (.tuple #[.pointer none, .pointer none, .iface 139 (.pointer (some ⟨n, 0, none⟩))])))
theorem new_denied (w : World) (N : Nat) (code : Int) (g : Value) : Below w.heap.size w ((w.drewN N).alloc (.cells #[.int .i64 code, g] 141)) ∧ w.heap.size < ((w.drewN N).alloc (.cells #[.int .i64 code, g] 141)).heap.size ∧ ((w.drewN N).alloc (.cells #[.int .i64 code, g] 141)).cell? ⟨w.heap.size, 0, none⟩ = some (.int .i64 code) ∧
    ((w.drewN N).alloc (.cells #[.int .i64 code, g] 141)).cell? ⟨w.heap.size, 1, none⟩ = some g := by
  have hz : (w.drewN N).heap.size = w.heap.size := by simp
  have k0 : ∀ x : World, (x.alloc (.cells #[.int .i64 code, g] 141)).cell? ⟨x.heap.size, 0, none⟩ = some (.int .i64 code) := fun x => by simp
  have k1 : ∀ x : World, (x.alloc (.cells #[.int .i64 code, g] 141)).cell? ⟨x.heap.size, 1, none⟩ = some g := fun x => by simp
  have h1 : ((w.drewN N).alloc (.cells #[.int .i64 code, g] 141)).cell? ⟨(w.drewN N).heap.size, 0, none⟩ = some (.int .i64 code) := k0 _
  have h2 : ((w.drewN N).alloc (.cells #[.int .i64 code, g] 141)).cell? ⟨(w.drewN N).heap.size, 1, none⟩ = some g := k1 _
  rw [hz] at h1 h2
  exact ⟨(drewN_below w N).alloc (by rw [hz]; exact Nat.le_refl _) _, by simp, h1, h2⟩
theorem pair_yes {L : Led} {fr tn : ByteArray} {g : Value} {w x : World} {i j p r : Nat} (hfin : Below w.heap.size w x) (hi : i < L.acc.length) (hj : j < L.acc.length) (h1 : L.acc[i].name = fr) (h2 : L.acc[j].name = tn) (h3 : L.acc[i].cur = L.acc[j].cur) (hp : AccBlk w p L.acc[i]) (hr : AccBlk w r L.acc[j]) :
    PairEnd L fr tn g w (.returned (.tuple #[.pointer (some ⟨p, 0, none⟩), .pointer (some ⟨r, 0, none⟩), .nilIface])) x :=
  ⟨hfin, .inl ⟨i, j, hi, hj, p, r, h1, h2, h3, hp.kept hfin.size (below_keeps hfin), hr.kept hfin.size (below_keeps hfin), rfl⟩⟩
theorem pair_no {L : Led} {fr tn : ByteArray} {g : Value} {w : World} {N : Nat} (h : (∀ i (hi : i < L.acc.length), L.acc[i].name ≠ fr) ∨ ∀ i (hi : i < L.acc.length), L.acc[i].name ≠ tn) :
    PairEnd L fr tn g w (.returned (.tuple #[.pointer none, .pointer none, .iface 139 (.pointer (some ⟨w.heap.size, 0, none⟩))])) ((w.drewN N).alloc (.cells #[.int .i64 5, g] 141)) := by
  obtain ⟨z1, z2, z3, z4⟩ := new_denied w N 5 g
  exact ⟨z1, .inr (.inl ⟨h, _, z2, Nat.le_refl _, z3, z4, rfl⟩)⟩
theorem pair_other {L : Led} {fr tn : ByteArray} {g : Value} {w : World} {N : Nat} {i j : Nat} (hi : i < L.acc.length) (hj : j < L.acc.length) (h1 : L.acc[i].name = fr) (h2 : L.acc[j].name = tn) (h3 : L.acc[i].cur ≠ L.acc[j].cur) :
    PairEnd L fr tn g w (.returned (.tuple #[.pointer none, .pointer none, .iface 139 (.pointer (some ⟨w.heap.size, 0, none⟩))])) ((w.drewN N).alloc (.cells #[.int .i64 6, g] 141)) := by
  obtain ⟨z1, z2, z3, z4⟩ := new_denied w N 6 g
  exact ⟨z1, .inr (.inr ⟨i, j, hi, hj, h1, h2, h3, _, z2, Nat.le_refl _, z3, z4, rfl⟩)⟩
set_option maxHeartbeats 2000000 in
theorem pair_any (q : Nat) (L : Led) (fr tn : ByteArray) (t : TypeId) (v : Value) (w : World) (s1 : fr.size ≤ maxLen) (s2 : tn.size ≤ maxLen) (hB : BookAt w q L) (hg : w.cell? ⟨1, 0, none⟩ = some (.iface t v)) :
    Calls Tryz.prog 74 #[.pointer (some ⟨q, 0, none⟩), .string fr, .string tn] w fun e w' => PairEnd L fr tn (.iface t v) w e w' := by
  have hd : ∀ x : World, ∀ code, x.cell? ⟨1, 0, none⟩ = some (.iface t v) → Calls Tryz.prog 98 #[.int .i64 code] x fun e w' => DeniedEnd code (.iface t v) x e w' := fun x code h => denied_any code t v x h
  obtain ⟨hq, m, h, s, ch, cs, c0, c1, c2, hh, ha, hm⟩ := hB
  clear c1 c2 hh ha
  rcases look_book hm s1 with ⟨i, hi, p, en1, hp, r1⟩ | ⟨no1, r1⟩
  · rcases look_book hm s2 with ⟨j, hj, r, en2, hr, r2⟩ | ⟨no2, r2⟩
    · obtain ⟨p0, p1, p2, p3, p4⟩ := hp
      obtain ⟨t0, t1, t2, t3, t4⟩ := hr
      have HP : Hid (AccBlk w p L.acc[i]) := hide ⟨p0, p1, p2, p3, p4⟩
      have HT : Hid (AccBlk w r L.acc[j]) := hide ⟨t0, t1, t2, t3, t4⟩
      have HN1 : Hid _ := hide en1
      have HN2 : Hid _ := hide en2
      have p2' : w.cell? ⟨p, 1, none⟩ = some (.string L.acc[i].cur) := p2
      have t2' : w.cell? ⟨r, 1, none⟩ = some (.string L.acc[j].cur) := t2
      clear en1 en2 hm p1 p2 p3 p4 t1 t2 t3 t4
      cases q1 : (L.acc[i].cur.toList == L.acc[j].cur.toList)
      · have q1' : (L.acc[i].cur.toList != L.acc[j].cur.toList) = true := by simp [bne, q1]
        have HQ : Hid (L.acc[i].cur ≠ L.acc[j].cur) := hide (fun e => by rw [beq_bytes.2 e] at q1; cases q1)
        go_enter Tryz.func74, Tryz.ntmps74
        go_wp2_with fail
        go_quiet (fail)
        go_wp2_with fail
        go_quiet (fail)
        go_wp2_with (first | (go_at_call 98; refine (hd _ _ (by simpa using hg)).mono ?_; rintro e w1 ⟨rfl, rfl⟩))
        go_ret3
        exact pair_other hi hj HN1.out HN2.out HQ.out
      · have q1' : (L.acc[i].cur.toList != L.acc[j].cur.toList) = false := by simp [bne, q1]
        have HQ : Hid (L.acc[i].cur = L.acc[j].cur) := hide (beq_bytes.1 q1)
        go_enter Tryz.func74, Tryz.ntmps74
        go_wp2_with fail
        go_quiet (fail)
        go_wp2_with fail
        go_quiet (fail)
        go_wp2
        go_ret3
        exact pair_yes (below_drewN (drewN_below w _) _) hi hj HN1.out HN2.out HQ.out HP.out HT.out
    · have HN : Hid _ := hide no2
      clear no2 hp en1 hm
      go_enter Tryz.func74, Tryz.ntmps74
      go_wp2_with fail
      go_quiet (fail)
      go_wp2_with (first | (go_at_call 98; refine (hd _ _ (by simpa using hg)).mono ?_; rintro e w1 ⟨rfl, rfl⟩))
      go_ret3
      exact pair_no (.inr HN.out)
  · have HN : Hid _ := hide no1
    have hr2 : ∃ u, ∀ k, (Instr.lookup 100 (.map (some m)) (.string tn) false).run Tryz.prog (w.drewN k) = .ok u (w.drewN k) := by
      rcases look_book hm s2 with ⟨j, hj, r, en2, hr, r2⟩ | ⟨no2, r2⟩
      · exact ⟨_, r2⟩
      · exact ⟨_, r2⟩
    obtain ⟨u, r2⟩ := hr2
    clear no1 hm
    go_enter Tryz.func74, Tryz.ntmps74
    go_wp2_with fail
    go_quiet (fail)
    go_wp2_with (first | (go_at_call 98; refine (hd _ _ (by simpa using hg)).mono ?_; rintro e w1 ⟨rfl, rfl⟩))
    go_ret3
    exact pair_no (.inl HN.out)
end Go.Proofs.YteaopalhbnhbaaaGreatDoor
