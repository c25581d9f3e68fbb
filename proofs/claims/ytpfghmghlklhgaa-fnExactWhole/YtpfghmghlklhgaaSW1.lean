/- The contracts of the model's l7Node, l6Peer and l7Out. -/
import Derived.Test.YtpfghmghlklhgaaIW2
import Derived.Deep.RegionHeld3
import Derived.Deep.DeepCutAuto
namespace Go.Proofs.Ytpfghmghlklhgaa
open Go.ChangeShapes Go.WideShapes Go.ChangeAt Go.RowKit
set_option linter.unusedVariables false
set_option maxRecDepth 100000

set_option maxHeartbeats 2000000 in
theorem l7Node_any (st : Int) (na : Option Addr) (l : List Nd) (nc : Nat) (ma : Option Addr) (nm mc : Nat) (id : Int) (w : World) (hl : l.length ≤ 1048576) (h : RowAt 6 ndCells w na l) :
    Calls Try.prog 61 #[.agg #[.int .i64 st, .slice na l.length nc, .slice ma nm mc], .int .i64 id] w fun e w' => e = .returned (.int .i64 (ixV (fi (l.map Nd.id) id))) ∧ Below w.heap.size w w' := by
  have HC : Hid _ := hide h
  clear h
  go_enter Try.func61, Try.ntmps61
  go_wp2
  go_loopw [5] (fun i wr => ∃ k : Nat, k ≤ l.length ∧ i = .int .i64 (k : Int) ∧ Below (w.heap.size + 1) (w.alloc (.cells #[.int .i64 st, .slice na l.length nc, .slice ma nm mc] 44)) wr ∧ Hid (∀ j (hj : j < l.length), j < k → l[j].id ≠ id)) (fun i wr => l.length - (intOf i).toNat)
  case atStart => exact ⟨0, Nat.zero_le _, rfl, Below.refl _ _, hide (fun j _ hj => by omega)⟩
  case round =>
    obtain ⟨k, hk, rfl, HB, HN⟩ := hrel
    have x1 := boxN HB 1 _ rfl
    have hbx : w.heap.size < wr.heap.size := box_lt HB
    by_cases hlt : k < l.length
    · obtain ⟨b, off, hpa, hb, c0, _⟩ := nd_row (HC.out.below (box_old HB)) k hlt
      rw [hpa] at x1 ⊢
      have hlt' : (k : Int) < (l.length : Int) := by omega
      cases hq : ((l[k]).id == id)
      · have HS : Hid (∀ j (hj : j < l.length), j < k + 1 → l[j].id ≠ id) := hide (fun j hj hjk => by
          rcases Nat.lt_or_ge j k with h | h
          · exact HN.out j hj h
          · obtain rfl : j = k := by omega
            simpa using hq)
        go_wp2
        exact ⟨⟨k + 1, by omega, by go_num, by rw [hpa] at HB; exact HB, HS⟩, by simp [intOf]; omega⟩
      · have HE : Hid (fi (l.map Nd.id) id = some k) := hide (fi_hit (by simpa using hlt) (by simpa using hq) (fun j hj hjk => by have := HN.out j (by simpa using hj) hjk; simpa using this))
        go_wp2
        go_ret
        exact ⟨by rw [HE.out]; rfl, box_old HB⟩
    · have HE : Hid (fi (l.map Nd.id) id = none) := hide (fi_miss (fun i hi => by have := HN.out i (by simpa using hi) (by have : i < l.length := (by simpa using hi); omega); simpa using this))
      have hk' : ¬ (k : Int) < (l.length : Int) := by omega
      go_wp2
      go_ret
      exact ⟨by rw [HE.out]; rfl, box_old HB⟩

set_option maxHeartbeats 2000000 in
theorem l6Peer_any (n : Nd) (id : Int) (w : World) (hl : n.peers.length ≤ 1048576) (h : RowAt 4 prCells w n.pa n.peers) :
    Calls Try.prog 62 #[.agg #[.int .i64 n.id, .int .i64 n.has, .int .i64 n.spent, .int .i64 n.earned, .slice n.sa n.seen.length n.sc, .slice n.pa n.peers.length n.pc], .int .i64 id] w fun e w' => e = .returned (.int .i64 (ixV (fi (n.peers.map Pr.id) id))) ∧ Below w.heap.size w w' := by
  have HC : Hid _ := hide h
  clear h
  go_enter Try.func62, Try.ntmps62
  go_wp2
  go_loopw [5] (fun i wr => ∃ k : Nat, k ≤ n.peers.length ∧ i = .int .i64 (k : Int) ∧ Below (w.heap.size + 1) (w.alloc (.cells #[.int .i64 n.id, .int .i64 n.has, .int .i64 n.spent, .int .i64 n.earned, .slice n.sa n.seen.length n.sc, .slice n.pa n.peers.length n.pc] 31)) wr ∧ Hid (∀ j (hj : j < n.peers.length), j < k → n.peers[j].id ≠ id)) (fun i wr => n.peers.length - (intOf i).toNat)
  case atStart => exact ⟨0, Nat.zero_le _, rfl, Below.refl _ _, hide (fun j _ hj => by omega)⟩
  case round =>
    obtain ⟨k, hk, rfl, HB, HN⟩ := hrel
    have x1 := boxN HB 5 _ rfl
    have hbx : w.heap.size < wr.heap.size := box_lt HB
    by_cases hlt : k < n.peers.length
    · obtain ⟨b, off, hpa, hb, c0, _⟩ := pr_row (HC.out.below (box_old HB)) k hlt
      rw [hpa] at x1 ⊢
      have hlt' : (k : Int) < (n.peers.length : Int) := by omega
      cases hq : ((n.peers[k]).id == id)
      · have HS : Hid (∀ j (hj : j < n.peers.length), j < k + 1 → n.peers[j].id ≠ id) := hide (fun j hj hjk => by
          rcases Nat.lt_or_ge j k with h | h
          · exact HN.out j hj h
          · obtain rfl : j = k := by omega
            simpa using hq)
        go_wp2
        exact ⟨⟨k + 1, by omega, by go_num, by rw [hpa] at HB; exact HB, HS⟩, by simp [intOf]; omega⟩
      · have HE : Hid (fi (n.peers.map Pr.id) id = some k) := hide (fi_hit (by simpa using hlt) (by simpa using hq) (fun j hj hjk => by have := HN.out j (by simpa using hj) hjk; simpa using this))
        go_wp2
        go_ret
        exact ⟨by rw [HE.out]; rfl, box_old HB⟩
    · have HE : Hid (fi (n.peers.map Pr.id) id = none) := hide (fi_miss (fun i hi => by have := HN.out i (by simpa using hi) (by have : i < n.peers.length := (by simpa using hi); omega); simpa using this))
      have hk' : ¬ (k : Int) < (n.peers.length : Int) := by omega
      go_wp2
      go_ret
      exact ⟨by rw [HE.out]; rfl, box_old HB⟩

abbrev S9 (A B O : Nat) (p0 p1 p2 q0 q1 q2 q3 q4 q5 : Value) (W0 x : World) : Prop := x.cell? ⟨A, 0, none⟩ = some p0 ∧ x.cell? ⟨A, 1, none⟩ = some p1 ∧ x.cell? ⟨A, 2, none⟩ = some p2 ∧ x.cell? ⟨B, O, none⟩ = some q0 ∧ x.cell? ⟨B, O + 1, none⟩ = some q1 ∧ x.cell? ⟨B, O + 2, none⟩ = some q2 ∧ x.cell? ⟨B, O + 3, none⟩ = some q3 ∧ x.cell? ⟨B, O + 4, none⟩ = some q4 ∧ x.cell? ⟨B, O + 5, none⟩ = some q5 ∧ Hid (Below W0.heap.size W0 x)
theorem S9.on {A B O : Nat} {p0 p1 p2 q0 q1 q2 q3 q4 q5 : Value} {W0 x y : World} (h : S9 A B O p0 p1 p2 q0 q1 q2 q3 q4 q5 W0 x) (b : Below x.heap.size x y) : S9 A B O p0 p1 p2 q0 q1 q2 q3 q4 q5 W0 y :=
  ⟨below_keeps b _ _ h.1, below_keeps b _ _ h.2.1, below_keeps b _ _ h.2.2.1, below_keeps b _ _ h.2.2.2.1, below_keeps b _ _ h.2.2.2.2.1, below_keeps b _ _ h.2.2.2.2.2.1, below_keeps b _ _ h.2.2.2.2.2.2.1, below_keeps b _ _ h.2.2.2.2.2.2.2.1, below_keeps b _ _ h.2.2.2.2.2.2.2.2.1, hide (below_trans h.2.2.2.2.2.2.2.2.2.out b)⟩
theorem S9.old {A B O : Nat} {p0 p1 p2 q0 q1 q2 q3 q4 q5 : Value} {W0 x : World} (h : S9 A B O p0 p1 p2 q0 q1 q2 q3 q4 q5 W0 x) : Below W0.heap.size W0 x := h.2.2.2.2.2.2.2.2.2.out
theorem S9.set6 {A B O g : Nat} {p0 p1 p2 q0 q1 q2 q3 q4 q5 v0 v1 v2 v3 v4 v5 : Value} {W0 x : World} (h : S9 A B O p0 p1 p2 q0 q1 q2 q3 q4 q5 W0 x) (hA : A < g) (hB : B < g) (hg : W0.heap.size ≤ g) : S9 A B O p0 p1 p2 q0 q1 q2 q3 q4 q5 W0 ((((((x.setCell ⟨g, 0, none⟩ v0).setCell ⟨g, 1, none⟩ v1).setCell ⟨g, 2, none⟩ v2).setCell ⟨g, 3, none⟩ v3).setCell ⟨g, 4, none⟩ v4).setCell ⟨g, 5, none⟩ v5) := by
  have k : ∀ b o u, b < g → x.cell? ⟨b, o, none⟩ = some u → ((((((x.setCell ⟨g, 0, none⟩ v0).setCell ⟨g, 1, none⟩ v1).setCell ⟨g, 2, none⟩ v2).setCell ⟨g, 3, none⟩ v3).setCell ⟨g, 4, none⟩ v4).setCell ⟨g, 5, none⟩ v5).cell? ⟨b, o, none⟩ = some u := fun b o u hb hu => by
    rw [cell_set_other (.inl (by omega)), cell_set_other (.inl (by omega)), cell_set_other (.inl (by omega)), cell_set_other (.inl (by omega)), cell_set_other (.inl (by omega)), cell_set_other (.inl (by omega))]
    exact hu
  exact ⟨k _ _ _ hA h.1, k _ _ _ hA h.2.1, k _ _ _ hA h.2.2.1, k _ _ _ hB h.2.2.2.1, k _ _ _ hB h.2.2.2.2.1, k _ _ _ hB h.2.2.2.2.2.1, k _ _ _ hB h.2.2.2.2.2.2.1, k _ _ _ hB h.2.2.2.2.2.2.2.1, k _ _ _ hB h.2.2.2.2.2.2.2.2.1, hide (((((((h.2.2.2.2.2.2.2.2.2.out.setCell (p := ⟨g, 0, none⟩) hg _).setCell (p := ⟨g, 1, none⟩) hg _).setCell (p := ⟨g, 2, none⟩) hg _).setCell (p := ⟨g, 3, none⟩) hg _).setCell (p := ⟨g, 4, none⟩) hg _).setCell (p := ⟨g, 5, none⟩) hg _))⟩
theorem S9.from {A B O : Nat} {p0 p1 p2 q0 q1 q2 q3 q4 q5 : Value} {W0 x y : World} (h : S9 A B O p0 p1 p2 q0 q1 q2 q3 q4 q5 W0 W0) (b : Below W0.heap.size W0 y) : S9 A B O p0 p1 p2 q0 q1 q2 q3 q4 q5 W0 y := h.on b

abbrev S9b (A B O : Nat) (q0 q1 q2 q3 q4 q5 p0 p1 p2 : Value) (W0 x : World) : Prop := x.cell? ⟨A, 0, none⟩ = some q0 ∧ x.cell? ⟨A, 1, none⟩ = some q1 ∧ x.cell? ⟨A, 2, none⟩ = some q2 ∧ x.cell? ⟨A, 3, none⟩ = some q3 ∧ x.cell? ⟨A, 4, none⟩ = some q4 ∧ x.cell? ⟨A, 5, none⟩ = some q5 ∧ x.cell? ⟨B, O + 1, none⟩ = some p0 ∧ x.cell? ⟨B, O + 2, none⟩ = some p1 ∧ x.cell? ⟨B, O + 3, none⟩ = some p2 ∧ Hid (Below W0.heap.size W0 x)
theorem S9b.on {A B O : Nat} {q0 q1 q2 q3 q4 q5 p0 p1 p2 : Value} {W0 x y : World} (h : S9b A B O q0 q1 q2 q3 q4 q5 p0 p1 p2 W0 x) (b : Below x.heap.size x y) : S9b A B O q0 q1 q2 q3 q4 q5 p0 p1 p2 W0 y :=
  ⟨below_keeps b _ _ h.1, below_keeps b _ _ h.2.1, below_keeps b _ _ h.2.2.1, below_keeps b _ _ h.2.2.2.1, below_keeps b _ _ h.2.2.2.2.1, below_keeps b _ _ h.2.2.2.2.2.1, below_keeps b _ _ h.2.2.2.2.2.2.1, below_keeps b _ _ h.2.2.2.2.2.2.2.1, below_keeps b _ _ h.2.2.2.2.2.2.2.2.1, hide (below_trans h.2.2.2.2.2.2.2.2.2.out b)⟩
theorem S9b.old {A B O : Nat} {q0 q1 q2 q3 q4 q5 p0 p1 p2 : Value} {W0 x : World} (h : S9b A B O q0 q1 q2 q3 q4 q5 p0 p1 p2 W0 x) : Below W0.heap.size W0 x := h.2.2.2.2.2.2.2.2.2.out
theorem S9b.set3 {A B O g : Nat} {q0 q1 q2 q3 q4 q5 p0 p1 p2 v0 v1 v2 : Value} {W0 x : World} (h : S9b A B O q0 q1 q2 q3 q4 q5 p0 p1 p2 W0 x) (hA : A ≠ g) (hB : B ≠ g) (hg : W0.heap.size ≤ g) : S9b A B O q0 q1 q2 q3 q4 q5 p0 p1 p2 W0 (((x.setCell ⟨g, 0, none⟩ v0).setCell ⟨g, 1, none⟩ v1).setCell ⟨g, 2, none⟩ v2) := by
  have k : ∀ b o u, b ≠ g → x.cell? ⟨b, o, none⟩ = some u → (((x.setCell ⟨g, 0, none⟩ v0).setCell ⟨g, 1, none⟩ v1).setCell ⟨g, 2, none⟩ v2).cell? ⟨b, o, none⟩ = some u := fun b o u hb hu => by
    rw [cell_set_other (.inl (Ne.symm hb)), cell_set_other (.inl (Ne.symm hb)), cell_set_other (.inl (Ne.symm hb))]
    exact hu
  exact ⟨k _ _ _ hA h.1, k _ _ _ hA h.2.1, k _ _ _ hA h.2.2.1, k _ _ _ hA h.2.2.2.1, k _ _ _ hA h.2.2.2.2.1, k _ _ _ hA h.2.2.2.2.2.1, k _ _ _ hB h.2.2.2.2.2.2.1, k _ _ _ hB h.2.2.2.2.2.2.2.1, k _ _ _ hB h.2.2.2.2.2.2.2.2.1, hide (((h.2.2.2.2.2.2.2.2.2.out.setCell (p := ⟨g, 0, none⟩) hg _).setCell (p := ⟨g, 1, none⟩) hg _).setCell (p := ⟨g, 2, none⟩) hg _)⟩
theorem l6Peer' (n : Nd) (b off : Nat) (hpa : n.pa = some ⟨b, off, none⟩) (w : World) {id : Int} (hl : n.peers.length ≤ 1048576) (h : RowAt 4 prCells w n.pa n.peers) :
    Calls Try.prog 62 #[.agg #[.int .i64 n.id, .int .i64 n.has, .int .i64 n.spent, .int .i64 n.earned, .slice n.sa n.seen.length n.sc, .slice (some ⟨b, off, none⟩) n.peers.length n.pc], .int .i64 id] w fun e w' => e = .returned (.int .i64 (ixV (fi (n.peers.map Pr.id) id))) ∧ Below w.heap.size w w' := by
  have t := l6Peer_any n id w hl h
  rwa [hpa] at t

theorem blk_drew {W y : World} {cur : List Value} {T : TypeId} (h : Below ((W.alloc (.cells cur.toArray T)).drew).heap.size ((W.alloc (.cells cur.toArray T)).drew) y) : Blk W.heap.size cur y := ((Blk.new (w := W) (T := T)).below ((Below.refl _ _).drew)).below h
/-- the node that was found lies in a block of its own -/
def NodeBox (n : Nd) (W0 : World) (s : Value) (x : World) : Prop := ∃ B, s = .pointer (some ⟨B, 0, none⟩) ∧ W0.heap.size ≤ B ∧ Blk B [.int .i64 n.id, .int .i64 n.has, .int .i64 n.spent, .int .i64 n.earned, .slice n.sa n.seen.length n.sc, .slice n.pa n.peers.length n.pc] x ∧ Below W0.heap.size W0 x
theorem nodeBox_new {n : Nd} {W0 x : World} (h : Below W0.heap.size W0 x) {T : TypeId} : NodeBox n W0 (.pointer (some ⟨x.heap.size, 0, none⟩)) (x.alloc (.cells #[.int .i64 n.id, .int .i64 n.has, .int .i64 n.spent, .int .i64 n.earned, .slice n.sa n.seen.length n.sc, .slice n.pa n.peers.length n.pc] T)) :=
  ⟨x.heap.size, rfl, h.size, Blk.new, below_alloc h _⟩
theorem nodeBox_set {n : Nd} {W0 x : World} {B : Nat} {z : List Value} (hz : z.length = 6) (hB : W0.heap.size ≤ B) (hk : Blk B z x) (h : Below W0.heap.size W0 x) : NodeBox n W0 (.pointer (some ⟨B, 0, none⟩)) ((((((x.setCell ⟨B, 0, none⟩ (.int .i64 n.id)).setCell ⟨B, 1, none⟩ (.int .i64 n.has)).setCell ⟨B, 2, none⟩ (.int .i64 n.spent)).setCell ⟨B, 3, none⟩ (.int .i64 n.earned)).setCell ⟨B, 4, none⟩ (.slice n.sa n.seen.length n.sc)).setCell ⟨B, 5, none⟩ (.slice n.pa n.peers.length n.pc)) := by
  refine ⟨B, rfl, hB, ?_, (((((h.setCell (p := ⟨B, 0, none⟩) hB _).setCell (p := ⟨B, 1, none⟩) hB _).setCell (p := ⟨B, 2, none⟩) hB _).setCell (p := ⟨B, 3, none⟩) hB _).setCell (p := ⟨B, 4, none⟩) hB _).setCell (p := ⟨B, 5, none⟩) hB _⟩
  obtain ⟨a, b, c, d, e, f, rfl⟩ : ∃ a b c d e f, z = [a, b, c, d, e, f] := by
    match z, hz with
    | [a, b, c, d, e, f], _ => exact ⟨a, b, c, d, e, f, rfl⟩
  exact (((((hk.set 0 _ (by simp)).set 1 _ (by simp)).set 2 _ (by simp)).set 3 _ (by simp)).set 4 _ (by simp)).set 5 _ (by simp)
set_option maxHeartbeats 1000000 in
theorem l7Out_any (st : Int) (na : Option Addr) (l : List Nd) (nc : Nat) (ma : Option Addr) (nm mc : Nat) (fr tw : Int) (w : World) (hl : l.length ≤ 1048576) (hp : ∀ n ∈ l, n.peers.length ≤ 1048576) (h : NodesAt w na l) (k i : Nat) (hk : k < l.length) (hi : i < (l[k]).peers.length) (h1 : fi (l.map Nd.id) fr = some k) (h2 : fi ((l[k]).peers.map Pr.id) tw = some i) :
    Calls Try.prog 63 #[.agg #[.int .i64 st, .slice na l.length nc, .slice ma nm mc], .int .i64 fr, .int .i64 tw] w fun e w' => e = .returned (.agg #[.slice ((l[k]).peers[i]).a ((l[k]).peers[i]).E.out.length ((l[k]).peers[i]).cap, .int .i64 ((l[k]).peers[i]).E.sent, .int .i64 ((l[k]).peers[i]).E.got]) ∧ Below w.heap.size w w' := by
  have HL : Hid _ := hide h
  have HP : Hid _ := hide (hp _ (List.getElem_mem hk))
  clear h hp
  obtain ⟨w2, hw2⟩ : ∃ w2, w2 = (w.alloc (.cells #[.int .i64 st, .slice na l.length nc, .slice ma nm mc] 44)).alloc (.cells #[.slice none 0 0, .int .i64 0, .int .i64 0] 56) := ⟨_, rfl⟩
  have sz1 : (w.alloc (.cells #[.int .i64 st, .slice na l.length nc, .slice ma nm mc] 44)).heap.size = w.heap.size + 1 := by simp
  have sz2 : w2.heap.size = w.heap.size + 2 := by rw [hw2]; simp
  have KW : Hid (Blk w.heap.size [.int .i64 st, .slice na l.length nc, .slice ma nm mc] w2) := hide (by rw [hw2]; exact Blk.new.alloc _)
  have KR : Hid (Blk (w.heap.size + 1) [.slice none 0 0, .int .i64 0, .int .i64 0] w2) := hide (by rw [hw2, ← sz1]; exact Blk.new)
  have HB2 : Hid (Below w.heap.size w w2) := hide (by rw [hw2]; exact below_alloc (below_alloc (Below.refl _ _) _) _)
  have HW : Hid ((w.alloc (.cells #[.int .i64 st, .slice na l.length nc, .slice ma nm mc] 44)).alloc (.cells #[.slice none 0 0, .int .i64 0, .int .i64 0] 56) = w2) := hide hw2.symm
  have HS : Hid _ := hide sz2
  clear hw2 sz1 sz2
  obtain ⟨b, off, rfl, hb, c0, c1, c2, c3, c4, c5⟩ := nd_row (HL.out.row.below HB2.out) k hk
  have hk' : (k : Int) < (l.length : Int) := by omega
  have HI1 : Hid (ixV (fi (l.map Nd.id) fr) = (k : Int)) := hide (by rw [h1]; rfl)
  have HI2 : Hid (ixV (fi ((l[k]).peers.map Pr.id) tw) = (i : Int)) := hide (by rw [h2]; rfl)
  have HS0 : Hid (S9 w.heap.size b (off + k * 6) (.int .i64 st) (.slice (some ⟨b, off, none⟩) l.length nc) (.slice ma nm mc) (.int .i64 (l[k]).id) (.int .i64 (l[k]).has) (.int .i64 (l[k]).spent) (.int .i64 (l[k]).earned) (.slice (l[k]).sa (l[k]).seen.length (l[k]).sc) (.slice (l[k]).pa (l[k]).peers.length (l[k]).pc) w2 w2) := hide ⟨KW.out.c 0 _ rfl, KW.out.c 1 _ rfl, KW.out.c 2 _ rfl, c0, c1, c2, c3, c4, c5, hide (Below.refl _ _)⟩
  clear h1 h2 c0 c1 c2 c3 c4 c5
  have HS0d : Hid (S9 w.heap.size b (off + k * 6) (.int .i64 st) (.slice (some ⟨b, off, none⟩) l.length nc) (.slice ma nm mc) (.int .i64 (l[k]).id) (.int .i64 (l[k]).has) (.int .i64 (l[k]).spent) (.int .i64 (l[k]).earned) (.slice (l[k]).sa (l[k]).seen.length (l[k]).sc) (.slice (l[k]).pa (l[k]).peers.length (l[k]).pc) w2 w2.drew) := hide (S9.on HS0.out (Below.refl _ _).drew)
  have HAB : Hid (w.heap.size < w2.heap.size ∧ b < w2.heap.size) := hide ⟨by have := HS.out; omega, hb⟩
  go_enter Try.func63, Try.ntmps63
  go_wp2_with fail
  rw [HW.out]
  go_cut [7] (fun s7 wx => Hid (NodeBox l[k] w2 s7 wx))
  case first =>
    go_region_held3 (fun x => x.cell? ⟨w.heap.size, 0, none⟩ = some (.int .i64 st) ∧ x.cell? ⟨w.heap.size, 1, none⟩ = some (.slice (some ⟨b, off, none⟩) l.length nc) ∧ x.cell? ⟨w.heap.size, 2, none⟩ = some (.slice ma nm mc) ∧ x.cell? ⟨b, off + k * 6, none⟩ = some (.int .i64 (l[k]).id) ∧ x.cell? ⟨b, off + k * 6 + 1, none⟩ = some (.int .i64 (l[k]).has) ∧ x.cell? ⟨b, off + k * 6 + 2, none⟩ = some (.int .i64 (l[k]).spent) ∧ x.cell? ⟨b, off + k * 6 + 3, none⟩ = some (.int .i64 (l[k]).earned) ∧ x.cell? ⟨b, off + k * 6 + 4, none⟩ = some (.slice (l[k]).sa (l[k]).seen.length (l[k]).sc) ∧ x.cell? ⟨b, off + k * 6 + 5, none⟩ = some (.slice (l[k]).pa (l[k]).peers.length (l[k]).pc) ∧ Hid (Below w2.heap.size w2 x))
      (first | with_reducible exact S9.set6 HS3.out HAB.out.1 HAB.out.2 (Nat.le_refl _) | with_reducible exact HS0d.out | with_reducible exact HS3.out | with_reducible exact S9.on HS0d.out (below_alloc (Below.refl _ _) _) | with_reducible exact S9.on HS0.out ((below_alloc (Below.refl _ _) _).drew) | with_reducible exact S9.on HS3.out (below_alloc (Below.refl _ _) _) | with_reducible assumption)
      (first | (go_at_call 61; refine (l7Node_any _ _ l _ _ _ _ _ _ hl (HL.out.row.below (below_trans HB2.out (S9.old (by with_reducible assumption : S9 w.heap.size b (off + k * 6) (.int .i64 st) (.slice (some ⟨b, off, none⟩) l.length nc) (.slice ma nm mc) (.int .i64 (l[k]).id) (.int .i64 (l[k]).has) (.int .i64 (l[k]).spent) (.int .i64 (l[k]).earned) (.slice (l[k]).sa (l[k]).seen.length (l[k]).sc) (.slice (l[k]).pa (l[k]).peers.length (l[k]).pc) w2 _))))).mono ?_; rw [HI1.out]; rintro e w3 ⟨rfl, hb3⟩; have HS3 : Hid (S9 w.heap.size b (off + k * 6) (.int .i64 st) (.slice (some ⟨b, off, none⟩) l.length nc) (.slice ma nm mc) (.int .i64 (l[k]).id) (.int .i64 (l[k]).has) (.int .i64 (l[k]).spent) (.int .i64 (l[k]).earned) (.slice (l[k]).sa (l[k]).seen.length (l[k]).sc) (.slice (l[k]).pa (l[k]).peers.length (l[k]).pc) w2 w3) := hide (S9.on (by with_reducible assumption) hb3); try (have KZ : Blk w2.heap.size [.int .i64 0, .int .i64 0, .int .i64 0, .int .i64 0, .slice none 0 0, .slice none 0 0] w3 := (by with_reducible exact blk_drew hb3); have HKZ : Hid _ := hide KZ; have z0 := KZ.c 0 _ rfl; have z1 := KZ.c 1 _ rfl; have z2 := KZ.c 2 _ rfl; have z3 := KZ.c 3 _ rfl; have z4 := KZ.c 4 _ rfl; have z5 := KZ.c 5 _ rfl; have f0 := KZ.f 0; have f1 := KZ.f 1; have f2 := KZ.f 2; have f3 := KZ.f 3; have f4 := KZ.f 4; have f5 := KZ.f 5; clear KZ)))
    all_goals (go_wp2_with fail; go_meet)
    all_goals first
      | exact hide (nodeBox_new (S9.old HS3.out))
      | exact hide (nodeBox_set rfl (Nat.le_refl _) HKZ.out (S9.old HS3.out))
  case rest =>
    rename World => w4
    obtain ⟨B4, rfl, hB4, kB4, bB4⟩ := hcut.out
    have HB4 : Hid (Below w.heap.size w w4) := hide (below_trans HB2.out bB4)
    have KR4 : Hid _ := hide (KR.out.below bB4)
    have KB4 : Hid _ := hide kB4
    have HA : Hid (NodeAt w4 l[k]) := hide ((HL.out.each _ (List.getElem_mem hk)).below HB4.out)
    have HBB : Hid (B4 ≠ w.heap.size + 1) := hide (by have := HS.out; omega)
    have HGW : Hid (w.heap.size ≤ w.heap.size + 1) := hide (by omega)
    obtain ⟨pb, poff, hpa, hpb, d0, d1, d2, d3⟩ := pr_row HA.out.peers.row i hi
    have hi' : (i : Int) < ((l[k]).peers.length : Int) := by omega
    have HPB : Hid (pb ≠ w.heap.size + 1) := hide (by
      obtain ⟨b1, off1, e1, hb1, _⟩ := pr_row (HL.out.each _ (List.getElem_mem hk)).peers.row i hi
      rw [hpa] at e1
      simp only [Option.some.injEq, Addr.mk.injEq, and_true] at e1
      omega)
    have HS4 : Hid (S9b B4 pb (poff + i * 4) (.int .i64 (l[k]).id) (.int .i64 (l[k]).has) (.int .i64 (l[k]).spent) (.int .i64 (l[k]).earned) (.slice (l[k]).sa (l[k]).seen.length (l[k]).sc) (.slice (some ⟨pb, poff, none⟩) (l[k]).peers.length (l[k]).pc) (.slice ((l[k]).peers[i]).a ((l[k]).peers[i]).E.out.length ((l[k]).peers[i]).cap) (.int .i64 ((l[k]).peers[i]).E.sent) (.int .i64 ((l[k]).peers[i]).E.got) w w4) := hide ⟨KB4.out.c 0 _ rfl, KB4.out.c 1 _ rfl, KB4.out.c 2 _ rfl, KB4.out.c 3 _ rfl, KB4.out.c 4 _ rfl, by rw [← hpa]; exact KB4.out.c 5 _ rfl, d1, d2, d3, HB4⟩
    have HS4d : Hid (S9b B4 pb (poff + i * 4) (.int .i64 (l[k]).id) (.int .i64 (l[k]).has) (.int .i64 (l[k]).spent) (.int .i64 (l[k]).earned) (.slice (l[k]).sa (l[k]).seen.length (l[k]).sc) (.slice (some ⟨pb, poff, none⟩) (l[k]).peers.length (l[k]).pc) (.slice ((l[k]).peers[i]).a ((l[k]).peers[i]).E.out.length ((l[k]).peers[i]).cap) (.int .i64 ((l[k]).peers[i]).E.sent) (.int .i64 ((l[k]).peers[i]).E.got) w w4.drew) := hide (S9b.on HS4.out (Below.refl _ _).drew)
    clear d0 d1 d2 d3 kB4 bB4 hB4 hcut
    go_wp2_with fail
    go_region_held3 (fun x => x.cell? ⟨B4, 0, none⟩ = some (.int .i64 (l[k]).id) ∧ x.cell? ⟨B4, 1, none⟩ = some (.int .i64 (l[k]).has) ∧ x.cell? ⟨B4, 2, none⟩ = some (.int .i64 (l[k]).spent) ∧ x.cell? ⟨B4, 3, none⟩ = some (.int .i64 (l[k]).earned) ∧ x.cell? ⟨B4, 4, none⟩ = some (.slice (l[k]).sa (l[k]).seen.length (l[k]).sc) ∧ x.cell? ⟨B4, 5, none⟩ = some (.slice (some ⟨pb, poff, none⟩) (l[k]).peers.length (l[k]).pc) ∧ x.cell? ⟨pb, poff + i * 4 + 1, none⟩ = some (.slice ((l[k]).peers[i]).a ((l[k]).peers[i]).E.out.length ((l[k]).peers[i]).cap) ∧ x.cell? ⟨pb, poff + i * 4 + 2, none⟩ = some (.int .i64 ((l[k]).peers[i]).E.sent) ∧ x.cell? ⟨pb, poff + i * 4 + 3, none⟩ = some (.int .i64 ((l[k]).peers[i]).E.got) ∧ Hid (Below w.heap.size w x))
      (first | with_reducible exact S9b.set3 HS5.out HBB.out HPB.out HGW.out | with_reducible exact HS4d.out | with_reducible exact HS5.out | with_reducible assumption)
      (first | (go_at_call 62; refine (l6Peer' l[k] _ _ hpa _ HP.out ((HL.out.each _ (List.getElem_mem hk)).peers.row.below (S9b.old (by with_reducible assumption : S9b B4 pb (poff + i * 4) (.int .i64 (l[k]).id) (.int .i64 (l[k]).has) (.int .i64 (l[k]).spent) (.int .i64 (l[k]).earned) (.slice (l[k]).sa (l[k]).seen.length (l[k]).sc) (.slice (some ⟨pb, poff, none⟩) (l[k]).peers.length (l[k]).pc) (.slice ((l[k]).peers[i]).a ((l[k]).peers[i]).E.out.length ((l[k]).peers[i]).cap) (.int .i64 ((l[k]).peers[i]).E.sent) (.int .i64 ((l[k]).peers[i]).E.got) w _)))).mono ?_; rw [HI2.out]; rintro e w5 ⟨rfl, hb5⟩; have HS5 : Hid (S9b B4 pb (poff + i * 4) (.int .i64 (l[k]).id) (.int .i64 (l[k]).has) (.int .i64 (l[k]).spent) (.int .i64 (l[k]).earned) (.slice (l[k]).sa (l[k]).seen.length (l[k]).sc) (.slice (some ⟨pb, poff, none⟩) (l[k]).peers.length (l[k]).pc) (.slice ((l[k]).peers[i]).a ((l[k]).peers[i]).E.out.length ((l[k]).peers[i]).cap) (.int .i64 ((l[k]).peers[i]).E.sent) (.int .i64 ((l[k]).peers[i]).E.got) w w5) := hide (S9b.on (by with_reducible assumption) hb5); have y0 := ((KR4.out.below (Below.refl _ _).drew).below hb5).c 0 _ rfl; have y1 := ((KR4.out.below (Below.refl _ _).drew).below hb5).c 1 _ rfl; have y2 := ((KR4.out.below (Below.refl _ _).drew).below hb5).c 2 _ rfl; have f0 := ((KR4.out.below (Below.refl _ _).drew).below hb5).f 0; have f1 := ((KR4.out.below (Below.refl _ _).drew).below hb5).f 1; have f2 := ((KR4.out.below (Below.refl _ _).drew).below hb5).f 2))
    have HE : Hid (Below w.heap.size w w5) := hide (S9b.old HS5.out)
    go_wp2
    refine bodyPost_ret (v := .agg #[.slice ((l[k]).peers[i]).a ((l[k]).peers[i]).E.out.length ((l[k]).peers[i]).cap, .int .i64 ((l[k]).peers[i]).E.sent, .int .i64 ((l[k]).peers[i]).E.got]) (by simp [results, Try.results63, go_sem, y0, y1, y2]) rfl ⟨rfl, ?_⟩
    exact ((HE.out.setCell (p := ⟨w.heap.size + 1, 0, none⟩) (by show w.heap.size ≤ w.heap.size + 1; omega) _).setCell (p := ⟨w.heap.size + 1, 1, none⟩) (by show w.heap.size ≤ w.heap.size + 1; omega) _).setCell (p := ⟨w.heap.size + 1, 2, none⟩) (by show w.heap.size ≤ w.heap.size + 1; omega) _
end Go.Proofs.Ytpfghmghlklhgaa
