/- The contract of the model's NodeOk. -/
import Derived.Test.YtkcpoibhlnjldaaBa
namespace Go.Proofs.Ytkcpoibhlnjldaa
open Go.Value renaming int → J, slice → V
open Go.IntKind renaming i64 → Z
open Go.ChangeShapes Go.WideShapes Go.ChangeAt Go.RowKit
set_option linter.unusedVariables false
set_option maxRecDepth 100000 in
set_option maxHeartbeats 20000000 in
theorem specNodeOk_any (id has spent earned : Int) (sa : Option Addr) (seen : List Sn) (sc : Nat) (pa : Option Addr) (peers : List Pr) (pc : Nat) (w : World) (hs : seen.length ≤ 1048576) (hp : peers.length ≤ 1048576) (hsm : ∀ p ∈ peers, p.E.out.length ≤ 1048576) (h1 : RowAt 2 snCells w sa seen) (h2 : PeersAt w pa peers) :
  Calls Try.prog 17 #[.agg #[J Z id, J Z has, J Z spent, J Z earned, V sa seen.length sc, V pa peers.length pc]] w fun e w' => e = .returned (.bool (nodeB ⟨id, has, spent, earned, seen, peers.map Pr.d⟩)) ∧ Below w.heap.size w w' := by
 have H1 : Hid _ := hide h1
 have H2 : Hid _ := hide h2
 clear h1 h2
 cases q1 : inB 1 1000000000 id
 ·have HR : Hid (nodeB (⟨id, has, spent, earned, seen, peers.map Pr.d⟩ : NdD) = false) := hide (by simp [nodeB, q1])
  have hs0 : (0 : Int) ≤ (seen.length : Int) := by omega
  go_enter Try.func17, Try.ntmps17
  go_wp2_with (first | (go_at_call 47; refine (l1In_any _ _ _ _).mono ?_; rintro e w' ⟨rfl, hw'⟩; have hw'' := hw'.symm; subst hw''))
  go_ret
  exact ⟨by rw [HR.out]; rfl, below_alloc (Below.refl _ _) _⟩
 ·skip
  cases q2 : inB 0 10000000000000 has
  ·have HR : Hid (nodeB (⟨id, has, spent, earned, seen, peers.map Pr.d⟩ : NdD) = false) := hide (by simp [nodeB, q2])
   have hs0 : (0 : Int) ≤ (seen.length : Int) := by omega
   go_enter Try.func17, Try.ntmps17
   go_wp2_with (first | (go_at_call 47; refine (l1In_any _ _ _ _).mono ?_; rintro e w' ⟨rfl, hw'⟩; have hw'' := hw'.symm; subst hw''))
   go_ret
   exact ⟨by rw [HR.out]; rfl, below_alloc (Below.refl _ _) _⟩
  ·skip
   cases q3 : inB 0 1000000000000 spent
   ·have HR : Hid (nodeB (⟨id, has, spent, earned, seen, peers.map Pr.d⟩ : NdD) = false) := hide (by simp [nodeB, q3])
    have hs0 : (0 : Int) ≤ (seen.length : Int) := by omega
    go_enter Try.func17, Try.ntmps17
    go_wp2_with (first | (go_at_call 47; refine (l1In_any _ _ _ _).mono ?_; rintro e w' ⟨rfl, hw'⟩; have hw'' := hw'.symm; subst hw''))
    go_ret
    exact ⟨by rw [HR.out]; rfl, below_alloc (Below.refl _ _) _⟩
   ·skip
    cases q4 : inB 0 1000000000000 earned
    ·have HR : Hid (nodeB (⟨id, has, spent, earned, seen, peers.map Pr.d⟩ : NdD) = false) := hide (by simp [nodeB, q4])
     have hs0 : (0 : Int) ≤ (seen.length : Int) := by omega
     go_enter Try.func17, Try.ntmps17
     go_wp2_with (first | (go_at_call 47; refine (l1In_any _ _ _ _).mono ?_; rintro e w' ⟨rfl, hw'⟩; have hw'' := hw'.symm; subst hw''))
     go_ret
     exact ⟨by rw [HR.out]; rfl, below_alloc (Below.refl _ _) _⟩
    ·skip
     by_cases g1 : seen.length ≤ 40
     ·by_cases g2 : peers.length ≤ 8
      ·have a1 : ¬ (40 : Int) < (seen.length : Int) := by omega
       have a2 : ¬ (8 : Int) < (peers.length : Int) := by omega
       have HN : Hid (nodeB (⟨id, has, spent, earned, seen, peers.map Pr.d⟩ : NdD) = (allTo (snB nodeCd seen) seen.length && allTo (pdB id (peers.map Pr.d)) peers.length)) := hide (by simp [nodeB, q1, q2, q3, q4, g1, g2])
       go_enter Try.func17, Try.ntmps17
       go_wp2_with (first | (go_at_call 47; refine (l1In_any _ _ _ _).mono ?_; rintro e w' ⟨rfl, hw'⟩; have hw'' := hw'.symm; subst hw'') | fail)
       go_loopw [3] (fun i wr => ∃ k : Nat, k ≤ seen.length ∧ i = J Z (k : Int) ∧ Below (w.heap.size + 1) (w.alloc (.cells #[J Z id, J Z has, J Z spent, J Z earned, V sa seen.length sc, V pa peers.length pc] 27)) wr ∧ Hid (allTo (snB nodeCd seen) k = true)) (fun i wr => seen.length - (intOf i).toNat)
       case atStart => exact ⟨0, Nat.zero_le _, rfl, Below.refl _ _, hide rfl⟩
       case round =>
        obtain ⟨k, hk, rfl, HB, HS⟩ := hrel
        have x4 := boxN HB 4 _ rfl
        by_cases hlt : k < seen.length
        ·obtain ⟨b, off, rfl, hb, c0, c1⟩ := sn_row (H1.out.below (box_old HB)) k hlt
         have hlt' : (k : Int) < (seen.length : Int) := by omega
         have hbx : w.heap.size < wr.heap.size := box_lt HB
         have x4' := later_old (o := .cells #[J Z (seen[k]).id, J Z (seen[k]).code] 70) hbx x4
         have s0' := later_newN (wr := wr) (cur := #[J Z (seen[k]).id, J Z (seen[k]).code]) (T := 70) 0 _ rfl
         have s1' := later_newN (wr := wr) (cur := #[J Z (seen[k]).id, J Z (seen[k]).code]) (T := 70) 1 _ rfl
         have hne : Nonempty (Later (wr.alloc (.cells #[J Z (seen[k]).id, J Z (seen[k]).code] 70))) := later_there _
         cases p1 : inB 1 1000000000 (seen[k]).id
         ·skip
          have HR : Hid (nodeB (⟨id, has, spent, earned, seen, peers.map Pr.d⟩ : NdD) = false) := hide (by rw [HN.out, allTo_false hlt (by rw [snB_at hlt, p1]; rfl)]; rfl)
          go_wp2_with fail
          refine wp_region_later (wr.alloc (.cells #[J Z (seen[k]).id, J Z (seen[k]).code] 70)) (by kernel_rfl) (by kernel_rfl) ((Below.refl _ _).drew) ?_
          repeat (go_big_quiet_step (first | (go_at_call 47; exact later_same (l1In_any _ _ _ _))))
          refine wpQuiet_nil ?_
          intro _ hw'
          obtain ⟨nx, rfl⟩ := hw'
          go_wp2
          go_ret
          exact ⟨by rw [HR.out]; rfl, box_old (box_on HB (below_trans (below_alloc (Below.refl _ _) _) nx.below))⟩
         ·by_cases hz : k = 0
          ·have hri : Hid (risesB (seen.map Sn.id) k = true) := hide (by rw [hz]; rfl)
           have hz' : decide ((0 : Int) < (k : Int)) = false := by simp; omega
           have hz'' : decide (0 < k) = false := by simp; omega
           clear hz
           cases p3 : ((seen[k]).code != 0)
           ·have HC : Hid (nodeCd (seen[k]).code = true) := hide (by have y : (seen[k]).code = 0 := (by simpa using p3); simp [nodeCd, y])
            have HS2 : Hid (allTo (snB nodeCd seen) (k + 1) = true) := hide (allTo_step HS.out (by rw [snB_at hlt, p1, hri.out, HC.out]; rfl))
            go_wp2_with fail
            refine wp_region_later (wr.alloc (.cells #[J Z (seen[k]).id, J Z (seen[k]).code] 70)) (by kernel_rfl) (by kernel_rfl) ((Below.refl _ _).drew) ?_
            repeat (go_big_quiet_step (first | (go_at_call 47; exact later_same (l1In_any _ _ _ _))))
            refine wpQuiet_nil ?_
            intro _ hw'
            obtain ⟨nx, rfl⟩ := hw'
            go_wp2
            exact ⟨⟨k + 1, by omega, by go_num, box_on HB (below_trans (below_alloc (Below.refl _ _) _) nx.below), HS2⟩, by simp [intOf]; omega⟩
           ·cases p4 : ((seen[k]).code != 4)
            ·have HC : Hid (nodeCd (seen[k]).code = true) := hide (by have y : (seen[k]).code = 4 := (by simpa using p4); simp [nodeCd, y])
             have HS2 : Hid (allTo (snB nodeCd seen) (k + 1) = true) := hide (allTo_step HS.out (by rw [snB_at hlt, p1, hri.out, HC.out]; rfl))
             go_wp2_with fail
             refine wp_region_later (wr.alloc (.cells #[J Z (seen[k]).id, J Z (seen[k]).code] 70)) (by kernel_rfl) (by kernel_rfl) ((Below.refl _ _).drew) ?_
             repeat (go_big_quiet_step (first | (go_at_call 47; exact later_same (l1In_any _ _ _ _))))
             refine wpQuiet_nil ?_
             intro _ hw'
             obtain ⟨nx, rfl⟩ := hw'
             go_wp2
             exact ⟨⟨k + 1, by omega, by go_num, box_on HB (below_trans (below_alloc (Below.refl _ _) _) nx.below), HS2⟩, by simp [intOf]; omega⟩
            ·cases p5 : ((seen[k]).code != 6)
             ·have HC : Hid (nodeCd (seen[k]).code = true) := hide (by have y : (seen[k]).code = 6 := (by simpa using p5); simp [nodeCd, y])
              have HS2 : Hid (allTo (snB nodeCd seen) (k + 1) = true) := hide (allTo_step HS.out (by rw [snB_at hlt, p1, hri.out, HC.out]; rfl))
              go_wp2_with fail
              refine wp_region_later (wr.alloc (.cells #[J Z (seen[k]).id, J Z (seen[k]).code] 70)) (by kernel_rfl) (by kernel_rfl) ((Below.refl _ _).drew) ?_
              repeat (go_big_quiet_step (first | (go_at_call 47; exact later_same (l1In_any _ _ _ _))))
              refine wpQuiet_nil ?_
              intro _ hw'
              obtain ⟨nx, rfl⟩ := hw'
              go_wp2
              exact ⟨⟨k + 1, by omega, by go_num, box_on HB (below_trans (below_alloc (Below.refl _ _) _) nx.below), HS2⟩, by simp [intOf]; omega⟩
             ·have HC : Hid (nodeCd (seen[k]).code = false) := hide (by simp at p3 p4 p5; simp [nodeCd, p3, p4, p5])
              have HR : Hid (nodeB (⟨id, has, spent, earned, seen, peers.map Pr.d⟩ : NdD) = false) := hide (by rw [HN.out, allTo_false hlt (by rw [snB_at hlt, p1, hri.out, HC.out]; rfl)]; rfl)
              go_wp2_with fail
              refine wp_region_later (wr.alloc (.cells #[J Z (seen[k]).id, J Z (seen[k]).code] 70)) (by kernel_rfl) (by kernel_rfl) ((Below.refl _ _).drew) ?_
              repeat (go_big_quiet_step (first | (go_at_call 47; exact later_same (l1In_any _ _ _ _))))
              refine wpQuiet_nil ?_
              intro _ hw'
              obtain ⟨nx, rfl⟩ := hw'
              go_wp2
              go_ret
              exact ⟨by rw [HR.out]; rfl, box_old (box_on HB (below_trans (below_alloc (Below.refl _ _) _) nx.below))⟩
          ·obtain ⟨m, hm⟩ : ∃ m, k = m + 1 := ⟨k - 1, by omega⟩
           have hm3 : m < seen.length := by omega
           obtain ⟨b', off', heq, hb', p0, _⟩ := sn_row (H1.out.below (box_old HB)) m hm3
           simp only [Option.some.injEq, Addr.mk.injEq, and_true] at heq
           obtain ⟨rfl, rfl⟩ := heq
           have p0' := later_old (o := .cells #[J Z (seen[k]).id, J Z (seen[k]).code] 70) hb' p0
           have hz' : (0 : Int) < (k : Int) := by omega
           have hm1 : IntKind.i64.wrap ((k : Int) - 1) = (m : Int) := wrap_pred hm (by omega)
           have hm2 : (m : Int) < (seen.length : Int) := by omega
           have hz'' : 0 < k := by omega
           have hrs : risesB (seen.map Sn.id) k = decide ((seen[m]).id < (seen[k]).id) := by subst hm; exact rises_sn hlt
           by_cases q7 : (seen[m]).id < (seen[k]).id
           ·have hri : Hid (risesB (seen.map Sn.id) k = true) := hide (by rw [hrs]; simpa using q7)
            have q7' : decide ((seen[k]).id ≤ (seen[m]).id) = false := by simp; omega
            clear hrs hm hz
            cases p3 : ((seen[k]).code != 0)
            ·have HC : Hid (nodeCd (seen[k]).code = true) := hide (by have y : (seen[k]).code = 0 := (by simpa using p3); simp [nodeCd, y])
             have HS2 : Hid (allTo (snB nodeCd seen) (k + 1) = true) := hide (allTo_step HS.out (by rw [snB_at hlt, p1, hri.out, HC.out]; rfl))
             go_wp2_with fail
             refine wp_region_later (wr.alloc (.cells #[J Z (seen[k]).id, J Z (seen[k]).code] 70)) (by kernel_rfl) (by kernel_rfl) ((Below.refl _ _).drew) ?_
             repeat (go_big_quiet_step (first | (go_at_call 47; exact later_same (l1In_any _ _ _ _))))
             refine wpQuiet_nil ?_
             intro _ hw'
             obtain ⟨nx, rfl⟩ := hw'
             go_wp2
             exact ⟨⟨k + 1, by omega, by go_num, box_on HB (below_trans (below_alloc (Below.refl _ _) _) nx.below), HS2⟩, by simp [intOf]; omega⟩
            ·cases p4 : ((seen[k]).code != 4)
             ·have HC : Hid (nodeCd (seen[k]).code = true) := hide (by have y : (seen[k]).code = 4 := (by simpa using p4); simp [nodeCd, y])
              have HS2 : Hid (allTo (snB nodeCd seen) (k + 1) = true) := hide (allTo_step HS.out (by rw [snB_at hlt, p1, hri.out, HC.out]; rfl))
              go_wp2_with fail
              refine wp_region_later (wr.alloc (.cells #[J Z (seen[k]).id, J Z (seen[k]).code] 70)) (by kernel_rfl) (by kernel_rfl) ((Below.refl _ _).drew) ?_
              repeat (go_big_quiet_step (first | (go_at_call 47; exact later_same (l1In_any _ _ _ _))))
              refine wpQuiet_nil ?_
              intro _ hw'
              obtain ⟨nx, rfl⟩ := hw'
              go_wp2
              exact ⟨⟨k + 1, by omega, by go_num, box_on HB (below_trans (below_alloc (Below.refl _ _) _) nx.below), HS2⟩, by simp [intOf]; omega⟩
             ·cases p5 : ((seen[k]).code != 6)
              ·have HC : Hid (nodeCd (seen[k]).code = true) := hide (by have y : (seen[k]).code = 6 := (by simpa using p5); simp [nodeCd, y])
               have HS2 : Hid (allTo (snB nodeCd seen) (k + 1) = true) := hide (allTo_step HS.out (by rw [snB_at hlt, p1, hri.out, HC.out]; rfl))
               go_wp2_with fail
               refine wp_region_later (wr.alloc (.cells #[J Z (seen[k]).id, J Z (seen[k]).code] 70)) (by kernel_rfl) (by kernel_rfl) ((Below.refl _ _).drew) ?_
               repeat (go_big_quiet_step (first | (go_at_call 47; exact later_same (l1In_any _ _ _ _))))
               refine wpQuiet_nil ?_
               intro _ hw'
               obtain ⟨nx, rfl⟩ := hw'
               go_wp2
               exact ⟨⟨k + 1, by omega, by go_num, box_on HB (below_trans (below_alloc (Below.refl _ _) _) nx.below), HS2⟩, by simp [intOf]; omega⟩
              ·have HC : Hid (nodeCd (seen[k]).code = false) := hide (by simp at p3 p4 p5; simp [nodeCd, p3, p4, p5])
               have HR : Hid (nodeB (⟨id, has, spent, earned, seen, peers.map Pr.d⟩ : NdD) = false) := hide (by rw [HN.out, allTo_false hlt (by rw [snB_at hlt, p1, hri.out, HC.out]; rfl)]; rfl)
               go_wp2_with fail
               refine wp_region_later (wr.alloc (.cells #[J Z (seen[k]).id, J Z (seen[k]).code] 70)) (by kernel_rfl) (by kernel_rfl) ((Below.refl _ _).drew) ?_
               repeat (go_big_quiet_step (first | (go_at_call 47; exact later_same (l1In_any _ _ _ _))))
               refine wpQuiet_nil ?_
               intro _ hw'
               obtain ⟨nx, rfl⟩ := hw'
               go_wp2
               go_ret
               exact ⟨by rw [HR.out]; rfl, box_old (box_on HB (below_trans (below_alloc (Below.refl _ _) _) nx.below))⟩
           ·have q7' : (seen[k]).id ≤ (seen[m]).id := by omega
            have HR : Hid (nodeB (⟨id, has, spent, earned, seen, peers.map Pr.d⟩ : NdD) = false) := hide (by rw [HN.out, allTo_false hlt (by rw [snB_at hlt, hrs, decide_eq_false q7]; simp)]; rfl)
            clear hrs hm hz
            go_wp2_with fail
            refine wp_region_later (wr.alloc (.cells #[J Z (seen[k]).id, J Z (seen[k]).code] 70)) (by kernel_rfl) (by kernel_rfl) ((Below.refl _ _).drew) ?_
            repeat (go_big_quiet_step (first | (go_at_call 47; exact later_same (l1In_any _ _ _ _))))
            refine wpQuiet_nil ?_
            intro _ hw'
            obtain ⟨nx, rfl⟩ := hw'
            go_wp2
            go_ret
            exact ⟨by rw [HR.out]; rfl, box_old (box_on HB (below_trans (below_alloc (Below.refl _ _) _) nx.below))⟩
        ·have hk' : ¬ (k : Int) < (seen.length : Int) := by omega
         have HN2 : Hid (nodeB (⟨id, has, spent, earned, seen, peers.map Pr.d⟩ : NdD) = allTo (pdB id (peers.map Pr.d)) peers.length) := hide (by
          have hs := HS.out
          rw [show k = seen.length by omega] at hs
          rw [HN.out, hs]; rfl)
         have HBX : Hid _ := hide HB
         clear HS HB
         go_wp2
         go_loopw [5] (fun i wr => ∃ k : Nat, k ≤ peers.length ∧ i = J Z (k : Int) ∧ Below (w.heap.size + 1) (w.alloc (.cells #[J Z id, J Z has, J Z spent, J Z earned, V sa seen.length sc, V pa peers.length pc] 27)) wr ∧ Hid (allTo (pdB id (peers.map Pr.d)) k = true)) (fun i wr => peers.length - (intOf i).toNat)
         case atStart => exact ⟨0, Nat.zero_le _, rfl, HBX.out, hide rfl⟩
         case round =>
          clear hk hk'
          obtain ⟨k, hk, rfl, HB, HS⟩ := hrel
          have x0 := boxN HB 0 _ rfl
          have x5 := boxN HB 5 _ rfl
          by_cases hlt : k < peers.length
          ·obtain ⟨b, off, rfl, hb, c0, c1, c2, c3⟩ := pr_row (H2.out.row.below (box_old HB)) k hlt
           have hlt' : (k : Int) < (peers.length : Int) := by omega
           have hbx : w.heap.size < wr.heap.size := box_lt HB
           have x0' := later_old (o := .cells #[J Z (peers[k]).id, V (peers[k]).a (peers[k]).E.out.length (peers[k]).cap, J Z (peers[k]).E.sent, J Z (peers[k]).E.got] 41) hbx x0
           have x5' := later_old (o := .cells #[J Z (peers[k]).id, V (peers[k]).a (peers[k]).E.out.length (peers[k]).cap, J Z (peers[k]).E.sent, J Z (peers[k]).E.got] 41) hbx x5
           have s0' := later_newN (wr := wr) (cur := #[J Z (peers[k]).id, V (peers[k]).a (peers[k]).E.out.length (peers[k]).cap, J Z (peers[k]).E.sent, J Z (peers[k]).E.got]) (T := 41) 0 _ rfl
           have s1' := later_newN (wr := wr) (cur := #[J Z (peers[k]).id, V (peers[k]).a (peers[k]).E.out.length (peers[k]).cap, J Z (peers[k]).E.sent, J Z (peers[k]).E.got]) (T := 41) 1 _ rfl
           have s2' := later_newN (wr := wr) (cur := #[J Z (peers[k]).id, V (peers[k]).a (peers[k]).E.out.length (peers[k]).cap, J Z (peers[k]).E.sent, J Z (peers[k]).E.got]) (T := 41) 2 _ rfl
           have s3' := later_newN (wr := wr) (cur := #[J Z (peers[k]).id, V (peers[k]).a (peers[k]).E.out.length (peers[k]).cap, J Z (peers[k]).E.sent, J Z (peers[k]).E.got]) (T := 41) 3 _ rfl
           have hne : Nonempty (Later (wr.alloc (.cells #[J Z (peers[k]).id, V (peers[k]).a (peers[k]).E.out.length (peers[k]).cap, J Z (peers[k]).E.sent, J Z (peers[k]).E.got] 41))) := later_there _
           have HRow : Hid (RowAt 2 prcCells (wr.alloc (.cells #[J Z (peers[k]).id, V (peers[k]).a (peers[k]).E.out.length (peers[k]).cap, J Z (peers[k]).E.sent, J Z (peers[k]).E.got] 41)) (peers[k]).a (peers[k]).E.out) := hide (((H2.out.ends (peers[k]) (List.getElem_mem hlt)).below (box_old HB)).below (below_alloc (Below.refl _ _) _))
           have HSm : Hid _ := hide (hsm (peers[k]) (List.getElem_mem hlt))
           cases p1 : inB 1 1000000000 (peers[k]).id
           ·skip
            have HR : Hid (nodeB (⟨id, has, spent, earned, seen, peers.map Pr.d⟩ : NdD) = false) := hide (by rw [HN2.out, allTo_false hlt (by rw [pdB_at hlt, p1]; rfl)])
            go_wp2_with fail
            refine wp_region_later (wr.alloc (.cells #[J Z (peers[k]).id, V (peers[k]).a (peers[k]).E.out.length (peers[k]).cap, J Z (peers[k]).E.sent, J Z (peers[k]).E.got] 41)) (by kernel_rfl) (by kernel_rfl) ((Below.refl _ _).drew) ?_
            repeat (go_big_quiet_step (first | (go_at_call 47; exact later_same (l1In_any _ _ _ _)) | (go_at_call 48; exact later_of (specEndOk_any _ _ _ _ _ _ HSm.out (HRow.out.below (Later.below _))))))
            refine wpQuiet_nil ?_
            intro _ hw'
            obtain ⟨nx, rfl⟩ := hw'
            go_wp2
            go_ret
            exact ⟨by rw [HR.out]; rfl, box_old (box_on HB (below_trans (below_alloc (Below.refl _ _) _) nx.below))⟩
           ·cases p2 : ((peers[k]).id == id)
            ·by_cases hz : k = 0
             ·have hri : Hid (risesB (peers.map Pr.id) k = true) := hide (by rw [hz]; rfl)
              have hz' : decide ((0 : Int) < (k : Int)) = false := by simp; omega
              have hz'' : decide (0 < k) = false := by simp; omega
              clear hz
              cases p3 : endB (peers[k]).E
              ·skip
               have HR : Hid (nodeB (⟨id, has, spent, earned, seen, peers.map Pr.d⟩ : NdD) = false) := hide (by rw [HN2.out, allTo_false hlt (by rw [pdB_at hlt, p1, hri.out, p2, p3]; rfl)])
               go_wp2_with fail
               refine wp_region_later (wr.alloc (.cells #[J Z (peers[k]).id, V (peers[k]).a (peers[k]).E.out.length (peers[k]).cap, J Z (peers[k]).E.sent, J Z (peers[k]).E.got] 41)) (by kernel_rfl) (by kernel_rfl) ((Below.refl _ _).drew) ?_
               repeat (go_big_quiet_step (first | (go_at_call 47; exact later_same (l1In_any _ _ _ _)) | (go_at_call 48; exact later_of (specEndOk_any _ _ _ _ _ _ HSm.out (HRow.out.below (Later.below _))))))
               refine wpQuiet_nil ?_
               intro _ hw'
               obtain ⟨nx, rfl⟩ := hw'
               go_wp2
               go_ret
               exact ⟨by rw [HR.out]; rfl, box_old (box_on HB (below_trans (below_alloc (Below.refl _ _) _) nx.below))⟩
              ·have HS2 : Hid (allTo (pdB id (peers.map Pr.d)) (k + 1) = true) := hide (allTo_step HS.out (by rw [pdB_at hlt, p1, hri.out, p2, p3]; rfl))
               go_wp2_with fail
               refine wp_region_later (wr.alloc (.cells #[J Z (peers[k]).id, V (peers[k]).a (peers[k]).E.out.length (peers[k]).cap, J Z (peers[k]).E.sent, J Z (peers[k]).E.got] 41)) (by kernel_rfl) (by kernel_rfl) ((Below.refl _ _).drew) ?_
               repeat (go_big_quiet_step (first | (go_at_call 47; exact later_same (l1In_any _ _ _ _)) | (go_at_call 48; exact later_of (specEndOk_any _ _ _ _ _ _ HSm.out (HRow.out.below (Later.below _))))))
               refine wpQuiet_nil ?_
               intro _ hw'
               obtain ⟨nx, rfl⟩ := hw'
               go_wp2
               exact ⟨⟨k + 1, by omega, by go_num, box_on HB (below_trans (below_alloc (Below.refl _ _) _) nx.below), HS2⟩, by simp [intOf]; omega⟩
             ·obtain ⟨m, hm⟩ : ∃ m, k = m + 1 := ⟨k - 1, by omega⟩
              have hm3 : m < peers.length := by omega
              obtain ⟨b', off', heq, hb', p0, _⟩ := pr_row (H2.out.row.below (box_old HB)) m hm3
              simp only [Option.some.injEq, Addr.mk.injEq, and_true] at heq
              obtain ⟨rfl, rfl⟩ := heq
              have p0' := later_old (o := .cells #[J Z (peers[k]).id, V (peers[k]).a (peers[k]).E.out.length (peers[k]).cap, J Z (peers[k]).E.sent, J Z (peers[k]).E.got] 41) hb' p0
              have hz' : (0 : Int) < (k : Int) := by omega
              have hm1 : IntKind.i64.wrap ((k : Int) - 1) = (m : Int) := wrap_pred hm (by omega)
              have hm2 : (m : Int) < (peers.length : Int) := by omega
              have hz'' : 0 < k := by omega
              have hrs : risesB (peers.map Pr.id) k = decide ((peers[m]).id < (peers[k]).id) := by subst hm; exact rises_pr hlt
              by_cases q7 : (peers[m]).id < (peers[k]).id
              ·have hri : Hid (risesB (peers.map Pr.id) k = true) := hide (by rw [hrs]; simpa using q7)
               have q7' : decide ((peers[k]).id ≤ (peers[m]).id) = false := by simp; omega
               clear hrs hm hz
               cases p3 : endB (peers[k]).E
               ·skip
                have HR : Hid (nodeB (⟨id, has, spent, earned, seen, peers.map Pr.d⟩ : NdD) = false) := hide (by rw [HN2.out, allTo_false hlt (by rw [pdB_at hlt, p1, hri.out, p2, p3]; rfl)])
                go_wp2_with fail
                refine wp_region_later (wr.alloc (.cells #[J Z (peers[k]).id, V (peers[k]).a (peers[k]).E.out.length (peers[k]).cap, J Z (peers[k]).E.sent, J Z (peers[k]).E.got] 41)) (by kernel_rfl) (by kernel_rfl) ((Below.refl _ _).drew) ?_
                repeat (go_big_quiet_step (first | (go_at_call 47; exact later_same (l1In_any _ _ _ _)) | (go_at_call 48; exact later_of (specEndOk_any _ _ _ _ _ _ HSm.out (HRow.out.below (Later.below _))))))
                refine wpQuiet_nil ?_
                intro _ hw'
                obtain ⟨nx, rfl⟩ := hw'
                go_wp2
                go_ret
                exact ⟨by rw [HR.out]; rfl, box_old (box_on HB (below_trans (below_alloc (Below.refl _ _) _) nx.below))⟩
               ·have HS2 : Hid (allTo (pdB id (peers.map Pr.d)) (k + 1) = true) := hide (allTo_step HS.out (by rw [pdB_at hlt, p1, hri.out, p2, p3]; rfl))
                go_wp2_with fail
                refine wp_region_later (wr.alloc (.cells #[J Z (peers[k]).id, V (peers[k]).a (peers[k]).E.out.length (peers[k]).cap, J Z (peers[k]).E.sent, J Z (peers[k]).E.got] 41)) (by kernel_rfl) (by kernel_rfl) ((Below.refl _ _).drew) ?_
                repeat (go_big_quiet_step (first | (go_at_call 47; exact later_same (l1In_any _ _ _ _)) | (go_at_call 48; exact later_of (specEndOk_any _ _ _ _ _ _ HSm.out (HRow.out.below (Later.below _))))))
                refine wpQuiet_nil ?_
                intro _ hw'
                obtain ⟨nx, rfl⟩ := hw'
                go_wp2
                exact ⟨⟨k + 1, by omega, by go_num, box_on HB (below_trans (below_alloc (Below.refl _ _) _) nx.below), HS2⟩, by simp [intOf]; omega⟩
              ·have q7' : (peers[k]).id ≤ (peers[m]).id := by omega
               have HR : Hid (nodeB (⟨id, has, spent, earned, seen, peers.map Pr.d⟩ : NdD) = false) := hide (by rw [HN2.out, allTo_false hlt (by rw [pdB_at hlt, hrs, decide_eq_false q7]; simp)])
               clear hrs hm hz
               go_wp2_with fail
               refine wp_region_later (wr.alloc (.cells #[J Z (peers[k]).id, V (peers[k]).a (peers[k]).E.out.length (peers[k]).cap, J Z (peers[k]).E.sent, J Z (peers[k]).E.got] 41)) (by kernel_rfl) (by kernel_rfl) ((Below.refl _ _).drew) ?_
               repeat (go_big_quiet_step (first | (go_at_call 47; exact later_same (l1In_any _ _ _ _)) | (go_at_call 48; exact later_of (specEndOk_any _ _ _ _ _ _ HSm.out (HRow.out.below (Later.below _))))))
               refine wpQuiet_nil ?_
               intro _ hw'
               obtain ⟨nx, rfl⟩ := hw'
               go_wp2
               go_ret
               exact ⟨by rw [HR.out]; rfl, box_old (box_on HB (below_trans (below_alloc (Below.refl _ _) _) nx.below))⟩
            ·skip
             have HR : Hid (nodeB (⟨id, has, spent, earned, seen, peers.map Pr.d⟩ : NdD) = false) := hide (by rw [HN2.out, allTo_false hlt (by rw [pdB_at hlt, p2]; simp)])
             go_wp2_with fail
             refine wp_region_later (wr.alloc (.cells #[J Z (peers[k]).id, V (peers[k]).a (peers[k]).E.out.length (peers[k]).cap, J Z (peers[k]).E.sent, J Z (peers[k]).E.got] 41)) (by kernel_rfl) (by kernel_rfl) ((Below.refl _ _).drew) ?_
             repeat (go_big_quiet_step (first | (go_at_call 47; exact later_same (l1In_any _ _ _ _)) | (go_at_call 48; exact later_of (specEndOk_any _ _ _ _ _ _ HSm.out (HRow.out.below (Later.below _))))))
             refine wpQuiet_nil ?_
             intro _ hw'
             obtain ⟨nx, rfl⟩ := hw'
             go_wp2
             go_ret
             exact ⟨by rw [HR.out]; rfl, box_old (box_on HB (below_trans (below_alloc (Below.refl _ _) _) nx.below))⟩
          ·have hk' : ¬ (k : Int) < (peers.length : Int) := by omega
           have HR : Hid (nodeB (⟨id, has, spent, earned, seen, peers.map Pr.d⟩ : NdD) = true) := hide (by
            have hs := HS.out
            rw [show k = peers.length by omega] at hs
            rw [HN2.out, hs])
           go_wp2
           go_ret
           exact ⟨by rw [HR.out]; rfl, box_old HB⟩
      ·have HR : Hid (nodeB (⟨id, has, spent, earned, seen, peers.map Pr.d⟩ : NdD) = false) := hide (by simp [nodeB, g2])
       have a1 : ¬ (40 : Int) < (seen.length : Int) := by omega
       have a2 : (8 : Int) < (peers.length : Int) := by omega
       go_enter Try.func17, Try.ntmps17
       go_wp2_with (first | (go_at_call 47; refine (l1In_any _ _ _ _).mono ?_; rintro e w' ⟨rfl, hw'⟩; have hw'' := hw'.symm; subst hw''))
       go_ret
       exact ⟨by rw [HR.out]; rfl, below_alloc (Below.refl _ _) _⟩
     ·have HR : Hid (nodeB (⟨id, has, spent, earned, seen, peers.map Pr.d⟩ : NdD) = false) := hide (by simp [nodeB, g1])
      have a1 : (40 : Int) < (seen.length : Int) := by omega
      go_enter Try.func17, Try.ntmps17
      go_wp2_with (first | (go_at_call 47; refine (l1In_any _ _ _ _).mono ?_; rintro e w' ⟨rfl, hw'⟩; have hw'' := hw'.symm; subst hw''))
      go_ret
      exact ⟨by rw [HR.out]; rfl, below_alloc (Below.refl _ _) _⟩
end Go.Proofs.Ytkcpoibhlnjldaa
