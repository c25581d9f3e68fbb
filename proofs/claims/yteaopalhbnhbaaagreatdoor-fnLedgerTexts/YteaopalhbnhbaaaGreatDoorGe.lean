/- The box of a call; how LedgerOk ends. -/
import Derived.Test.YteaopalhbnhbaaaGreatDoorGd
namespace Go.Proofs.YteaopalhbnhbaaaGreatDoor
open Go.ChangeShapes Go.WideShapes Go.ChangeAt Go.RowKit
set_option linter.unusedVariables false
set_option maxRecDepth 100000
def OkEnd (b : Bool) (w : World) (e : Ending) (w' : World) : Prop := e = .returned (.bool b) ∧ Below w.heap.size w w'
theorem below_of_box {w wr : World} {o : Obj} (h : Below (w.heap.size + 1) (w.alloc o) wr) : Below w.heap.size w wr :=
  (below_alloc (Below.refl _ _) o).trans (h.mono (by omega))
theorem box_grow {w a b : World} {o : Obj} (h : Below (w.heap.size + 1) (w.alloc o) a) (k : Below a.heap.size a b) : Below (w.heap.size + 1) (w.alloc o) b :=
  h.trans (k.mono (by have := h.size; simpa using this))
theorem after_box {w wr w5 : World} {va vh vs v0 v1 v2 v3 : Value} {T : TypeId} (hsz : w.heap.size < wr.heap.size) (e0 : wr.cell? ⟨w.heap.size, 0, none⟩ = some va) (e1 : wr.cell? ⟨w.heap.size, 1, none⟩ = some vh) (e2 : wr.cell? ⟨w.heap.size, 2, none⟩ = some vs)
    (HB : Below (wr.alloc (.cells #[v0, v1, v2, v3] T)).drew.heap.size (wr.alloc (.cells #[v0, v1, v2, v3] T)).drew w5) :
    w5.cell? ⟨w.heap.size, 0, none⟩ = some va ∧ w5.cell? ⟨w.heap.size, 1, none⟩ = some vh ∧ w5.cell? ⟨w.heap.size, 2, none⟩ = some vs ∧ w5.cell? ⟨wr.heap.size, 0, none⟩ = some v0 ∧ w5.cell? ⟨wr.heap.size, 1, none⟩ = some v1 := by
  have h0 : w.heap.size < (wr.alloc (.cells #[v0, v1, v2, v3] T)).drew.heap.size := by show w.heap.size < (wr.alloc _).heap.size; simp; omega
  have h1 : wr.heap.size < (wr.alloc (.cells #[v0, v1, v2, v3] T)).drew.heap.size := by show wr.heap.size < (wr.alloc _).heap.size; simp
  exact ⟨(HB.cell h0).trans ((World.cell?_alloc_past _ _ _ hsz).trans e0), (HB.cell h0).trans ((World.cell?_alloc_past _ _ _ hsz).trans e1), (HB.cell h0).trans ((World.cell?_alloc_past _ _ _ hsz).trans e2), (HB.cell h1).trans (World.cell?_alloc_at _ _ _ _ rfl), (HB.cell h1).trans (World.cell?_alloc_at _ _ _ _ rfl)⟩
end Go.Proofs.YteaopalhbnhbaaaGreatDoor
/- The contract of the model's LedgerOk: the walk. -/
namespace Go.Proofs.YteaopalhbnhbaaaGreatDoor
open Go.ChangeShapes Go.WideShapes Go.ChangeAt Go.RowKit
set_option linter.unusedVariables false
set_option maxRecDepth 100000
set_option maxHeartbeats 20000000 in
set_option maxRecDepth 1000000 in
theorem specLedgerOk_any (a h s : Option Addr) (L : Led) (ca ch cs : Nat) (w : World) (hl : LedAt w a h s L) (n1 : L.acc.length ≤ 1048576) (n2 : L.hold.length ≤ 1048576) (n3 : L.seen.length ≤ 1048576) :
    Calls Tryz.prog 25 #[.agg #[.slice a L.acc.length ca, .slice h L.hold.length ch, .slice s L.seen.length cs]] w fun e w' => OkEnd (ledS L) w e w' := by
  have HL : Hid _ := hide hl
  clear hl
  by_cases g1 : L.acc.length ≤ 12
  · by_cases g2 : L.hold.length ≤ 10
    · by_cases g3 : L.seen.length ≤ 40
      · have HE : Hid (ledS L = (allTo (postB L) L.acc.length && allTo (holdB L) L.hold.length && allTo (accB L) L.acc.length && allTo (ansB L) L.seen.length)) := hide (by simp [ledS, g1, g2, g3])
        have g1' : (L.acc.length : Int) ≤ 12 := by omega
        have g2' : (L.hold.length : Int) ≤ 10 := by omega
        have g3' : (L.seen.length : Int) ≤ 40 := by omega
        go_enter Tryz.func25, Tryz.ntmps25
        go_wp2
        go_loopw [3] (fun i wr => ∃ k : Nat, k ≤ L.acc.length ∧ i = .int .i64 (k : Int) ∧ wr = w.alloc (.cells #[.slice a L.acc.length ca, .slice h L.hold.length ch, .slice s L.seen.length cs] 28) ∧ Hid (allTo (postB L) k = true)) (fun i wr => L.acc.length - (intOf i).toNat)
        case atStart => exact ⟨0, Nat.zero_le _, rfl, rfl, hide rfl⟩
        case round =>
          obtain ⟨k, hk, rfl, rfl, HP⟩ := hrel
          by_cases hlt : k < L.acc.length
          · obtain ⟨b, off, rfl, hb, _, _, _, c3, _⟩ := HL.out.acc k hlt
            have hlt' : (k : Int) < (L.acc.length : Int) := by omega
            cases hq : inB (-1000000000000) 1000000000000 (L.acc[k]).posted
            · have HR : Hid (ledS L = false) := hide (by rw [HE.out, allTo_false hlt (by rw [postB_at hlt]; exact hq)]; rfl)
              go_wp2_with (go_at_call 62; refine (l1In_any _ _ _ _).mono ?_; rintro e w' ⟨rfl, rfl⟩)
              go_ret
              exact ⟨by rw [HR.out]; rfl, below_alloc (Below.refl _ _) _⟩
            · have HP2 : Hid (allTo (postB L) (k + 1) = true) := hide (allTo_step HP.out (by rw [postB_at hlt]; exact hq))
              go_wp2_with (go_at_call 62; refine (l1In_any _ _ _ _).mono ?_; rintro e w' ⟨rfl, rfl⟩)
              exact ⟨⟨k + 1, by omega, by go_num, trivial, HP2⟩, by simp [intOf]; omega⟩
          · have hk' : ¬ (k : Int) < (L.acc.length : Int) := by omega
            have HPa : Hid (allTo (postB L) L.acc.length = true) := hide (by have := HP.out; rwa [show k = L.acc.length by omega] at this)
            go_wp2
            go_loopw [4] (fun i wr => ∃ k : Nat, k ≤ L.hold.length ∧ i = .int .i64 (k : Int) ∧ Below (w.heap.size + 1) (w.alloc (.cells #[.slice a L.acc.length ca, .slice h L.hold.length ch, .slice s L.seen.length cs] 28)) wr ∧ Hid (allTo (holdB L) k = true)) (fun i wr => L.hold.length - (intOf i).toNat)
            case atStart => exact ⟨0, Nat.zero_le _, rfl, Below.refl _ _, hide rfl⟩
            case round =>
              clear hk hk' hlt HP
              obtain ⟨k2, hk2, rfl, HB2, HH⟩ := hrel
              have hsz : w.heap.size < wr.heap.size := by have := HB2.size; simp at this; omega
              have e0 : wr.cell? ⟨w.heap.size, 0, none⟩ = some (.slice a L.acc.length ca) := by rw [HB2.cell (by simp)]; simp
              have e1 : wr.cell? ⟨w.heap.size, 1, none⟩ = some (.slice h L.hold.length ch) := by rw [HB2.cell (by simp)]; simp
              have e2 : wr.cell? ⟨w.heap.size, 2, none⟩ = some (.slice s L.seen.length cs) := by rw [HB2.cell (by simp)]; simp
              by_cases hlt : k2 < L.hold.length
              · as_aux_lemma =>
                  obtain ⟨b, off, rfl, hb, c0, c1, c2, c3, _⟩ := (HL.out.hold.below (below_of_box HB2)) k2 hlt
                  have hlt' : (k2 : Int) < (L.hold.length : Int) := by omega
                  have HBa : Below w.heap.size w (wr.alloc (.cells #[.int .i64 (L.hold[k2]).id, .string (L.hold[k2]).fr, .string (L.hold[k2]).to, .int .i64 (L.hold[k2]).amount] 53)) := below_alloc (below_of_box HB2) _
                  go_wp2_with fail
                  refine (l2Find_any a L.acc ca _ _ _ _ n1 (HL.out.acc.below HBa)).mono ?_
                  rintro e w3 hf1
                  obtain ⟨HB3, r1, rfl, F1⟩ := findIs_of hf1
                  have HF1 : Hid _ := hide F1
                  clear hf1 F1
                  have HBw3 : Below w.heap.size w w3 := below_trans HBa HB3
                  have k0 : w3.cell? ⟨w.heap.size, 0, none⟩ = some (.slice a L.acc.length ca) := by rw [HB3.cell (by simp; omega), World.cell?_alloc_past _ _ _ hsz]; exact e0
                  have k1 : w3.cell? ⟨w.heap.size, 1, none⟩ = some (.slice (some ⟨b, off, none⟩) L.hold.length ch) := by rw [HB3.cell (by simp; omega), World.cell?_alloc_past _ _ _ hsz]; exact e1
                  have k2' : w3.cell? ⟨w.heap.size, 2, none⟩ = some (.slice s L.seen.length cs) := by rw [HB3.cell (by simp; omega), World.cell?_alloc_past _ _ _ hsz]; exact e2
                  have x2 : w3.cell? ⟨wr.heap.size, 2, none⟩ = some (.string (L.hold[k2]).to) := by rw [HB3.cell (by simp)]; simp
                  go_wp2_with fail
                  refine (l2Find_any a L.acc ca _ _ _ _ n1 (HL.out.acc.below HBw3)).mono ?_
                  rintro e w4 hf2
                  obtain ⟨HB4', r2, rfl, F2⟩ := findIs_of hf2
                  have HF2 : Hid _ := hide F2
                  clear hf2 F2 k0 k1 k2' x2
                  have HBw4 : Below w.heap.size w w4 := below_trans HBw3 HB4'
                  have HBr4 : Below (wr.alloc (.cells #[.int .i64 (L.hold[k2]).id, .string (L.hold[k2]).fr, .string (L.hold[k2]).to, .int .i64 (L.hold[k2]).amount] 53)).heap.size (wr.alloc (.cells #[.int .i64 (L.hold[k2]).id, .string (L.hold[k2]).fr, .string (L.hold[k2]).to, .int .i64 (L.hold[k2]).amount] 53)) w4 := below_trans HB3 HB4'
                  have HBx4 : Below (w.heap.size + 1) (w.alloc (.cells #[.slice a L.acc.length ca, .slice (some ⟨b, off, none⟩) L.hold.length ch, .slice s L.seen.length cs] 28)) w4 := box_grow HB2 (below_trans (below_alloc (Below.refl _ _) _) HBr4)
                  have HL4 : Hid _ := hide (HL.out.below HBw4)
                  have k0 : w4.cell? ⟨w.heap.size, 0, none⟩ = some (.slice a L.acc.length ca) := by rw [HBr4.cell (by simp; omega), World.cell?_alloc_past _ _ _ hsz]; exact e0
                  have k1 : w4.cell? ⟨w.heap.size, 1, none⟩ = some (.slice (some ⟨b, off, none⟩) L.hold.length ch) := by rw [HBr4.cell (by simp; omega), World.cell?_alloc_past _ _ _ hsz]; exact e1
                  have x0 : w4.cell? ⟨wr.heap.size, 0, none⟩ = some (.int .i64 (L.hold[k2]).id) := by rw [HBr4.cell (by simp)]; simp
                  have x3 : w4.cell? ⟨wr.heap.size, 3, none⟩ = some (.int .i64 (L.hold[k2]).amount) := by rw [HBr4.cell (by simp)]; simp
                  clear e0 e1 e2 c0 c1 c2 c3 hb HB3 HBw3 HBa HB4' HBr4 HB2 hsz
                  cases q1 : inB 1 1000000000 (L.hold[k2]).id
                  · have HR : Hid (ledS L = false) := hide (by rw [HE.out, allTo_false hlt (by rw [holdB_at hlt, q1]; simp)]; simp)
                    go_wp2_with fail
                    go_quiet ((go_at_call 62; exact Calls.quiet_of_same (l1In_any _ _ _ _)))
                    go_wp2
                    go_ret
                    exact ⟨by rw [HR.out]; rfl, below_drewN HBw4 _⟩
                  · by_cases hz : k2 = 0
                    · have hri : Hid (risesB (L.hold.map Hld.id) k2 = true) := hide (by rw [hz]; rfl)
                      have hz' : decide ((0 : Int) < (k2 : Int)) = false := by simp; omega
                      have hz'' : decide (0 < k2) = false := by simp; omega
                      clear hz
                      rcases HF1.out with ⟨i, hi, f1, rfl⟩ | ⟨f1, rfl⟩
                      · rcases HF2.out with ⟨j, hj, f2, rfl⟩ | ⟨f2, rfl⟩
                        · obtain ⟨ba, oa, rfl, hba, _, di, _, _, _⟩ := HL4.out.acc i hi
                          obtain ⟨ba', oa', heq, _, _, dj, _, _, _⟩ := HL4.out.acc j hj
                          simp only [Option.some.injEq, Addr.mk.injEq, and_true] at heq
                          obtain ⟨rfl, rfl⟩ := heq
                          have hi' : (i : Int) < (L.acc.length : Int) := by omega
                          have hj' : (j : Int) < (L.acc.length : Int) := by omega
                          have hn1 : decide ((i : Int) < 0) = false := by simp
                          have hn2 : decide ((j : Int) < 0) = false := by simp
                          have hps := pairB_some f1 f2 hi hj
                          have HPS : Hid _ := hide hps
                          clear hps f1 f2 HF1 HF2
                          by_cases q5 : i = j
                          · have q5' : ((i : Int) == (j : Int)) = true := by simp [q5]
                            have q5'' : (i == j) = true := by simp [q5]
                            have HR : Hid (ledS L = false) := hide (by rw [HE.out, allTo_false hlt (by rw [holdB_at hlt, q1, hri.out, HPS.out, decide_eq_false (show ¬ i ≠ j from fun h => h q5)]; simp)]; simp)
                            clear q5
                            go_wp2_with fail
                            go_quiet ((go_at_call 62; exact Calls.quiet_of_same (l1In_any _ _ _ _)))
                            go_wp2
                            go_ret
                            exact ⟨by rw [HR.out]; rfl, below_drewN HBw4 _⟩
                          · have q5' : ((i : Int) == (j : Int)) = false := by simp; omega
                            have q5'' : (i == j) = false := by simpa using q5
                            cases q6 : ((L.acc[i]).cur.toList == (L.acc[j]).cur.toList)
                            · have HR : Hid (ledS L = false) := hide (by rw [HE.out, allTo_false hlt (by rw [holdB_at hlt, q1, hri.out, HPS.out, show sameB (L.acc[i]).cur (L.acc[j]).cur = false from q6]; simp)]; simp)
                              clear q5
                              go_wp2_with fail
                              go_quiet ((go_at_call 62; exact Calls.quiet_of_same (l1In_any _ _ _ _)))
                              go_wp2
                              go_ret
                              exact ⟨by rw [HR.out]; rfl, below_drewN HBw4 _⟩
                            · cases q7 : inB 1 1000000000000 (L.hold[k2]).amount
                              · have HR : Hid (ledS L = false) := hide (by rw [HE.out, allTo_false hlt (by rw [holdB_at hlt, q1, hri.out, HPS.out, q7]; simp)]; simp)
                                clear q5
                                go_wp2_with fail
                                go_quiet ((go_at_call 62; exact Calls.quiet_of_same (l1In_any _ _ _ _)))
                                go_wp2
                                go_ret
                                exact ⟨by rw [HR.out]; rfl, below_drewN HBw4 _⟩
                              · have HH2 : Hid (allTo (holdB L) (k2 + 1) = true) := hide (allTo_step HH.out (by rw [holdB_at hlt, q1, hri.out, HPS.out, show sameB (L.acc[i]).cur (L.acc[j]).cur = true from q6, q7]; simp [q5]))
                                clear q5
                                go_wp2_with fail
                                go_quiet ((go_at_call 62; exact Calls.quiet_of_same (l1In_any _ _ _ _)))
                                go_wp2
                                exact ⟨⟨_, by omega, by go_num, below_drewN HBx4 _, HH2⟩, by simp [intOf]; omega⟩
                        · have HR : Hid (ledS L = false) := hide (by rw [HE.out, allTo_false hlt (by rw [holdB_at hlt, q1, hri.out, pairB_none2 f2]; simp)]; simp)
                          have hn1 : decide ((i : Int) < 0) = false := by simp
                          clear f1 f2 HF1 HF2
                          go_wp2_with fail
                          go_quiet ((go_at_call 62; exact Calls.quiet_of_same (l1In_any _ _ _ _)))
                          go_wp2
                          go_ret
                          exact ⟨by rw [HR.out]; rfl, below_drewN HBw4 _⟩
                      · have HR : Hid (ledS L = false) := hide (by rw [HE.out, allTo_false hlt (by rw [holdB_at hlt, q1, hri.out, pairB_none1 f1]; simp)]; simp)
                        clear f1 HF1
                        go_wp2_with fail
                        go_quiet ((go_at_call 62; exact Calls.quiet_of_same (l1In_any _ _ _ _)))
                        go_wp2
                        go_ret
                        exact ⟨by rw [HR.out]; rfl, below_drewN HBw4 _⟩
                    · obtain ⟨m, hm⟩ : ∃ m, k2 = m + 1 := ⟨k2 - 1, by omega⟩
                      have hm3 : m < L.hold.length := by omega
                      obtain ⟨b', off', heq, _, p0, _, _, _, _⟩ := HL4.out.hold m hm3
                      simp only [Option.some.injEq, Addr.mk.injEq, and_true] at heq
                      obtain ⟨rfl, rfl⟩ := heq
                      have hz' : (0 : Int) < (k2 : Int) := by omega
                      have hz'' : 0 < k2 := by omega
                      have hm1 : IntKind.i64.wrap ((k2 : Int) - 1) = (m : Int) := by rw [show (k2 : Int) - 1 = (m : Int) by omega]; simp only [IntKind.wrap, IntKind.signed, IntKind.bits]; simp; omega
                      have hm2 : (m : Int) < (L.hold.length : Int) := by omega
                      have hrs : risesB (L.hold.map Hld.id) k2 = decide ((L.hold[m]).id < (L.hold[k2]).id) := by subst hm; exact rises_hold hlt
                      by_cases q2 : (L.hold[m]).id < (L.hold[k2]).id
                      · have hri : Hid (risesB (L.hold.map Hld.id) k2 = true) := hide (by rw [hrs]; simpa using q2)
                        have q2' : decide ((L.hold[k2]).id ≤ (L.hold[m]).id) = false := by simp; omega
                        clear hrs hm hz
                        rcases HF1.out with ⟨i, hi, f1, rfl⟩ | ⟨f1, rfl⟩
                        · rcases HF2.out with ⟨j, hj, f2, rfl⟩ | ⟨f2, rfl⟩
                          · obtain ⟨ba, oa, rfl, hba, _, di, _, _, _⟩ := HL4.out.acc i hi
                            obtain ⟨ba', oa', heq, _, _, dj, _, _, _⟩ := HL4.out.acc j hj
                            simp only [Option.some.injEq, Addr.mk.injEq, and_true] at heq
                            obtain ⟨rfl, rfl⟩ := heq
                            have hi' : (i : Int) < (L.acc.length : Int) := by omega
                            have hj' : (j : Int) < (L.acc.length : Int) := by omega
                            have hn1 : decide ((i : Int) < 0) = false := by simp
                            have hn2 : decide ((j : Int) < 0) = false := by simp
                            have hps := pairB_some f1 f2 hi hj
                            have HPS : Hid _ := hide hps
                            clear hps f1 f2 HF1 HF2
                            by_cases q5 : i = j
                            · have q5' : ((i : Int) == (j : Int)) = true := by simp [q5]
                              have q5'' : (i == j) = true := by simp [q5]
                              have HR : Hid (ledS L = false) := hide (by rw [HE.out, allTo_false hlt (by rw [holdB_at hlt, q1, hri.out, HPS.out, decide_eq_false (show ¬ i ≠ j from fun h => h q5)]; simp)]; simp)
                              clear q5
                              go_wp2_with fail
                              go_quiet ((go_at_call 62; exact Calls.quiet_of_same (l1In_any _ _ _ _)))
                              go_wp2
                              go_ret
                              exact ⟨by rw [HR.out]; rfl, below_drewN HBw4 _⟩
                            · have q5' : ((i : Int) == (j : Int)) = false := by simp; omega
                              have q5'' : (i == j) = false := by simpa using q5
                              cases q6 : ((L.acc[i]).cur.toList == (L.acc[j]).cur.toList)
                              · have HR : Hid (ledS L = false) := hide (by rw [HE.out, allTo_false hlt (by rw [holdB_at hlt, q1, hri.out, HPS.out, show sameB (L.acc[i]).cur (L.acc[j]).cur = false from q6]; simp)]; simp)
                                clear q5
                                go_wp2_with fail
                                go_quiet ((go_at_call 62; exact Calls.quiet_of_same (l1In_any _ _ _ _)))
                                go_wp2
                                go_ret
                                exact ⟨by rw [HR.out]; rfl, below_drewN HBw4 _⟩
                              · cases q7 : inB 1 1000000000000 (L.hold[k2]).amount
                                · have HR : Hid (ledS L = false) := hide (by rw [HE.out, allTo_false hlt (by rw [holdB_at hlt, q1, hri.out, HPS.out, q7]; simp)]; simp)
                                  clear q5
                                  go_wp2_with fail
                                  go_quiet ((go_at_call 62; exact Calls.quiet_of_same (l1In_any _ _ _ _)))
                                  go_wp2
                                  go_ret
                                  exact ⟨by rw [HR.out]; rfl, below_drewN HBw4 _⟩
                                · have HH2 : Hid (allTo (holdB L) (k2 + 1) = true) := hide (allTo_step HH.out (by rw [holdB_at hlt, q1, hri.out, HPS.out, show sameB (L.acc[i]).cur (L.acc[j]).cur = true from q6, q7]; simp [q5]))
                                  clear q5
                                  go_wp2_with fail
                                  go_quiet ((go_at_call 62; exact Calls.quiet_of_same (l1In_any _ _ _ _)))
                                  go_wp2
                                  exact ⟨⟨_, by omega, by go_num, below_drewN HBx4 _, HH2⟩, by simp [intOf]; omega⟩
                          · have HR : Hid (ledS L = false) := hide (by rw [HE.out, allTo_false hlt (by rw [holdB_at hlt, q1, hri.out, pairB_none2 f2]; simp)]; simp)
                            have hn1 : decide ((i : Int) < 0) = false := by simp
                            clear f1 f2 HF1 HF2
                            go_wp2_with fail
                            go_quiet ((go_at_call 62; exact Calls.quiet_of_same (l1In_any _ _ _ _)))
                            go_wp2
                            go_ret
                            exact ⟨by rw [HR.out]; rfl, below_drewN HBw4 _⟩
                        · have HR : Hid (ledS L = false) := hide (by rw [HE.out, allTo_false hlt (by rw [holdB_at hlt, q1, hri.out, pairB_none1 f1]; simp)]; simp)
                          clear f1 HF1
                          go_wp2_with fail
                          go_quiet ((go_at_call 62; exact Calls.quiet_of_same (l1In_any _ _ _ _)))
                          go_wp2
                          go_ret
                          exact ⟨by rw [HR.out]; rfl, below_drewN HBw4 _⟩
                      · have q2' : (L.hold[k2]).id ≤ (L.hold[m]).id := by omega
                        have HR : Hid (ledS L = false) := hide (by rw [HE.out, allTo_false hlt (by rw [holdB_at hlt, q1, hrs, decide_eq_false q2]; simp)]; simp)
                        clear hrs hm hz
                        go_wp2_with fail
                        go_quiet ((go_at_call 62; exact Calls.quiet_of_same (l1In_any _ _ _ _)))
                        go_wp2
                        go_ret
                        exact ⟨by rw [HR.out]; rfl, below_drewN HBw4 _⟩
              · have hk' : ¬ (k2 : Int) < (L.hold.length : Int) := by omega
                have HHa : Hid (allTo (holdB L) L.hold.length = true) := hide (by have := HH.out; rwa [show k2 = L.hold.length by omega] at this)
                go_wp2
                obtain ⟨w2, rfl⟩ : ∃ w2 : World, w2 = wr := ⟨_, rfl⟩
                clear e0 e1 e2 hsz
                go_loopw [8] (fun i wr => ∃ k : Nat, k ≤ L.acc.length ∧ i = .int .i64 (k : Int) ∧ Below (w.heap.size + 1) (w.alloc (.cells #[.slice a L.acc.length ca, .slice h L.hold.length ch, .slice s L.seen.length cs] 28)) wr ∧ Hid (allTo (accB L) k = true)) (fun i wr => L.acc.length - (intOf i).toNat)
                case atStart => exact ⟨0, Nat.zero_le _, rfl, HB2, hide rfl⟩
                case round =>
                  clear hk2 hk' hlt HH HB2
                  obtain ⟨k3, hk3, rfl, HB3, HA⟩ := hrel
                  have hsz : w.heap.size < wr.heap.size := by have := HB3.size; simp at this; omega
                  have e0 : wr.cell? ⟨w.heap.size, 0, none⟩ = some (.slice a L.acc.length ca) := by rw [HB3.cell (by simp)]; simp
                  have e1 : wr.cell? ⟨w.heap.size, 1, none⟩ = some (.slice h L.hold.length ch) := by rw [HB3.cell (by simp)]; simp
                  have e2 : wr.cell? ⟨w.heap.size, 2, none⟩ = some (.slice s L.seen.length cs) := by rw [HB3.cell (by simp)]; simp
                  by_cases hlt : k3 < L.acc.length
                  · have HSm : Hid _ := hide (smallH_of g2 HHa.out)
                    have HSa : Hid _ := hide (smallA_of g1 HPa.out)
                    obtain ⟨b, off, rfl, hb, c0, c1, c2, c3, s1, s2, _, _⟩ := (HL.out.acc.below (below_of_box HB3)) k3 hlt
                    have hlt' : (k3 : Int) < (L.acc.length : Int) := by omega
                    have HBa : Hid (Below w.heap.size w (wr.alloc (.cells #[.string (L.acc[k3]).name, .string (L.acc[k3]).cur, .int .i64 (L.acc[k3]).limit, .int .i64 (L.acc[k3]).posted] 50))) := hide (below_alloc (below_of_box HB3) _)
                    have HLx : Hid (∀ x : Later (wr.alloc (.cells #[.string (L.acc[k3]).name, .string (L.acc[k3]).cur, .int .i64 (L.acc[k3]).limit, .int .i64 (L.acc[k3]).posted] 50)), LedAt x.w (some ⟨b, off, none⟩) h s L) := hide (fun x => HL.out.below (below_trans HBa.out x.below))
                    have hne : Nonempty (Later (wr.alloc (.cells #[.string (L.acc[k3]).name, .string (L.acc[k3]).cur, .int .i64 (L.acc[k3]).limit, .int .i64 (L.acc[k3]).posted] 50))) := later_there _
                    obtain ⟨l0, l1, l2⟩ := later_box (.cells #[.string (L.acc[k3]).name, .string (L.acc[k3]).cur, .int .i64 (L.acc[k3]).limit, .int .i64 (L.acc[k3]).posted] 50) hsz e0 e1 e2
                    obtain ⟨m0, m1, m2⟩ := later_new (wr := wr) (v0 := .string (L.acc[k3]).name) (v1 := .string (L.acc[k3]).cur) (v2 := .int .i64 (L.acc[k3]).limit) (v3 := .int .i64 (L.acc[k3]).posted) (T := 50)
                    cases q1 : nameB (L.acc[k3]).name
                    · have HR : Hid (ledS L = false) := hide (by rw [HE.out, allTo_false (f := accB L) hlt (by rw [accB_at hlt, q1]; simp)]; simp)
                      go_wp2_with fail
                      go_quiet (first | (go_at_call 64; exact Calls.quiet_of_same (specNameOk_any _ _ s1)) | (go_at_call 65; exact Calls.quiet_of_same (specCurOk_any _ _ s2)) | (go_at_call 62; exact Calls.quiet_of_same (l1In_any _ _ _ _)))
                      go_wp2
                      go_ret
                      exact ⟨by rw [HR.out]; rfl, below_drewN (below_alloc (below_of_box HB3) _) _⟩
                    · cases q2 : curB (L.acc[k3]).cur
                      · have HR : Hid (ledS L = false) := hide (by rw [HE.out, allTo_false (f := accB L) hlt (by rw [accB_at hlt, q1, q2]; simp)]; simp)
                        go_wp2_with fail
                        go_quiet (first | (go_at_call 64; exact Calls.quiet_of_same (specNameOk_any _ _ s1)) | (go_at_call 65; exact Calls.quiet_of_same (specCurOk_any _ _ s2)) | (go_at_call 62; exact Calls.quiet_of_same (l1In_any _ _ _ _)))
                        go_wp2
                        go_ret
                        exact ⟨by rw [HR.out]; rfl, below_drewN (below_alloc (below_of_box HB3) _) _⟩
                      · cases q3 : inB (-1) 1000000000000 (L.acc[k3]).limit
                        · have HR : Hid (ledS L = false) := hide (by rw [HE.out, allTo_false (f := accB L) hlt (by rw [accB_at hlt, q1, q2, q3]; simp)]; simp)
                          go_wp2_with fail
                          go_quiet (first | (go_at_call 64; exact Calls.quiet_of_same (specNameOk_any _ _ s1)) | (go_at_call 65; exact Calls.quiet_of_same (specCurOk_any _ _ s2)) | (go_at_call 62; exact Calls.quiet_of_same (l1In_any _ _ _ _)))
                          go_wp2
                          go_ret
                          exact ⟨by rw [HR.out]; rfl, below_drewN (below_alloc (below_of_box HB3) _) _⟩
                        · have hlim : Hid (-1 ≤ (L.acc[k3]).limit ∧ (L.acc[k3]).limit ≤ 1000000000000) := hide (inB_iff.1 q3)
                          by_cases hz : k3 = 0
                          · have hri : Hid (nameRises L k3 = true) := hide (by rw [hz]; rfl)
                            have hz' : decide ((0 : Int) < (k3 : Int)) = false := by simp; omega
                            have hz'' : decide (0 < k3) = false := by simp; omega
                            clear hz
                            cases q5 : withinB (L.acc[k3]) (heldL (L.acc[k3]).name L.hold)
                            · have HR : Hid (ledS L = false) := hide (by rw [HE.out, allTo_false (f := accB L) hlt (by rw [accB_at hlt, q1, q2, q3, hri.out, q5]; simp)]; simp)
                              go_wp2_with fail
                              refine wp_region_later (wr.alloc (.cells #[.string (L.acc[k3]).name, .string (L.acc[k3]).cur, .int .i64 (L.acc[k3]).limit, .int .i64 (L.acc[k3]).posted] 50)) (by kernel_rfl) (by kernel_rfl) ((Below.refl _ _).drew) ?_
                              repeat (go_big_quiet_step (first | (go_at_call 64; exact later_same (specNameOk_any _ _ s1)) | (go_at_call 65; exact later_same (specCurOk_any _ _ s2)) | (go_at_call 62; exact later_same (l1In_any _ _ _ _)) | (go_at_call 66; exact later_of (l2Within_any _ _ L.acc L.hold _ _ _ k3 _ hlt g1 HSm.out (HLx.out _).acc (HLx.out _).hold hlim.out)) | (go_at_call 67; exact later_of (l2Total_any _ L.acc _ _ _ _ _ HSa.out (HLx.out _).acc))))
                              refine wpQuiet_nil ?_
                              intro _ hw'
                              obtain ⟨nx, rfl⟩ := hw'
                              all_goals go_wp2
                              all_goals go_ret
                              all_goals exact ⟨by rw [HR.out]; rfl, below_trans HBa.out nx.below⟩
                            · by_cases q6 : totL (L.acc[k3]).cur L.acc = 0
                              · have q6' : (totL (L.acc[k3]).cur L.acc != 0) = false := by simp [q6]
                                have HA2 : Hid (allTo (accB L) (k3 + 1) = true) := hide (allTo_step HA.out (by rw [accB_at hlt, q1, q2, q3, hri.out, q5]; simp [q6]))
                                clear q6
                                go_wp2_with fail
                                refine wp_region_later (wr.alloc (.cells #[.string (L.acc[k3]).name, .string (L.acc[k3]).cur, .int .i64 (L.acc[k3]).limit, .int .i64 (L.acc[k3]).posted] 50)) (by kernel_rfl) (by kernel_rfl) ((Below.refl _ _).drew) ?_
                                repeat (go_big_quiet_step (first | (go_at_call 64; exact later_same (specNameOk_any _ _ s1)) | (go_at_call 65; exact later_same (specCurOk_any _ _ s2)) | (go_at_call 62; exact later_same (l1In_any _ _ _ _)) | (go_at_call 66; exact later_of (l2Within_any _ _ L.acc L.hold _ _ _ k3 _ hlt g1 HSm.out (HLx.out _).acc (HLx.out _).hold hlim.out)) | (go_at_call 67; exact later_of (l2Total_any _ L.acc _ _ _ _ _ HSa.out (HLx.out _).acc))))
                                refine wpQuiet_nil ?_
                                intro _ hw'
                                obtain ⟨nx, rfl⟩ := hw'
                                all_goals go_wp2
                                all_goals exact ⟨⟨_, by omega, by go_num, box_grow HB3 (below_trans (below_alloc (Below.refl _ _) _) nx.below), HA2⟩, by simp [intOf]; omega⟩
                              · have q6' : (totL (L.acc[k3]).cur L.acc != 0) = true := by simp [q6]
                                have HR : Hid (ledS L = false) := hide (by rw [HE.out, allTo_false (f := accB L) hlt (by rw [accB_at hlt, q1, q2, q3, hri.out, q5, decide_eq_false q6]; simp)]; simp)
                                clear q6
                                go_wp2_with fail
                                refine wp_region_later (wr.alloc (.cells #[.string (L.acc[k3]).name, .string (L.acc[k3]).cur, .int .i64 (L.acc[k3]).limit, .int .i64 (L.acc[k3]).posted] 50)) (by kernel_rfl) (by kernel_rfl) ((Below.refl _ _).drew) ?_
                                repeat (go_big_quiet_step (first | (go_at_call 64; exact later_same (specNameOk_any _ _ s1)) | (go_at_call 65; exact later_same (specCurOk_any _ _ s2)) | (go_at_call 62; exact later_same (l1In_any _ _ _ _)) | (go_at_call 66; exact later_of (l2Within_any _ _ L.acc L.hold _ _ _ k3 _ hlt g1 HSm.out (HLx.out _).acc (HLx.out _).hold hlim.out)) | (go_at_call 67; exact later_of (l2Total_any _ L.acc _ _ _ _ _ HSa.out (HLx.out _).acc))))
                                refine wpQuiet_nil ?_
                                intro _ hw'
                                obtain ⟨nx, rfl⟩ := hw'
                                all_goals go_wp2
                                all_goals go_ret
                                all_goals exact ⟨by rw [HR.out]; rfl, below_trans HBa.out nx.below⟩
                          · obtain ⟨m, hm⟩ : ∃ m, k3 = m + 1 := ⟨k3 - 1, by omega⟩
                            have hm3 : m < L.acc.length := by omega
                            obtain ⟨b', off', heq, hb', p0, _, _, _, _⟩ := (HL.out.acc.below (below_of_box HB3)) m hm3
                            simp only [Option.some.injEq, Addr.mk.injEq, and_true] at heq
                            obtain ⟨rfl, rfl⟩ := heq
                            have pl0 := later_old (o := .cells #[.string (L.acc[k3]).name, .string (L.acc[k3]).cur, .int .i64 (L.acc[k3]).limit, .int .i64 (L.acc[k3]).posted] 50) hb' p0
                            have hz' : (0 : Int) < (k3 : Int) := by omega
                            have hz'' : 0 < k3 := by omega
                            have hm1 : IntKind.i64.wrap ((k3 : Int) - 1) = (m : Int) := by rw [show (k3 : Int) - 1 = (m : Int) by omega]; simp only [IntKind.wrap, IntKind.signed, IntKind.bits]; simp; omega
                            have hm2 : (m : Int) < (L.acc.length : Int) := by omega
                            have hrs : nameRises L k3 = Op.bytesLess (L.acc[m]).name.toList (L.acc[k3]).name.toList := by subst hm; exact rises_name hlt
                            cases q4 : Op.bytesLess (L.acc[m]).name.toList (L.acc[k3]).name.toList
                            · have HR : Hid (ledS L = false) := hide (by rw [HE.out, allTo_false (f := accB L) hlt (by rw [accB_at hlt, q1, q2, q3, hrs, q4]; simp)]; simp)
                              clear hrs hm hz
                              go_wp2_with fail
                              go_quiet (first | (go_at_call 64; exact Calls.quiet_of_same (specNameOk_any _ _ s1)) | (go_at_call 65; exact Calls.quiet_of_same (specCurOk_any _ _ s2)) | (go_at_call 62; exact Calls.quiet_of_same (l1In_any _ _ _ _)))
                              go_wp2
                              go_ret
                              exact ⟨by rw [HR.out]; rfl, below_drewN (below_alloc (below_of_box HB3) _) _⟩
                            · have hri : Hid (nameRises L k3 = true) := hide (by rw [hrs, q4])
                              clear hrs hm hz
                              cases q5 : withinB (L.acc[k3]) (heldL (L.acc[k3]).name L.hold)
                              · have HR : Hid (ledS L = false) := hide (by rw [HE.out, allTo_false (f := accB L) hlt (by rw [accB_at hlt, q1, q2, q3, hri.out, q5]; simp)]; simp)
                                go_wp2_with fail
                                refine wp_region_later (wr.alloc (.cells #[.string (L.acc[k3]).name, .string (L.acc[k3]).cur, .int .i64 (L.acc[k3]).limit, .int .i64 (L.acc[k3]).posted] 50)) (by kernel_rfl) (by kernel_rfl) ((Below.refl _ _).drew) ?_
                                repeat (go_big_quiet_step (first | (go_at_call 64; exact later_same (specNameOk_any _ _ s1)) | (go_at_call 65; exact later_same (specCurOk_any _ _ s2)) | (go_at_call 62; exact later_same (l1In_any _ _ _ _)) | (go_at_call 66; exact later_of (l2Within_any _ _ L.acc L.hold _ _ _ k3 _ hlt g1 HSm.out (HLx.out _).acc (HLx.out _).hold hlim.out)) | (go_at_call 67; exact later_of (l2Total_any _ L.acc _ _ _ _ _ HSa.out (HLx.out _).acc))))
                                refine wpQuiet_nil ?_
                                intro _ hw'
                                obtain ⟨nx, rfl⟩ := hw'
                                all_goals go_wp2
                                all_goals go_ret
                                all_goals exact ⟨by rw [HR.out]; rfl, below_trans HBa.out nx.below⟩
                              · by_cases q6 : totL (L.acc[k3]).cur L.acc = 0
                                · have q6' : (totL (L.acc[k3]).cur L.acc != 0) = false := by simp [q6]
                                  have HA2 : Hid (allTo (accB L) (k3 + 1) = true) := hide (allTo_step HA.out (by rw [accB_at hlt, q1, q2, q3, hri.out, q5]; simp [q6]))
                                  clear q6
                                  go_wp2_with fail
                                  refine wp_region_later (wr.alloc (.cells #[.string (L.acc[k3]).name, .string (L.acc[k3]).cur, .int .i64 (L.acc[k3]).limit, .int .i64 (L.acc[k3]).posted] 50)) (by kernel_rfl) (by kernel_rfl) ((Below.refl _ _).drew) ?_
                                  repeat (go_big_quiet_step (first | (go_at_call 64; exact later_same (specNameOk_any _ _ s1)) | (go_at_call 65; exact later_same (specCurOk_any _ _ s2)) | (go_at_call 62; exact later_same (l1In_any _ _ _ _)) | (go_at_call 66; exact later_of (l2Within_any _ _ L.acc L.hold _ _ _ k3 _ hlt g1 HSm.out (HLx.out _).acc (HLx.out _).hold hlim.out)) | (go_at_call 67; exact later_of (l2Total_any _ L.acc _ _ _ _ _ HSa.out (HLx.out _).acc))))
                                  refine wpQuiet_nil ?_
                                  intro _ hw'
                                  obtain ⟨nx, rfl⟩ := hw'
                                  all_goals go_wp2
                                  all_goals exact ⟨⟨_, by omega, by go_num, box_grow HB3 (below_trans (below_alloc (Below.refl _ _) _) nx.below), HA2⟩, by simp [intOf]; omega⟩
                                · have q6' : (totL (L.acc[k3]).cur L.acc != 0) = true := by simp [q6]
                                  have HR : Hid (ledS L = false) := hide (by rw [HE.out, allTo_false (f := accB L) hlt (by rw [accB_at hlt, q1, q2, q3, hri.out, q5, decide_eq_false q6]; simp)]; simp)
                                  clear q6
                                  go_wp2_with fail
                                  refine wp_region_later (wr.alloc (.cells #[.string (L.acc[k3]).name, .string (L.acc[k3]).cur, .int .i64 (L.acc[k3]).limit, .int .i64 (L.acc[k3]).posted] 50)) (by kernel_rfl) (by kernel_rfl) ((Below.refl _ _).drew) ?_
                                  repeat (go_big_quiet_step (first | (go_at_call 64; exact later_same (specNameOk_any _ _ s1)) | (go_at_call 65; exact later_same (specCurOk_any _ _ s2)) | (go_at_call 62; exact later_same (l1In_any _ _ _ _)) | (go_at_call 66; exact later_of (l2Within_any _ _ L.acc L.hold _ _ _ k3 _ hlt g1 HSm.out (HLx.out _).acc (HLx.out _).hold hlim.out)) | (go_at_call 67; exact later_of (l2Total_any _ L.acc _ _ _ _ _ HSa.out (HLx.out _).acc))))
                                  refine wpQuiet_nil ?_
                                  intro _ hw'
                                  obtain ⟨nx, rfl⟩ := hw'
                                  all_goals go_wp2
                                  all_goals go_ret
                                  all_goals exact ⟨by rw [HR.out]; rfl, below_trans HBa.out nx.below⟩
                  · have hk' : ¬ (k3 : Int) < (L.acc.length : Int) := by omega
                    have HAa : Hid (allTo (accB L) L.acc.length = true) := hide (by have := HA.out; rwa [show k3 = L.acc.length by omega] at this)
                    go_wp2
                    obtain ⟨w3, rfl⟩ : ∃ w3 : World, w3 = wr := ⟨_, rfl⟩
                    clear e0 e1 e2 hsz
                    go_loopw [10] (fun i wr => ∃ k : Nat, k ≤ L.seen.length ∧ i = .int .i64 (k : Int) ∧ Below (w.heap.size + 1) (w.alloc (.cells #[.slice a L.acc.length ca, .slice h L.hold.length ch, .slice s L.seen.length cs] 28)) wr ∧ Hid (allTo (ansB L) k = true)) (fun i wr => L.seen.length - (intOf i).toNat)
                    case atStart => exact ⟨0, Nat.zero_le _, rfl, HB3, hide rfl⟩
                    case round =>
                      clear hk3 hk' hlt HA HB3
                      obtain ⟨k4, hk4, rfl, HB4, HS⟩ := hrel
                      have hsz : w.heap.size < wr.heap.size := by have := HB4.size; simp at this; omega
                      have e0 : wr.cell? ⟨w.heap.size, 0, none⟩ = some (.slice a L.acc.length ca) := by rw [HB4.cell (by simp)]; simp
                      have e1 : wr.cell? ⟨w.heap.size, 1, none⟩ = some (.slice h L.hold.length ch) := by rw [HB4.cell (by simp)]; simp
                      have e2 : wr.cell? ⟨w.heap.size, 2, none⟩ = some (.slice s L.seen.length cs) := by rw [HB4.cell (by simp)]; simp
                      by_cases hlt : k4 < L.seen.length
                      · as_aux_lemma =>
                          obtain ⟨b, off, rfl, hb, c0, c1, _, _⟩ := (HL.out.seen.below (below_of_box HB4)) k4 hlt
                          have hlt' : (k4 : Int) < (L.seen.length : Int) := by omega
                          cases q1 : inB 1 1000000000 (L.seen[k4]).id
                          · have HR : Hid (ledS L = false) := hide (by rw [HE.out, allTo_false hlt (by rw [ansB_at hlt, q1]; rfl)]; simp)
                            go_wp2
                            go_quiet ((go_at_call 62; exact Calls.quiet_of_same (l1In_any _ _ _ _)))
                            go_wp2
                            go_ret
                            exact ⟨by rw [HR.out]; rfl, below_drewN (below_alloc (below_of_box HB4) _) _⟩
                          · by_cases hz : k4 = 0
                            · have hri : Hid (risesB (L.seen.map Sn.id) k4 = true) := hide (by rw [hz]; rfl)
                              have hz' : decide ((0 : Int) < (k4 : Int)) = false := by simp; omega
                              have hz'' : decide (0 < k4) = false := by simp; omega
                              clear hz
                              cases q3 : ((L.seen[k4]).code == 0)
                              · have q3' : ((L.seen[k4]).code != 0) = true := by simp [bne, q3]
                                cases q4 : inB 4 9 (L.seen[k4]).code
                                · have HR : Hid (ledS L = false) := hide (by rw [HE.out, allTo_false hlt (by rw [ansB_at hlt, q1, hri.out, q4]; simp at q3; simp [q3])]; simp)
                                  go_wp2
                                  go_quiet ((go_at_call 62; exact Calls.quiet_of_same (l1In_any _ _ _ _)))
                                  go_wp2
                                  go_ret
                                  exact ⟨by rw [HR.out]; rfl, below_drewN (below_alloc (below_of_box HB4) _) _⟩
                                · have HS2 : Hid (allTo (ansB L) (k4 + 1) = true) := hide (allTo_step HS.out (by rw [ansB_at hlt, q1, hri.out, q4]; simp))
                                  go_wp2
                                  go_quiet ((go_at_call 62; exact Calls.quiet_of_same (l1In_any _ _ _ _)))
                                  go_wp2
                                  exact ⟨⟨_, by omega, by go_num, below_drewN (box_grow HB4 (below_alloc (Below.refl _ _) _)) _, HS2⟩, by simp [intOf]; omega⟩
                              · have q3' : ((L.seen[k4]).code != 0) = false := by simp [bne, q3]
                                have HS2 : Hid (allTo (ansB L) (k4 + 1) = true) := hide (allTo_step HS.out (by rw [ansB_at hlt, q1, hri.out]; simp at q3; simp [q3]))
                                go_wp2
                                go_quiet ((go_at_call 62; exact Calls.quiet_of_same (l1In_any _ _ _ _)))
                                go_wp2
                                exact ⟨⟨_, by omega, by go_num, below_drewN (box_grow HB4 (below_alloc (Below.refl _ _) _)) _, HS2⟩, by simp [intOf]; omega⟩
                            · obtain ⟨m, hm⟩ : ∃ m, k4 = m + 1 := ⟨k4 - 1, by omega⟩
                              have hm3 : m < L.seen.length := by omega
                              obtain ⟨b', off', heq, _, p0, _, _, _⟩ := (HL.out.seen.below (below_of_box HB4)) m hm3
                              simp only [Option.some.injEq, Addr.mk.injEq, and_true] at heq
                              obtain ⟨rfl, rfl⟩ := heq
                              have hz' : (0 : Int) < (k4 : Int) := by omega
                              have hm1 : IntKind.i64.wrap ((k4 : Int) - 1) = (m : Int) := by rw [show (k4 : Int) - 1 = (m : Int) by omega]; simp only [IntKind.wrap, IntKind.signed, IntKind.bits]; simp; omega
                              have hm2 : (m : Int) < (L.seen.length : Int) := by omega
                              have hz'' : 0 < k4 := by omega
                              have hrs : risesB (L.seen.map Sn.id) k4 = decide ((L.seen[m]).id < (L.seen[k4]).id) := by subst hm; exact rises_ans hlt
                              by_cases q2 : (L.seen[m]).id < (L.seen[k4]).id
                              · have hri : Hid (risesB (L.seen.map Sn.id) k4 = true) := hide (by rw [hrs]; simpa using q2)
                                have q2' : decide ((L.seen[k4]).id ≤ (L.seen[m]).id) = false := by simp; omega
                                clear hrs hm hz
                                cases q3 : ((L.seen[k4]).code == 0)
                                · have q3' : ((L.seen[k4]).code != 0) = true := by simp [bne, q3]
                                  cases q4 : inB 4 9 (L.seen[k4]).code
                                  · have HR : Hid (ledS L = false) := hide (by rw [HE.out, allTo_false hlt (by rw [ansB_at hlt, q1, hri.out, q4]; simp at q3; simp [q3])]; simp)
                                    go_wp2
                                    go_quiet ((go_at_call 62; exact Calls.quiet_of_same (l1In_any _ _ _ _)))
                                    go_wp2
                                    go_ret
                                    exact ⟨by rw [HR.out]; rfl, below_drewN (below_alloc (below_of_box HB4) _) _⟩
                                  · have HS2 : Hid (allTo (ansB L) (k4 + 1) = true) := hide (allTo_step HS.out (by rw [ansB_at hlt, q1, hri.out, q4]; simp))
                                    go_wp2
                                    go_quiet ((go_at_call 62; exact Calls.quiet_of_same (l1In_any _ _ _ _)))
                                    go_wp2
                                    exact ⟨⟨_, by omega, by go_num, below_drewN (box_grow HB4 (below_alloc (Below.refl _ _) _)) _, HS2⟩, by simp [intOf]; omega⟩
                                · have q3' : ((L.seen[k4]).code != 0) = false := by simp [bne, q3]
                                  have HS2 : Hid (allTo (ansB L) (k4 + 1) = true) := hide (allTo_step HS.out (by rw [ansB_at hlt, q1, hri.out]; simp at q3; simp [q3]))
                                  go_wp2
                                  go_quiet ((go_at_call 62; exact Calls.quiet_of_same (l1In_any _ _ _ _)))
                                  go_wp2
                                  exact ⟨⟨_, by omega, by go_num, below_drewN (box_grow HB4 (below_alloc (Below.refl _ _) _)) _, HS2⟩, by simp [intOf]; omega⟩
                              · have q2' : (L.seen[k4]).id ≤ (L.seen[m]).id := by omega
                                have HR : Hid (ledS L = false) := hide (by rw [HE.out, allTo_false hlt (by rw [ansB_at hlt, q1, hrs, decide_eq_false q2]; rfl)]; simp)
                                clear hrs hm hz
                                go_wp2
                                go_quiet ((go_at_call 62; exact Calls.quiet_of_same (l1In_any _ _ _ _)))
                                go_wp2
                                go_ret
                                exact ⟨by rw [HR.out]; rfl, below_drewN (below_alloc (below_of_box HB4) _) _⟩
                      · have hk' : ¬ (k4 : Int) < (L.seen.length : Int) := by omega
                        have HR : Hid (ledS L = true) := hide (by
                          have hs := HS.out
                          rw [show k4 = L.seen.length by omega] at hs
                          rw [HE.out, HPa.out, HHa.out, HAa.out, hs]; rfl)
                        go_wp2
                        go_ret
                        exact ⟨by rw [HR.out]; rfl, below_of_box HB4⟩
      · have HR : Hid (ledS L = false) := hide (by simp [ledS, g3])
        have g1' : (L.acc.length : Int) ≤ 12 := by omega
        have g2' : (L.hold.length : Int) ≤ 10 := by omega
        have g3' : ¬ (L.seen.length : Int) ≤ 40 := by omega
        go_enter Tryz.func25, Tryz.ntmps25
        go_wp2
        go_ret
        exact ⟨by rw [HR.out]; rfl, below_alloc (Below.refl _ _) _⟩
    · have HR : Hid (ledS L = false) := hide (by simp [ledS, g2])
      have g1' : (L.acc.length : Int) ≤ 12 := by omega
      have g2' : ¬ (L.hold.length : Int) ≤ 10 := by omega
      go_enter Tryz.func25, Tryz.ntmps25
      go_wp2
      go_ret
      exact ⟨by rw [HR.out]; rfl, below_alloc (Below.refl _ _) _⟩
  · have HR : Hid (ledS L = false) := hide (by simp [ledS, g1])
    have g1' : ¬ (L.acc.length : Int) ≤ 12 := by omega
    go_enter Tryz.func25, Tryz.ntmps25
    go_wp2
    go_ret
    exact ⟨by rw [HR.out]; rfl, below_alloc (Below.refl _ _) _⟩
end Go.Proofs.YteaopalhbnhbaaaGreatDoor
