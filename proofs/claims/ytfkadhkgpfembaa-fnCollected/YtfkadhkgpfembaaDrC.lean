/- The drawn slots, slot and amount. -/
import Derived.Test.YtfkadhkgpfembaaRd6
import Derived.Test.YtfkadhkgpfembaaRd5
import Derived.Test.YtfkadhkgpfembaaSl
namespace Go.Proofs.Ytfkadhkgpfembaa
open Go.ChangeShapes Go.WideShapes Go.ChangeAt Go.RowKit
set_option linter.unusedVariables false
theorem wrap_ok (n : Int) : I64 (wrap64 n) := by unfold I64 wrap64; omega
set_option maxHeartbeats 1000000 in
theorem near_neg (B : Nat) (hi : Int) (w : World) (h : Rd B w) (h1 : hi < 0) (h2 : I64 hi) : Calls Try.prog 30 #[.pointer (some ⟨B, 0, none⟩), .int .i64 0, .int .i64 hi] w fun e w' => IntEnd B w e w' := by
  have H : Hid _ := hide h
  have H2 : Hid _ := hide h2
  clear h h2
  go_enter Try.func30, Try.ntmps30
  go_wp2_with fail
  refine (below_any B 8 _ H.out (by omega)).mono ?_
  rintro e w1 ⟨⟨r, r0, _, r1, rfl⟩, HR1, HA1⟩
  by_cases c0 : (r == 0) = true
  · go_wp2
    go_ret
    exact ⟨⟨0, by omega, by omega, rfl⟩, HR1, HA1⟩
  · have c0' : (r == 0) = false := by simpa using c0
    clear c0
    by_cases c1 : (r == 1) = true
    · go_wp2
      go_ret
      exact ⟨⟨hi, H2.out.1, H2.out.2, rfl⟩, HR1, HA1⟩
    · have c1' : (r == 1) = false := by simpa using c1
      clear c1
      go_wp2
      go_ret
      exact ⟨⟨0, by omega, by omega, rfl⟩, HR1, HA1⟩
set_option maxHeartbeats 1000000 in
theorem off_neg (B : Nat) (hi : Int) (w : World) (h : Rd B w) (h1 : hi < 0) (h2 : I64 hi) : Calls Try.prog 16 #[.pointer (some ⟨B, 0, none⟩), .int .i64 0, .int .i64 hi] w fun e w' => IntEnd B w e w' := by
  have H : Hid _ := hide h
  have H2 : Hid _ := hide h2
  have hlo := h2.1
  clear h h2
  go_enter Try.func16, Try.ntmps16
  go_wp2_with fail
  refine (once_any B 24 _ H.out (by omega) (by omega)).mono ?_
  rintro e w1 ⟨⟨b, rfl⟩, HR1, HA1⟩
  cases b
  · go_wp2_with fail
    refine (near_neg B hi _ HR1 h1 H2.out).mono ?_
    rintro e w2 ⟨⟨x, x0, x1, rfl⟩, HR2, HA2⟩
    go_wp2
    go_ret
    exact ⟨⟨x, by omega, by omega, rfl⟩, HR2, HA1.trans HA2⟩
  · have hlt := HR1.lt
    go_wp2_with fail
    refine (below_any B 4 _ (HR1.kept ((Kept.refl _).alloc _ _)) (by omega)).mono ?_
    rintro e w2 ⟨⟨r, r0, r2, r1, rfl⟩, HR2, HA2⟩
    have r3 : r < 4 := by omega
    clear r2
    obtain ⟨v, hv, hcell⟩ := four _ _ _ _ _ _ _ _ hlt HA2 r r0 r3
    have hex : ∃ z : Int, -9223372036854775808 ≤ z ∧ z ≤ 9223372036854775807 ∧ v = .int .i64 z := by
      rcases hv with rfl | rfl | rfl | rfl
      all_goals exact ⟨_, by omega, by omega, rfl⟩
    obtain ⟨z, z0, z1, rfl⟩ := hex
    clear hv
    go_wp2
    go_ret
    exact ⟨⟨z, z0, z1, rfl⟩, HR2, HA1.trans (((Kept.refl _).alloc _ _).to_apart.trans HA2)⟩
theorem off_all (B : Nat) (hi : Int) (w : World) (h : Rd B w) (h2 : I64 hi) : Calls Try.prog 16 #[.pointer (some ⟨B, 0, none⟩), .int .i64 0, .int .i64 hi] w fun e w' => IntEnd B w e w' := by
  by_cases q : hi < 0
  · exact off_neg B hi w h q h2
  · exact off_wide B hi w h (by omega) h2.2
set_option maxHeartbeats 1000000 in
theorem l4Sum_wrap (a : Option Addr) (l : List Slt) (cap : Nat) (w : World) (hl : l.length ≤ 8) (h : SlotAt w a l) :
    Calls Try.prog 17 #[.slice a l.length cap] w fun e w' => (∃ r, I64 r ∧ e = .returned (.int .i64 r)) ∧ w' = w := by
  have HC : Hid _ := hide h
  clear h
  go_enter Try.func17, Try.ntmps17
  go_wp2
  go_loop [3, 4] (fun s i => ∃ (k : Nat) (t : Int), k ≤ l.length ∧ I64 t ∧ s = .int .i64 t ∧ i = .int .i64 (k : Int)) (fun s i => l.length - (intOf i).toNat)
  case atStart => exact ⟨0, 0, Nat.zero_le _, by unfold I64; omega, rfl, rfl⟩
  case round =>
    obtain ⟨k, t, hk, ht, rfl, rfl⟩ := hrel
    by_cases hlt : k < l.length
    · obtain ⟨b, off, rfl, hb, c0, c1, c2, _⟩ := HC.out k hlt
      have hlt' : (k : Int) < (l.length : Int) := by omega
      go_wp2
      exact ⟨⟨k + 1, _, by omega, wrap_ok _, rfl, by go_num⟩, by simp [intOf]; omega⟩
    · have hk' : ¬ (k : Int) < (l.length : Int) := by omega
      go_wp2
      go_ret
      exact ⟨⟨t, ht, rfl⟩, rfl⟩
theorem OwnRow.keepB {A : Type} {sz : Nat} {f : A → List Value} {x y : World} {g : Nat} {a : Option Addr} {cap : Nat} {l : List A} (h : OwnRow sz f x g a cap l) (e : 0 < l.length → y.heap[g]? = x.heap[g]?) : OwnRow sz f y g a cap l := by
  have hgy : 0 < l.length → g < y.heap.size := fun q => by
    have hg := h.lt q
    have e := e q
    rcases Nat.lt_or_ge g y.heap.size with k | k
    · exact k
    · rw [Array.getElem?_eq_none k, Array.getElem?_eq_getElem hg] at e; cases e
  refine ⟨fun i hi => ?_, fun h0 => ⟨(h.own h0).1, fun j => ?_⟩, h.room⟩
  · have h0 : 0 < l.length := by omega
    obtain ⟨b, off, e2, _, hc⟩ := h.rows i hi
    have e3 := e2
    rw [(h.own h0).1] at e2
    simp only [Option.some.injEq, Addr.mk.injEq, and_true] at e2
    obtain ⟨rfl, rfl⟩ := e2
    exact ⟨g, 0, e3, hgy h0, fun r v hv => (World.cell?_of_block (w := x) (e h0)).trans (hc r v hv)⟩
  · exact (World.frozen?_of_block (w := x) (e h0)).trans ((h.own h0).2 j)
structure Dc (w : World) (l : List Slt) (g cap : Nat) (x : World) : Prop where
  rd : Rd w.heap.size x
  bel : Below w.heap.size w x
  hg : w.heap.size < g
  row : OwnRow 3 sltCells x g (some ⟨g, 0, none⟩) cap l
theorem Dc.apart {w : World} {l : List Slt} {g cap : Nat} {x y : World} (h : Dc w l g cap x) (hr : Rd w.heap.size y) (ha : Apart w.heap.size x y) : Dc w l g cap y :=
  ⟨hr, below_apart h.bel (Nat.le_refl _) ha, h.hg, h.row.keepB (fun q => ha.block _ (h.row.lt q) (by have := h.hg; omega))⟩
def DrCol (w : World) (e : Ending) (w' : World) : Prop := ∃ (l : List Slt) (g cap : Nat) (to amt : Int), 1 ≤ l.length ∧ l.length ≤ 7 ∧ (∀ x ∈ l, SltI x) ∧ l.length ≤ cap ∧ I64 to ∧ I64 amt ∧ e = .returned (.tuple #[.slice (some ⟨g, 0, none⟩) l.length cap, .int .i64 to, .int .i64 amt]) ∧ RowAt 3 sltCells w' (some ⟨g, 0, none⟩) l ∧ Below w.heap.size w w'
set_option maxRecDepth 100000 in
set_option maxHeartbeats 4000000 in
theorem drawCollect_any (a0 : Option Addr) (len cp : Nat) (w : World) (h : IsCode w a0 len) : Calls Try.prog 5 #[.slice a0 len cp] w fun e w' => DrCol w e w' := by
  have HC0 : Hid _ := hide h
  clear h
  go_enter Try.func5, Try.ntmps5
  go_wp2_with fail
  refine (l1Open_any a0 len cp w).mono ?_
  rintro e w1 ⟨rfl, hw1⟩
  have HR1 : Hid (Rd w.heap.size w1) := hide (by rw [hw1]; exact rd_open HC0.out)
  have HB1 : Hid (Below w.heap.size w w1) := hide (by rw [hw1]; exact below_alloc (Below.refl _ _) _)
  have HS1 : Hid (w.heap.size < w1.heap.size) := hide (by rw [hw1]; simp)
  clear hw1
  go_wp2_with fail
  refine (slots_any w.heap.size w1 HR1.out).mono ?_
  rintro e w2 ⟨⟨l, g, cap, h1, h7, hp, hg, rfl, hrow⟩, hrd, hap⟩
  have HD2 : Hid (Dc w l g cap w2) := hide ⟨hrd, below_apart HB1.out (Nat.le_refl _) hap, by have := HS1.out; omega, hrow⟩
  have HP : Hid _ := hide hp
  clear hrd hap hrow hp hg HR1 HB1 HS1
  have hl9 : (l.length : Int) ≤ 1000000000 := by omega
  have hl1 : (1 : Int) ≤ (l.length : Int) := by omega
  go_wp2_with fail
  refine (below_any w.heap.size (l.length : Int) _ HD2.out.rd hl9).mono ?_
  rintro e w3 ⟨⟨t, t0, t2, t1, rfl⟩, hr3, ha3⟩
  have HD3 : Hid _ := hide (HD2.out.apart hr3 ha3)
  clear hr3 ha3 HD2 t2
  go_wp2_with fail
  refine (once_any w.heap.size 8 _ HD3.out.rd (by omega) (by omega)).mono ?_
  rintro e w4 ⟨⟨b, rfl⟩, hr4, ha4⟩
  have HD4 : Hid _ := hide (HD3.out.apart hr4 ha4)
  clear hr4 ha4 HD3
  have HT : Hid (I64 (1 + t)) := hide (by unfold I64; omega)
  cases b
  · go_wp2_with fail
    refine (l4Sum_wrap _ l cap w4 (by omega) (slot_of_row HD4.out.row.rows HP.out)).mono ?_
    rintro e w5 ⟨⟨S, hS, rfl⟩, hw5⟩
    have hw5' := hw5.symm
    subst hw5'
    clear hw5 hS
    go_wp2_with fail
    all_goals
      refine (below_any w.heap.size _ _ HD4.out.rd (by omega)).mono ?_
      rintro e w6 ⟨⟨n, n0, _, n1, rfl⟩, hr6, ha6⟩
      have HD6 : Hid _ := hide (HD4.out.apart hr6 ha6)
      clear hr6 ha6 HD4
      go_wp2
      exact bodyPost_ret (v := .tuple #[.slice (some ⟨g, 0, none⟩) l.length cap, .int .i64 (1 + t), .int .i64 n]) (by simp [results, Try.results5, go_sem]) rfl ⟨l, g, cap, 1 + t, n, h1, h7, HP.out, HD6.out.row.room, HT.out, by unfold I64; omega, rfl, HD6.out.row.rows, HD6.out.bel⟩
  · go_wp2_with fail
    refine (l4Sum_wrap _ l cap w4 (by omega) (slot_of_row HD4.out.row.rows HP.out)).mono ?_
    rintro e w5 ⟨⟨S, hS, rfl⟩, hw5⟩
    have hw5' := hw5.symm
    subst hw5'
    have HS : Hid _ := hide hS
    clear hw5 hS
    go_wp2_with fail
    refine (off_all w.heap.size S _ HD4.out.rd HS.out).mono ?_
    rintro e w6 ⟨⟨n, n0, n1, rfl⟩, hr6, ha6⟩
    have HD6 : Hid _ := hide (HD4.out.apart hr6 ha6)
    clear hr6 ha6 HD4
    go_wp2
    exact bodyPost_ret (v := .tuple #[.slice (some ⟨g, 0, none⟩) l.length cap, .int .i64 (1 + t), .int .i64 n]) (by simp [results, Try.results5, go_sem]) rfl ⟨l, g, cap, 1 + t, n, h1, h7, HP.out, HD6.out.row.room, HT.out, ⟨n0, n1⟩, rfl, HD6.out.row.rows, HD6.out.bel⟩
end Go.Proofs.Ytfkadhkgpfembaa
