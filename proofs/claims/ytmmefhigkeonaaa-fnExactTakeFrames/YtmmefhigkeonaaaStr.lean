/- The contracts of the laws' helpers over lists of texts: markText, eqStringS, markStringS, heldStringS. -/
import Derived.Test.YtmmefhigkeonaaaFr
namespace Go.Proofs.Ytmmefhigkeonaaa
open Go.ChangeShapes Go.WideShapes Go.ChangeAt Go.RowKit
set_option linter.unusedVariables false
def dg (n : Nat) : UInt8 := UInt8.ofNat (48 + n % 10)
def mkD : Nat → Nat → List UInt8 → List UInt8
  | 0, _, acc => acc
  | f + 1, n, acc => if n = 0 then acc else mkD f (n / 10) (dg n :: acc)
def mkT (n : Nat) : ByteArray := { data := #[109] } ++ bs (mkD 20 n [])
theorem mkD_zero (f : Nat) (acc : List UInt8) : mkD f 0 acc = acc := by cases f <;> simp [mkD]
theorem mkD_step (f n : Nat) (acc : List UInt8) (h : 0 < n) : mkD (f + 1) n acc = mkD f (n / 10) (dg n :: acc) := by rw [mkD, if_neg (by omega)]
theorem list_one (c : UInt8) (b : ByteArray) : (({ data := #[c] } : ByteArray) ++ b).data.toList = c :: b.data.toList := by simp
theorem one_size (c : UInt8) (b : ByteArray) : (({ data := #[c] } : ByteArray) ++ b).size = b.size + 1 := by
  rw [ByteArray.size_append]; show 1 + b.size = _; omega
theorem conv1 (w : World) (a : Int) : (convert 30 9 (.slice (some ⟨w.heap.size, 0, none⟩) 1 1)).run Try.prog (w.alloc (.cells #[.int .u8 a] 5)) = .ok (.string ⟨#[UInt8.ofNat a.toNat]⟩) (w.alloc (.cells #[.int .u8 a] 5)) := by
  have h := run_convert_bytes_arg (P := Try.prog) (w.alloc (.cells #[.int .u8 a] 5)) 30 5 Try.underlying30 Try.underlying5 w.heap.size 0 1 1 [a] rfl (fun i hi => by
    obtain rfl : i = 0 := by omega
    simp) 9 Try.underlying9
  rw [h]; rfl
set_option maxHeartbeats 400000 in
theorem markText_any (n : Nat) (w : World) (h0 : 0 < n) (h1 : n ≤ 1000000000) :
    Calls Try.prog 16 #[.int .i64 (n : Int)] w fun e w' => e = .returned (.string (mkT n)) ∧ Below w.heap.size w w' := by
  have a1 : ¬ (n : Int) ≤ 0 := by omega
  go_enter Try.func16, Try.ntmps16
  go_wp2
  go_loopw [0, 3] (fun i s w' => ∃ (k f : Nat) (b : ByteArray), k ≤ 1000000000 ∧ i = .int .i64 (k : Int) ∧ s = .string b ∧ Below w.heap.size w w' ∧ b.size + f ≤ 20 ∧ Hid (k < 10 ^ f) ∧ Hid (mkD f k b.data.toList = mkD 20 n [])) (fun i s w => (intOf i).toNat)
  case atStart => exact ⟨n, 20, _, h1, rfl, rfl, Below.refl _ _, by decide, hide (by omega), hide rfl⟩
  case round =>
    obtain ⟨k, f, b, hk, rfl, rfl, HB, hb, HP, HD⟩ := hrel
    have hc := conv1
    by_cases h : 0 < k
    · have h' : (0 : Int) < (k : Int) := by omega
      have hk' : (k : Int) ≤ 1000000000 := by omega
      have HD2 : Hid (∃ g, f = g + 1 ∧ k / 10 < 10 ^ g ∧ mkD g (k / 10) (({ data := #[UInt8.ofNat (48 + k % 10)] } : ByteArray) ++ b).data.toList = mkD 20 n []) := hide (by
        have hp := HP.out
        have hd := HD.out
        obtain ⟨g, rfl⟩ : ∃ g, f = g + 1 := by
          rcases f with _ | g
          · simp at hp; omega
          · exact ⟨g, rfl⟩
        refine ⟨g, rfl, by rw [Nat.pow_succ] at hp; omega, ?_⟩
        rw [list_one, ← hd, mkD_step g k _ h]; rfl)
      have HE : Hid ((48 + (k : Int) % 10).toNat = 48 + k % 10) := hide (by omega)
      clear HP HD
      go_wp2
      obtain ⟨g, rfl, hp, hd⟩ := HD2.out
      refine ⟨⟨k / 10, g, _, by omega, by go_num, rfl, below_alloc HB _, ?_, hide hp, hide ?_⟩, by simp [intOf]; omega⟩
      · rw [one_size]; omega
      · rw [← hd, UInt8.ofNat_add]; rfl
    · have h' : ¬ (0 : Int) < (k : Int) := by omega
      have HE : Hid (b = bs (mkD 20 n [])) := hide (by
        have := HD.out
        rw [show k = 0 by omega, mkD_zero] at this
        exact bs_of this)
      go_wp2
      go_ret
      exact ⟨by unfold mkT; rw [← HE.out]; rfl, HB⟩
set_option maxHeartbeats 2000000 in
theorem eqStringS_any (a c : Option Addr) (l : List ByteArray) (ca cc : Nat) (w : World) (hn : l.length ≤ 1048576) (h : RowAt 1 strCells w a l) (h' : RowAt 1 strCells w c l) :
    Calls Try.prog 9 #[.slice a l.length ca, .slice c l.length cc] w fun e w' => YesEnd w e w' := by
  have HL : Hid _ := hide h
  have HL' : Hid _ := hide h'
  clear h h'
  have hln : ((l.length : Int) != (l.length : Int)) = false := by simp
  go_enter Try.func9, Try.ntmps9
  go_wp2
  go_loopw [5] (fun i wr => ∃ k : Nat, k ≤ l.length ∧ i = .int .i64 (k : Int) ∧ Below w.heap.size w wr) (fun i wr => l.length - (intOf i).toNat)
  case atStart => exact ⟨0, Nat.zero_le _, rfl, Below.refl _ _⟩
  case round =>
    obtain ⟨k, hk, rfl, HB⟩ := hrel
    by_cases hlt : k < l.length
    · obtain ⟨b, off, rfl, hb, d0⟩ := str_row (HL.out.below HB) k hlt
      obtain ⟨b2, off2, rfl, hc, e0⟩ := str_row (HL'.out.below HB) k hlt
      have hlt' : (k : Int) < (l.length : Int) := by omega
      go_wp2_with fail
      go_quiet (fail)
      go_wp2
      exact ⟨⟨k + 1, by omega, by go_num, below_drewN HB _⟩, by simp [intOf]; omega⟩
    · have hk' : ¬ (k : Int) < (l.length : Int) := by omega
      go_wp2
      go_ret
      exact ⟨rfl, HB⟩
/-- block g has turned, and new blocks were laid -/
structure Chgd (g : Nat) (w w' : World) : Prop where
  os : w'.os = w.os
  tape : w'.tape = w.tape
  output : w'.output = w.output
  size : w.heap.size ≤ w'.heap.size
  block : ∀ k, k < w.heap.size → k ≠ g → w'.heap[k]? = w.heap[k]?
theorem Chgd.refl (g : Nat) (w : World) : Chgd g w w := ⟨rfl, rfl, rfl, Nat.le_refl _, fun _ _ _ => rfl⟩
theorem Chgd.on {g : Nat} {w x y : World} (h : Chgd g w x) (b : Below x.heap.size x y) : Chgd g w y :=
  ⟨b.os.trans h.os, b.tape.trans h.tape, b.output.trans h.output, Nat.le_trans h.size b.size, fun k hk hg => (b.block k (Nat.lt_of_lt_of_le hk h.size)).trans (h.block k hk hg)⟩
theorem Chgd.setCell {g : Nat} {w x : World} (h : Chgd g w x) {o : Nat} (v : Value) : Chgd g w (x.setCell ⟨g, o, none⟩ v) :=
  ⟨h.os, h.tape, h.output, by rw [size_setCell]; exact h.size, fun k hk hg => (Below.heap_setCell _ _ _ _ hg).trans (h.block k hk hg)⟩
theorem Chgd.below {g : Nat} {w x : World} (h : Chgd g w x) {B : Nat} (hB : B ≤ g) (hw : B ≤ w.heap.size) : Below B w x := ⟨h.os, h.tape, h.output, h.size, fun k hk => h.block k (by omega) (by omega)⟩
def smarkL (q n : Nat) : List ByteArray := (List.range n).map fun (i : Nat) => mkT (q + i)
theorem smarkL_len (q n : Nat) : (smarkL q n).length = n := by simp [smarkL]
theorem smarkL_at (q n : Nat) (i : Nat) (h : i < n) : (smarkL q n)[i]? = some (mkT (q + i)) := by
  simp [smarkL, List.getElem?_range h]
theorem smarkL_get (q n : Nat) (i : Nat) (h : i < (smarkL q n).length) : (smarkL q n)[i] = mkT (q + i) := by
  simp [smarkL]
def SMarkEnd (q : Nat) (g : Nat) (a : Option Addr) (cap n : Nat) (w : World) (e : Ending) (w' : World) : Prop := e = .returned (.int .i64 ((q : Int) + (n : Int))) ∧ Chgd g w w' ∧ OwnRow 1 strCells w' g a cap (smarkL q n)
set_option maxRecDepth 100000 in
set_option maxHeartbeats 4000000 in
theorem markStringS_any (a : Option Addr) (l : List ByteArray) (cap g : Nat) (q : Nat) (w : World) (hn : l.length ≤ 1048576) (q0 : 0 < q) (q1 : q ≤ 1000) (h : OwnRow 1 strCells w g a cap l) :
    Calls Try.prog 10 #[.slice a l.length cap, .int .i64 (q : Int)] w fun e w' => SMarkEnd q g a cap l.length w e w' := by
  have HL : Hid _ := hide h
  clear h
  by_cases h0 : 0 < l.length
  · have HO : Hid _ := hide (mid_of_own strLen (by decide) (cells := fun i => ((smarkL q l.length)[i]?).elim [] strCells) HL.out h0)
    obtain ⟨rfl, _⟩ := HL.out.own h0
    go_enter Try.func10, Try.ntmps10
    go_wp2
    go_loopw [1, 5] (fun s i wr => ∃ k : Nat, k ≤ l.length ∧ i = .int .i64 (k : Int) ∧ s = .int .i64 ((q + k : Nat) : Int) ∧ Hid (Chgd g w wr) ∧ Hid (RowMid g l.length 1 (fun i => ((smarkL q l.length)[i]?).elim [] strCells) k wr)) (fun s i wr => l.length - (intOf i).toNat)
    case atStart => exact ⟨0, Nat.zero_le _, rfl, by simp, hide (Chgd.refl _ _), HO⟩
    case round =>
      obtain ⟨k, hk, rfl, rfl, HT, HM⟩ := hrel
      by_cases hlt : k < l.length
      · have hlt' : (k : Int) < (l.length : Int) := by omega
        have HQK : Hid (0 < q + k ∧ q + k ≤ 1000000000) := hide (by omega)
        have hqk : ((q + k : Nat) : Int) ≤ 1000000000 := by omega
        generalize hqe : q + k = qk at *
        go_wp2_with fail
        refine (markText_any qk wr HQK.out.1 HQK.out.2).mono ?_
        rintro e w1 ⟨rfl, hb1⟩
        have hM1 := HM.out.below hb1
        have HP : Hid (RowMid g l.length 1 (fun i => ((smarkL q l.length)[i]?).elim [] strCells) (k + 1) (w1.setCell ⟨g, k, none⟩ (.string (mkT qk)))) := hide (((hM1.put).set hlt (by decide) (v := .string (mkT qk)) (by simp [smarkL_at q _ k hlt, strCells, hqe]) (o := k) (by omega)).whole)
        have HT2 : Hid _ := hide ((HT.out.on hb1).setCell (o := k) (.string (mkT qk)))
        obtain ⟨v0, f0⟩ := hM1.there k (by omega)
        have z0 := hM1.free k
        have HQE : Hid _ := hide hqe
        clear hM1 hb1 hqe HM HT
        go_wp2
        exact ⟨⟨k + 1, by omega, by go_num, by have := HQE.out; go_num, HT2, HP⟩, by simp [intOf]; omega⟩
      · have hk' : ¬ (k : Int) < (l.length : Int) := by omega
        have HE : Hid (SMarkEnd q g (some ⟨g, 0, none⟩) cap l.length w (.returned (.int .i64 ((q + k : Nat) : Int))) wr) := hide (by
          have M := HM.out
          have ek : k = l.length := by omega
          subst ek
          have O := own_of_mid (l := smarkL q l.length) strLen (by rw [smarkL_len]; exact M) (cap := cap) (by rw [smarkL_len]; exact HL.out.room)
          exact ⟨by rw [Int.natCast_add], HT.out, O⟩)
        generalize ((q + k : Nat) : Int) = qk at *
        go_wp2
        go_ret
        exact HE.out
  · have hz : l = [] := List.eq_nil_of_length_eq_zero (by omega)
    subst hz
    go_enter Try.func10, Try.ntmps10
    go_wp2
    refine wp_loop_rounds 1 ?_
    rw [rounds_succ]
    go_wp2
    go_ret
    exact ⟨by simp, Chgd.refl _ _, OwnRow.nil⟩
theorem smark_row {w : World} {a : Option Addr} {q n : Nat} (h : RowAt 1 strCells w a (smarkL q n)) (i : Nat) (hi : i < n) : ∃ b off, a = some ⟨b, off, none⟩ ∧ b < w.heap.size ∧ w.cell? ⟨b, off + i, none⟩ = some (.string (mkT (q + i))) := by
  have hi' : i < (smarkL q n).length := by rw [smarkL_len]; exact hi
  have := str_row h i hi'
  rw [smarkL_get q n i hi'] at this
  exact this
theorem later_cell2 {W : World} {p : Addr} {v : Value} (h : W.cell? p = some v) : ∀ y : Later W, y.w.cell? p = some v := fun y => (y.below.cell (cell_lt h)).trans h
set_option maxRecDepth 100000 in
set_option maxHeartbeats 4000000 in
theorem heldStringS_any (a : Option Addr) (n cap : Nat) (q : Nat) (w : World) (hn : n ≤ 1048576) (q0 : 0 < q) (q1 : q ≤ 1000) (h : RowAt 1 strCells w a (smarkL q n)) :
    Calls Try.prog 11 #[.slice a n cap, .int .i64 (q : Int)] w fun e w' => e = .returned (.int .i64 ((q : Int) + (n : Int))) ∧ Below w.heap.size w w' := by
  have HL : Hid _ := hide h
  clear h
  go_enter Try.func11, Try.ntmps11
  go_wp2
  go_loopw [1, 5] (fun s i wr => ∃ k : Nat, k ≤ n ∧ i = .int .i64 (k : Int) ∧ s = .int .i64 ((q + k : Nat) : Int) ∧ Hid (Below w.heap.size w wr)) (fun s i wr => n - (intOf i).toNat)
  case atStart => exact ⟨0, Nat.zero_le _, rfl, by simp, hide (Below.refl _ _)⟩
  case round =>
    obtain ⟨k, hk, rfl, rfl, HB⟩ := hrel
    by_cases hlt : k < n
    · have hlt' : (k : Int) < (n : Int) := by omega
      obtain ⟨b, off, rfl, hb, d0⟩ := smark_row (HL.out.below HB.out) k hlt
      have HQK : Hid (0 < q + k ∧ q + k ≤ 1000000000) := hide (by omega)
      have hqk : ((q + k : Nat) : Int) ≤ 1000000000 := by omega
      generalize hqe : q + k = qk at *
      have HQE : Hid _ := hide hqe
      clear hqe
      have hcell := later_cell2 d0
      have hne : Nonempty (Later wr) := later_there _
      go_wp2_with fail
      refine wp_region_later wr (by kernel_rfl) (by kernel_rfl) ((Below.refl _ _).drew) ?_
      repeat (go_big_quiet_step (first | (go_at_call 16; exact later_of (markText_any qk _ HQK.out.1 HQK.out.2))))
      refine wpQuiet_nil ?_
      intro _ hw'
      obtain ⟨nx, rfl⟩ := hw'
      have HB3 : Hid _ := hide (below_trans HB.out nx.below)
      go_wp2
      exact ⟨⟨k + 1, by omega, by go_num, by have := HQE.out; go_num, HB3⟩, by simp [intOf]; omega⟩
    · have hk' : ¬ (k : Int) < (n : Int) := by omega
      have HE : Hid (((q + k : Nat) : Int) = (q : Int) + (n : Int)) := hide (by omega)
      generalize ((q + k : Nat) : Int) = qk at *
      go_wp2
      go_ret
      exact ⟨by rw [← HE.out]; rfl, HB.out⟩
end Go.Proofs.Ytmmefhigkeonaaa
