/- The contracts of the laws' marks of disks: markText, markFileS, markDOpS, heldFileS, heldDOpS. -/
import Derived.Test.YtacbcmgpknhgdaaGreatDkT4
namespace Go.Proofs.YtacbcmgpknhgdaaGreat
open Go.ChangeShapes Go.WideShapes Go.ChangeAt Go.RowKit
set_option linter.unusedVariables false
set_option maxRecDepth 100000
def bs (l : List UInt8) : ByteArray := ⟨l.toArray⟩
theorem bs_of {r : ByteArray} {l : List UInt8} (h : r.data.toList = l) : r = bs l := by subst h; simp [bs]
def dg (n : Nat) : UInt8 := UInt8.ofNat (48 + n % 10)
def mkD : Nat → Nat → List UInt8 → List UInt8
  | 0, _, acc => acc
  | f + 1, n, acc => if n = 0 then acc else mkD f (n / 10) (dg n :: acc)
def mkT (n : Nat) : ByteArray := { data := #[109] } ++ bs (mkD 20 n [])
theorem mkD_zero (f : Nat) (acc : List UInt8) : mkD f 0 acc = acc := by cases f <;> simp [mkD]
theorem mkD_step (f n : Nat) (acc : List UInt8) (h : 0 < n) : mkD (f + 1) n acc = mkD f (n / 10) (dg n :: acc) := by rw [mkD, if_neg (by omega)]
theorem list_one (c : UInt8) (b : ByteArray) : (({ data := #[c] } : ByteArray) ++ b).data.toList = c :: b.data.toList := by simp
theorem one_size (c : UInt8) (b : ByteArray) : (({ data := #[c] } : ByteArray) ++ b).size = b.size + 1 := by
  rw [ByteArray.size_append]; show 1 + b.size = _; omega
theorem conv1 (w : World) (a : Int) : (convert 118 9 (.slice (some ⟨w.heap.size, 0, none⟩) 1 1)).run Tryz.prog (w.alloc (.cells #[.int .u8 a] 5)) = .ok (.string ⟨#[UInt8.ofNat a.toNat]⟩) (w.alloc (.cells #[.int .u8 a] 5)) := by
  have h := run_convert_bytes_arg (P := Tryz.prog) (w.alloc (.cells #[.int .u8 a] 5)) 118 5 Tryz.underlying118 Tryz.underlying5 w.heap.size 0 1 1 [a] rfl (fun i hi => by
    obtain rfl : i = 0 := by omega
    simp) 9 Tryz.underlying9
  rw [h]; rfl
set_option maxHeartbeats 400000 in
theorem markText_any (n : Nat) (w : World) (h0 : 0 < n) (h1 : n ≤ 1000000000) :
    Calls Tryz.prog 64 #[.int .i64 (n : Int)] w fun e w' => e = .returned (.string (mkT n)) ∧ Below w.heap.size w w' := by
  have a1 : ¬ (n : Int) ≤ 0 := by omega
  go_enter Tryz.func64, Tryz.ntmps64
  go_wp2
  go_loopw [0, 3] (fun i s w' => ∃ (k f : Nat) (b : ByteArray), k ≤ 1000000000 ∧ i = .int .i64 (k : Int) ∧ s = .string b ∧ Below w.heap.size w w' ∧ b.size + f ≤ 20 ∧ Hid (k < 10 ^ f) ∧ Hid (mkD f k b.data.toList = mkD 20 n [])) (fun i s w => (intOf i).toNat)
  case atStart => exact ⟨n, 20, _, h1, rfl, rfl, Below.refl _ _, by decide, hide (by omega), hide rfl⟩
  case round =>
    obtain ⟨k, f, b, hk, rfl, rfl, HB, hb, HP, HD⟩ := hrel
    have hc := conv1
    by_cases h : 0 < k
    · have h' : (0 : Int) < (k : Int) := by omega
      have hk' : (k : Int) ≤ 1000000000 := by omega
      have HD2 : Hid (∃ g, f = g + 1 ∧ k / 10 < 10 ^ g ∧ mkD g (k / 10) (({ data := #[UInt8.ofNat (48 + k % 10)] } : ByteArray) ++ b).data.toList = mkD 20 n []) := hide (by
        have hp := HP.out
        have hd := HD.out
        obtain ⟨g, rfl⟩ : ∃ g, f = g + 1 := by
          rcases f with _ | g
          · simp at hp; omega
          · exact ⟨g, rfl⟩
        refine ⟨g, rfl, by rw [Nat.pow_succ] at hp; omega, ?_⟩
        rw [list_one, ← hd, mkD_step g k _ h]; rfl)
      have HE : Hid ((48 + (k : Int) % 10).toNat = 48 + k % 10) := hide (by omega)
      clear HP HD
      go_wp2
      obtain ⟨g, rfl, hp, hd⟩ := HD2.out
      refine ⟨⟨k / 10, g, _, by omega, by go_num, rfl, below_alloc HB _, ?_, hide hp, hide ?_⟩, by simp [intOf]; omega⟩
      · rw [one_size]; omega
      · rw [← hd, UInt8.ofNat_add]; rfl
    · have h' : ¬ (0 : Int) < (k : Int) := by omega
      have HE : Hid (b = bs (mkD 20 n [])) := hide (by
        have := HD.out
        rw [show k = 0 by omega, mkD_zero] at this
        exact bs_of this)
      go_wp2
      go_ret
      exact ⟨by unfold mkT; rw [← HE.out]; rfl, HB⟩
/-- block g may have turned where p holds, and new blocks were laid -/
structure Chq (p : Prop) (g : Nat) (w w' : World) : Prop where
  os : w'.os = w.os
  tape : w'.tape = w.tape
  output : w'.output = w.output
  size : w.heap.size ≤ w'.heap.size
  block : ∀ k, k < w.heap.size → (p → k ≠ g) → w'.heap[k]? = w.heap[k]?
theorem Chq.refl (p : Prop) (g : Nat) (w : World) : Chq p g w w := ⟨rfl, rfl, rfl, Nat.le_refl _, fun _ _ _ => rfl⟩
theorem Chq.on {p : Prop} {g : Nat} {w x y : World} (h : Chq p g w x) (b : Below x.heap.size x y) : Chq p g w y :=
  ⟨b.os.trans h.os, b.tape.trans h.tape, b.output.trans h.output, Nat.le_trans h.size b.size, fun k hk hg => (b.block k (Nat.lt_of_lt_of_le hk h.size)).trans (h.block k hk hg)⟩
theorem Chq.setCell {p : Prop} {g : Nat} {w x : World} (h : Chq p g w x) (hp : p) {o : Nat} (v : Value) : Chq p g w (x.setCell ⟨g, o, none⟩ v) :=
  ⟨h.os, h.tape, h.output, by rw [size_setCell]; exact h.size, fun k hk hg => (Below.heap_setCell _ _ _ _ (hg hp)).trans (h.block k hk hg)⟩
theorem Chq.below {p : Prop} {g : Nat} {w x : World} (h : Chq p g w x) {B : Nat} (hB : p → B ≤ g) (hw : B ≤ w.heap.size) : Below B w x := ⟨h.os, h.tape, h.output, h.size, fun k hk => h.block k (by omega) (fun q => by have := hB q; omega)⟩
def fmarkL (q n : Nat) : List Fl := (List.range n).map fun (i : Nat) => ⟨mkT (q + 2 * i), mkT (q + 2 * i + 1)⟩
def omarkL (q n : Nat) : List Dp := (List.range n).map fun (i : Nat) => ⟨((q + 4 * i : Nat) : Int), mkT (q + 4 * i + 1), mkT (q + 4 * i + 2), mkT (q + 4 * i + 3)⟩
theorem fmarkL_len (q n : Nat) : (fmarkL q n).length = n := by simp [fmarkL]
theorem omarkL_len (q n : Nat) : (omarkL q n).length = n := by simp [omarkL]
theorem fmarkL_at (q n : Nat) (i : Nat) (h : i < n) : (fmarkL q n)[i]? = some ⟨mkT (q + 2 * i), mkT (q + 2 * i + 1)⟩ := by simp [fmarkL, List.getElem?_range h]
theorem omarkL_at (q n : Nat) (i : Nat) (h : i < n) : (omarkL q n)[i]? = some ⟨((q + 4 * i : Nat) : Int), mkT (q + 4 * i + 1), mkT (q + 4 * i + 2), mkT (q + 4 * i + 3)⟩ := by simp [omarkL, List.getElem?_range h]
theorem fmarkL_get (q n : Nat) (i : Nat) (h : i < (fmarkL q n).length) : (fmarkL q n)[i] = ⟨mkT (q + 2 * i), mkT (q + 2 * i + 1)⟩ := by simp [fmarkL]
theorem omarkL_get (q n : Nat) (i : Nat) (h : i < (omarkL q n).length) : (omarkL q n)[i] = ⟨((q + 4 * i : Nat) : Int), mkT (q + 4 * i + 1), mkT (q + 4 * i + 2), mkT (q + 4 * i + 3)⟩ := by simp [omarkL]
theorem PutMid.below {g n size k m : Nat} {cells : Nat → List Value} {x y : World} (h : PutMid g n size cells k m x) (b : Below x.heap.size x y) : PutMid g n size cells k m y :=
  ⟨Nat.lt_of_lt_of_le h.lt b.size, fun j hj => by obtain ⟨v, hv⟩ := h.there j hj; exact ⟨v, (b.cell h.lt).trans hv⟩, fun j => (b.frozen h.lt).trans (h.free j), fun i r hi hr => (b.cell h.lt).trans (h.done i r hi hr), fun r hr => (b.cell h.lt).trans (h.part r hr)⟩
def markFileSEnd (q : Nat) (g : Nat) (a : Option Addr) (cap n : Nat) (w : World) (e : Ending) (w' : World) : Prop := e = .returned (.int .i64 ((q + 2 * n : Nat) : Int)) ∧ Chq (0 < n) g w w' ∧ OwnRow 2 flCells w' g a cap (fmarkL q n)
set_option maxHeartbeats 8000000 in
theorem markFileS_any (a : Option Addr) (l : List Fl) (cap g : Nat) (q : Nat) (w : World) (hn : l.length ≤ 10000000) (q0 : 0 < q) (q1 : q ≤ 100000000) (h : OwnRow 2 flCells w g a cap l) :
    Calls Tryz.prog 35 #[.slice a l.length cap, .int .i64 (q : Int)] w fun e w' => markFileSEnd q g a cap l.length w e w' := by
  have HL : Hid _ := hide h
  clear h
  by_cases h0 : 0 < l.length
  · have HO : Hid _ := hide (mid_of_own flLen (by decide) (cells := fun i => ((fmarkL q l.length)[i]?).elim [] flCells) HL.out h0)
    obtain ⟨rfl, _⟩ := HL.out.own h0
    go_enter Tryz.func35, Tryz.ntmps35
    go_wp2
    go_loopw [1, 5] (fun s i wr => ∃ k : Nat, k ≤ l.length ∧ i = .int .i64 (k : Int) ∧ s = .int .i64 ((q + 2 * k : Nat) : Int) ∧ Hid (Chq (0 < l.length) g w wr) ∧ Hid (RowMid g l.length 2 (fun i => ((fmarkL q l.length)[i]?).elim [] flCells) k wr)) (fun s i wr => l.length - (intOf i).toNat)
    case atStart => exact ⟨0, Nat.zero_le _, rfl, by simp, hide (Chq.refl _ _ _), HO⟩
    case round =>
      obtain ⟨k, hk, rfl, rfl, HT, HM⟩ := hrel
      by_cases hlt : k < l.length
      · have hlt' : (k : Int) < (l.length : Int) := by omega
        have HQK : Hid (0 < q + 2 * k ∧ q + 2 * k ≤ 900000000) := hide (by omega)
        have hqk : ((q + 2 * k : Nat) : Int) ≤ 900000000 := by omega
        have HAT : Hid _ := hide (fmarkL_at q l.length k hlt)
        generalize hqe : q + 2 * k = qk at *
        have HQE : Hid _ := hide hqe
        clear hqe
        have HP0 : Hid _ := hide HM.out.put
        have HT0 : Hid _ := hide HT.out
        clear HM HT
        have HMT0 : Hid (Calls Tryz.prog 64 #[.int .i64 ((qk : Nat) : Int)] wr fun e w' => e = .returned (.string (mkT qk)) ∧ Below wr.heap.size wr w') := hide (by
          have := markText_any qk wr (by have := HQK.out; omega) (by have := HQK.out; omega)
          simpa using this)
        go_wp2_with fail
        refine HMT0.out.mono ?_
        rintro e x0 ⟨rfl, hb0⟩
        have HQ0 : Hid _ := hide (HP0.out.below hb0)
        have HU0 : Hid _ := hide (HT0.out.on hb0)
        clear hb0 HP0 HT0
        obtain ⟨v0, f0⟩ := HQ0.out.there (k * 2) (by omega)
        have z0 := HQ0.out.free (k * 2)
        have HP1 : Hid _ := hide (HQ0.out.set hlt (by decide) (v := .string (mkT qk)) (by rw [HAT.out]; simp [flCells]) (o := k * 2) (by omega))
        have HT1 : Hid _ := hide (HU0.out.setCell h0 (o := k * 2) (.string (mkT qk)))
        clear HQ0 HU0
        have HMT1 : Hid (Calls Tryz.prog 64 #[.int .i64 ((qk : Int) + 1)] (x0.setCell ⟨g, k * 2, none⟩ (.string (mkT qk))) fun e w' => e = .returned (.string (mkT (qk + 1))) ∧ Below (x0.setCell ⟨g, k * 2, none⟩ (.string (mkT qk))).heap.size (x0.setCell ⟨g, k * 2, none⟩ (.string (mkT qk))) w') := hide (by
          have := markText_any (qk + 1) (x0.setCell ⟨g, k * 2, none⟩ (.string (mkT qk))) (by have := HQK.out; omega) (by have := HQK.out; omega)
          simpa using this)
        go_wp2_with fail
        refine HMT1.out.mono ?_
        rintro e x1 ⟨rfl, hb1⟩
        have HQ1 : Hid _ := hide (HP1.out.below hb1)
        have HU1 : Hid _ := hide (HT1.out.on hb1)
        clear hb1 HP1 HT1
        obtain ⟨v1, f1⟩ := HQ1.out.there (k * 2 + 1) (by omega)
        have z1 := HQ1.out.free (k * 2 + 1)
        have HP2 : Hid _ := hide (HQ1.out.set hlt (by decide) (v := .string (mkT (qk + 1))) (by rw [HAT.out]; simp [flCells]) (o := k * 2 + 1) (by omega))
        have HT2 : Hid _ := hide (HU1.out.setCell h0 (o := k * 2 + 1) (.string (mkT (qk + 1))))
        clear HQ1 HU1
        have HW : Hid _ := hide HP2.out.whole
        clear HP2
        go_wp2
        exact ⟨⟨k + 1, by omega, by go_num, by have := HQE.out; go_num, HT2, HW⟩, by simp [intOf]; omega⟩
      · have hk' : ¬ (k : Int) < (l.length : Int) := by omega
        have HE : Hid (markFileSEnd q g (some ⟨g, 0, none⟩) cap l.length w (.returned (.int .i64 ((q + 2 * k : Nat) : Int))) wr) := hide (by
          have M := HM.out
          have ek : k = l.length := by omega
          rw [ek] at M ⊢
          have O := own_of_mid (l := fmarkL q l.length) flLen (by rw [fmarkL_len]; exact M) (cap := cap) (by rw [fmarkL_len]; exact HL.out.room)
          exact ⟨rfl, HT.out, O⟩)
        generalize ((q + 2 * k : Nat) : Int) = qk at *
        go_wp2
        go_ret
        exact HE.out
  · have hz : l = [] := List.eq_nil_of_length_eq_zero (by omega)
    subst hz
    go_enter Tryz.func35, Tryz.ntmps35
    go_wp2
    go_loopw [1, 5] (fun s i wr => s = .int .i64 (q : Int) ∧ i = .int .i64 0 ∧ wr = w) (fun s i wr => 0)
    case atStart => exact ⟨rfl, rfl, rfl⟩
    case round =>
      obtain ⟨rfl, rfl, hw⟩ := hrel
      subst hw
      go_wp2
      go_ret
      exact ⟨by simp, Chq.refl _ _ _, by have := HL.out; simpa [fmarkL] using this⟩
end Go.Proofs.YtacbcmgpknhgdaaGreat
