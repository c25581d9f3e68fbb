/- The contracts of the laws' eqLedger and its parts, at what is the same. -/
import Derived.Test.YteaopalhbnhbaaaGreatDoorGd
import Derived.Test.YteaopalhbnhbaaaGreatDoorGc
import Derived.Test.YteaopalhbnhbaaaGreatDoorGb
namespace Go.Proofs.YteaopalhbnhbaaaGreatDoor
open Go.ChangeShapes Go.WideShapes Go.ChangeAt Go.RowKit
set_option linter.unusedVariables false
set_option maxRecDepth 100000
def YesEnd (w : World) (e : Ending) (w' : World) : Prop := e = .returned (.bool true) ∧ Below w.heap.size w w'
set_option maxHeartbeats 1000000 in
theorem eqAccount_any (nm cu : ByteArray) (li po : Int) (w : World) :
    Calls Tryz.prog 80 #[.agg #[.string nm, .string cu, .int .i64 li, .int .i64 po], .agg #[.string nm, .string cu, .int .i64 li, .int .i64 po]] w fun e w' => YesEnd w e w' := by
  have h0 : (nm.toList != nm.toList) = false := by simp
  have h1 : (cu.toList != cu.toList) = false := by simp
  have h2 : (li != li) = false := by simp
  have h3 : (po != po) = false := by simp
  go_enter Tryz.func80, Tryz.ntmps80
  go_wp2
  go_ret
  exact ⟨rfl, below_alloc (below_alloc (Below.refl _ _) _) _⟩
set_option maxHeartbeats 2000000 in
theorem eqAccountS_any (a c : Option Addr) (l : List Acc) (ca cc : Nat) (w : World) (hn : l.length ≤ 1048576) (h : AccAt w a l) (h' : AccAt w c l) :
    Calls Tryz.prog 40 #[.slice a l.length ca, .slice c l.length cc] w fun e w' => YesEnd w e w' := by
  have HL : Hid _ := hide h
  have HL' : Hid _ := hide h'
  clear h h'
  have hln : ((l.length : Int) != (l.length : Int)) = false := by simp
  go_enter Tryz.func40, Tryz.ntmps40
  go_wp2
  go_loopw [5] (fun i wr => ∃ k : Nat, k ≤ l.length ∧ i = .int .i64 (k : Int) ∧ Below w.heap.size w wr) (fun i wr => l.length - (intOf i).toNat)
  case atStart => exact ⟨0, Nat.zero_le _, rfl, Below.refl _ _⟩
  case round =>
    obtain ⟨k, hk, rfl, HB⟩ := hrel
    by_cases hlt : k < l.length
    · obtain ⟨b, off, rfl, hb, d0, d1, d2, d3, s1, s2, _, _⟩ := (HL.out.below HB) k hlt
      obtain ⟨b2, off2, rfl, hc, e0, e1, e2, e3, _, _, _, _⟩ := (HL'.out.below HB) k hlt
      have hlt' : (k : Int) < (l.length : Int) := by omega
      have d0' := fun y : Later wr => (y.below.cell hb).trans d0
      have d1' := fun y : Later wr => (y.below.cell hb).trans d1
      have d2' := fun y : Later wr => (y.below.cell hb).trans d2
      have d3' := fun y : Later wr => (y.below.cell hb).trans d3
      have e0' := fun y : Later wr => (y.below.cell hc).trans e0
      have e1' := fun y : Later wr => (y.below.cell hc).trans e1
      have e2' := fun y : Later wr => (y.below.cell hc).trans e2
      have e3' := fun y : Later wr => (y.below.cell hc).trans e3
      clear d0 d1 d2 d3 e0 e1 e2 e3
      have hne : Nonempty (Later wr) := later_there _
      go_wp2_with fail
      refine wp_region_later wr (by kernel_rfl) (by kernel_rfl) ((Below.refl _ _).drew) ?_
      repeat (go_big_quiet_step (first | (go_at_call 80; exact later_of (eqAccount_any _ _ _ _ _))))
      refine wpQuiet_nil ?_
      intro _ hw'
      obtain ⟨nx, rfl⟩ := hw'
      go_wp2
      exact ⟨⟨k + 1, by omega, by go_num, below_trans HB nx.below⟩, by simp [intOf]; omega⟩
    · have hk' : ¬ (k : Int) < (l.length : Int) := by omega
      go_wp2
      go_ret
      exact ⟨rfl, HB⟩
set_option maxHeartbeats 1000000 in
theorem eqHold_any (id : Int) (nm cu : ByteArray) (am : Int) (w : World) :
    Calls Tryz.prog 81 #[.agg #[.int .i64 id, .string nm, .string cu, .int .i64 am], .agg #[.int .i64 id, .string nm, .string cu, .int .i64 am]] w fun e w' => YesEnd w e w' := by
  have h0 : (id != id) = false := by simp
  have h1 : (nm.toList != nm.toList) = false := by simp
  have h2 : (cu.toList != cu.toList) = false := by simp
  have h3 : (am != am) = false := by simp
  go_enter Tryz.func81, Tryz.ntmps81
  go_wp2
  go_ret
  exact ⟨rfl, below_alloc (below_alloc (Below.refl _ _) _) _⟩
set_option maxHeartbeats 2000000 in
theorem eqHoldS_any (a c : Option Addr) (l : List Hld) (ca cc : Nat) (w : World) (hn : l.length ≤ 1048576) (h : HoldAt w a l) (h' : HoldAt w c l) :
    Calls Tryz.prog 41 #[.slice a l.length ca, .slice c l.length cc] w fun e w' => YesEnd w e w' := by
  have HL : Hid _ := hide h
  have HL' : Hid _ := hide h'
  clear h h'
  have hln : ((l.length : Int) != (l.length : Int)) = false := by simp
  go_enter Tryz.func41, Tryz.ntmps41
  go_wp2
  go_loopw [5] (fun i wr => ∃ k : Nat, k ≤ l.length ∧ i = .int .i64 (k : Int) ∧ Below w.heap.size w wr) (fun i wr => l.length - (intOf i).toNat)
  case atStart => exact ⟨0, Nat.zero_le _, rfl, Below.refl _ _⟩
  case round =>
    obtain ⟨k, hk, rfl, HB⟩ := hrel
    by_cases hlt : k < l.length
    · obtain ⟨b, off, rfl, hb, d0, d1, d2, d3, s1, s2, _, _⟩ := (HL.out.below HB) k hlt
      obtain ⟨b2, off2, rfl, hc, e0, e1, e2, e3, _, _, _, _⟩ := (HL'.out.below HB) k hlt
      have hlt' : (k : Int) < (l.length : Int) := by omega
      have d0' := fun y : Later wr => (y.below.cell hb).trans d0
      have d1' := fun y : Later wr => (y.below.cell hb).trans d1
      have d2' := fun y : Later wr => (y.below.cell hb).trans d2
      have d3' := fun y : Later wr => (y.below.cell hb).trans d3
      have e0' := fun y : Later wr => (y.below.cell hc).trans e0
      have e1' := fun y : Later wr => (y.below.cell hc).trans e1
      have e2' := fun y : Later wr => (y.below.cell hc).trans e2
      have e3' := fun y : Later wr => (y.below.cell hc).trans e3
      clear d0 d1 d2 d3 e0 e1 e2 e3
      have hne : Nonempty (Later wr) := later_there _
      go_wp2_with fail
      refine wp_region_later wr (by kernel_rfl) (by kernel_rfl) ((Below.refl _ _).drew) ?_
      repeat (go_big_quiet_step (first | (go_at_call 81; exact later_of (eqHold_any _ _ _ _ _))))
      refine wpQuiet_nil ?_
      intro _ hw'
      obtain ⟨nx, rfl⟩ := hw'
      go_wp2
      exact ⟨⟨k + 1, by omega, by go_num, below_trans HB nx.below⟩, by simp [intOf]; omega⟩
    · have hk' : ¬ (k : Int) < (l.length : Int) := by omega
      go_wp2
      go_ret
      exact ⟨rfl, HB⟩
set_option maxHeartbeats 1000000 in
theorem eqAnswered_any (id co : Int) (w : World) :
    Calls Tryz.prog 82 #[.agg #[.int .i64 id, .int .i64 co], .agg #[.int .i64 id, .int .i64 co]] w fun e w' => YesEnd w e w' := by
  have h0 : (id != id) = false := by simp
  have h1 : (co != co) = false := by simp
  go_enter Tryz.func82, Tryz.ntmps82
  go_wp2
  go_ret
  exact ⟨rfl, below_alloc (below_alloc (Below.refl _ _) _) _⟩
set_option maxHeartbeats 2000000 in
theorem eqAnsweredS_any (a c : Option Addr) (l : List Sn) (ca cc : Nat) (w : World) (hn : l.length ≤ 1048576) (h : AnsAt w a l) (h' : AnsAt w c l) :
    Calls Tryz.prog 42 #[.slice a l.length ca, .slice c l.length cc] w fun e w' => YesEnd w e w' := by
  have HL : Hid _ := hide h
  have HL' : Hid _ := hide h'
  clear h h'
  have hln : ((l.length : Int) != (l.length : Int)) = false := by simp
  go_enter Tryz.func42, Tryz.ntmps42
  go_wp2
  go_loopw [5] (fun i wr => ∃ k : Nat, k ≤ l.length ∧ i = .int .i64 (k : Int) ∧ Below w.heap.size w wr) (fun i wr => l.length - (intOf i).toNat)
  case atStart => exact ⟨0, Nat.zero_le _, rfl, Below.refl _ _⟩
  case round =>
    obtain ⟨k, hk, rfl, HB⟩ := hrel
    by_cases hlt : k < l.length
    · obtain ⟨b, off, rfl, hb, d0, d1, _, _⟩ := (HL.out.below HB) k hlt
      obtain ⟨b2, off2, rfl, hc, e0, e1, _, _⟩ := (HL'.out.below HB) k hlt
      have hlt' : (k : Int) < (l.length : Int) := by omega
      have d0' := fun y : Later wr => (y.below.cell hb).trans d0
      have d1' := fun y : Later wr => (y.below.cell hb).trans d1
      have e0' := fun y : Later wr => (y.below.cell hc).trans e0
      have e1' := fun y : Later wr => (y.below.cell hc).trans e1
      clear d0 d1 e0 e1
      have hne : Nonempty (Later wr) := later_there _
      go_wp2_with fail
      refine wp_region_later wr (by kernel_rfl) (by kernel_rfl) ((Below.refl _ _).drew) ?_
      repeat (go_big_quiet_step (first | (go_at_call 82; exact later_of (eqAnswered_any _ _ _))))
      refine wpQuiet_nil ?_
      intro _ hw'
      obtain ⟨nx, rfl⟩ := hw'
      go_wp2
      exact ⟨⟨k + 1, by omega, by go_num, below_trans HB nx.below⟩, by simp [intOf]; omega⟩
    · have hk' : ¬ (k : Int) < (l.length : Int) := by omega
      go_wp2
      go_ret
      exact ⟨rfl, HB⟩
theorem box33 {w x : World} {va vh vs : Value} (h : Below (w.alloc (.cells #[va, vh, vs] 28)).heap.size (w.alloc (.cells #[va, vh, vs] 28)) x) : x.cell? ⟨w.heap.size, 0, none⟩ = some va ∧ x.cell? ⟨w.heap.size, 1, none⟩ = some vh ∧ x.cell? ⟨w.heap.size, 2, none⟩ = some vs :=
  ⟨by rw [h.cell (by simp)]; simp, by rw [h.cell (by simp)]; simp, by rw [h.cell (by simp)]; simp⟩
theorem boxes33 {w x : World} {pa ph ps qa qh qs : Value} (h : Below ((w.alloc (.cells #[pa, ph, ps] 28)).alloc (.cells #[qa, qh, qs] 28)).heap.size ((w.alloc (.cells #[pa, ph, ps] 28)).alloc (.cells #[qa, qh, qs] 28)) x) :
    (x.cell? ⟨w.heap.size, 0, none⟩ = some pa ∧ x.cell? ⟨w.heap.size, 1, none⟩ = some ph ∧ x.cell? ⟨w.heap.size, 2, none⟩ = some ps) ∧ (x.cell? ⟨w.heap.size + 1, 0, none⟩ = some qa ∧ x.cell? ⟨w.heap.size + 1, 1, none⟩ = some qh ∧ x.cell? ⟨w.heap.size + 1, 2, none⟩ = some qs) := by
  have h1 := box33 (below_trans (below_alloc (Below.refl _ _) _) h)
  have h2 := box33 h
  rw [show (w.alloc (.cells #[pa, ph, ps] 28)).heap.size = w.heap.size + 1 by simp] at h2
  exact ⟨h1, h2⟩
set_option maxHeartbeats 2000000 in
theorem eqLedger_any (a h s a' h' s' : Option Addr) (L : Led) (ca ch cs ca' ch' cs' : Nat) (w : World) (hl : LedAt w a h s L) (hl' : LedAt w a' h' s' L) (n1 : L.acc.length ≤ 1048576) (n2 : L.hold.length ≤ 1048576) (n3 : L.seen.length ≤ 1048576) :
    Calls Tryz.prog 14 #[.agg #[.slice a L.acc.length ca, .slice h L.hold.length ch, .slice s L.seen.length cs], .agg #[.slice a' L.acc.length ca', .slice h' L.hold.length ch', .slice s' L.seen.length cs']] w fun e w' => YesEnd w e w' := by
  have HL : Hid _ := hide hl
  have HL' : Hid _ := hide hl'
  clear hl hl'
  have HX0 : Hid (Below ((w.alloc (.cells #[.slice a L.acc.length ca, .slice h L.hold.length ch, .slice s L.seen.length cs] 28)).alloc (.cells #[.slice a' L.acc.length ca', .slice h' L.hold.length ch', .slice s' L.seen.length cs'] 28)).heap.size ((w.alloc (.cells #[.slice a L.acc.length ca, .slice h L.hold.length ch, .slice s L.seen.length cs] 28)).alloc (.cells #[.slice a' L.acc.length ca', .slice h' L.hold.length ch', .slice s' L.seen.length cs'] 28)) ((w.alloc (.cells #[.slice a L.acc.length ca, .slice h L.hold.length ch, .slice s L.seen.length cs] 28)).alloc (.cells #[.slice a' L.acc.length ca', .slice h' L.hold.length ch', .slice s' L.seen.length cs'] 28))) := hide (Below.refl _ _)
  have HO : Hid (∀ x, Below ((w.alloc (.cells #[.slice a L.acc.length ca, .slice h L.hold.length ch, .slice s L.seen.length cs] 28)).alloc (.cells #[.slice a' L.acc.length ca', .slice h' L.hold.length ch', .slice s' L.seen.length cs'] 28)).heap.size ((w.alloc (.cells #[.slice a L.acc.length ca, .slice h L.hold.length ch, .slice s L.seen.length cs] 28)).alloc (.cells #[.slice a' L.acc.length ca', .slice h' L.hold.length ch', .slice s' L.seen.length cs'] 28)) x → Below w.heap.size w x) := hide (fun x hx => below_trans (below_alloc (below_alloc (Below.refl _ _) _) _) hx)
  go_enter Tryz.func14, Tryz.ntmps14
  go_wp2_with (first
    | (go_at_call 40; refine (eqAccountS_any _ _ L.acc _ _ _ n1 (HL.out.acc.below (HO.out _ HX0.out)) (HL'.out.acc.below (HO.out _ HX0.out))).mono ?_; rintro e w1 ⟨rfl, hb1⟩; have HX1 : Hid _ := hide (below_trans HX0.out hb1); obtain ⟨⟨x0, x1, x2⟩, y0, y1, y2⟩ := boxes33 HX1.out; clear hb1)
    | (go_at_call 41; refine (eqHoldS_any _ _ L.hold _ _ _ n2 (HL.out.hold.below (HO.out _ HX1.out)) (HL'.out.hold.below (HO.out _ HX1.out))).mono ?_; rintro e w2 ⟨rfl, hb2⟩; have HX2 : Hid _ := hide (below_trans HX1.out hb2); obtain ⟨⟨z0, z1, z2⟩, t0, t1, t2⟩ := boxes33 HX2.out; clear hb2)
    | (go_at_call 42; refine (eqAnsweredS_any _ _ L.seen _ _ _ n3 (HL.out.seen.below (HO.out _ HX2.out)) (HL'.out.seen.below (HO.out _ HX2.out))).mono ?_; rintro e w3 ⟨rfl, hb3⟩; have HX3 : Hid _ := hide (below_trans HX2.out hb3); clear hb3))
  go_ret
  exact ⟨rfl, HO.out _ HX3.out⟩
end Go.Proofs.YteaopalhbnhbaaaGreatDoor
/- The contracts of the laws' marks of a ledger's rows. -/
namespace Go.Proofs.YteaopalhbnhbaaaGreatDoor
open Go.ChangeShapes Go.WideShapes Go.ChangeAt Go.RowKit
set_option linter.unusedVariables false
set_option maxRecDepth 100000
def mkD : Nat → Nat → List UInt8 → List UInt8
  | 0, _, acc => acc
  | f + 1, n, acc => if n = 0 then acc else mkD f (n / 10) (dg n :: acc)
def mkT (n : Nat) : ByteArray := { data := #[109] } ++ bs (mkD 20 n [])
theorem mkD_zero (f : Nat) (acc : List UInt8) : mkD f 0 acc = acc := by cases f <;> simp [mkD]
theorem mkD_step (f n : Nat) (acc : List UInt8) (h : 0 < n) : mkD (f + 1) n acc = mkD f (n / 10) (dg n :: acc) := by rw [mkD, if_neg (by omega)]
set_option maxHeartbeats 400000 in
theorem markText_any (n : Nat) (w : World) (h0 : 0 < n) (h1 : n ≤ 1000000000) :
    Calls Tryz.prog 83 #[.int .i64 (n : Int)] w fun e w' => e = .returned (.string (mkT n)) ∧ Below w.heap.size w w' := by
  have a1 : ¬ (n : Int) ≤ 0 := by omega
  go_enter Tryz.func83, Tryz.ntmps83
  go_wp2
  go_loopw [0, 3] (fun i s w' => ∃ (k f : Nat) (b : ByteArray), k ≤ 1000000000 ∧ i = .int .i64 (k : Int) ∧ s = .string b ∧ Below w.heap.size w w' ∧ b.size + f ≤ 20 ∧ Hid (k < 10 ^ f) ∧ Hid (mkD f k b.data.toList = mkD 20 n [])) (fun i s w => (intOf i).toNat)
  case atStart => exact ⟨n, 20, _, h1, rfl, rfl, Below.refl _ _, by decide, hide (by omega), hide rfl⟩
  case round =>
    obtain ⟨k, f, b, hk, rfl, rfl, HB, hb, HP, HD⟩ := hrel
    have hc := conv1
    by_cases h : 0 < k
    · have h' : (0 : Int) < (k : Int) := by omega
      have hk' : (k : Int) ≤ 1000000000 := by omega
      have HD2 : Hid (∃ g, f = g + 1 ∧ k / 10 < 10 ^ g ∧ mkD g (k / 10) (({ data := #[UInt8.ofNat (48 + k % 10)] } : ByteArray) ++ b).data.toList = mkD 20 n []) := hide (by
        have hp := HP.out
        have hd := HD.out
        obtain ⟨g, rfl⟩ : ∃ g, f = g + 1 := by
          rcases f with _ | g
          · simp at hp; omega
          · exact ⟨g, rfl⟩
        refine ⟨g, rfl, by rw [Nat.pow_succ] at hp; omega, ?_⟩
        rw [list_one, ← hd, mkD_step g k _ h]; rfl)
      have HE : Hid ((48 + (k : Int) % 10).toNat = 48 + k % 10) := hide (by omega)
      clear HP HD
      go_wp2
      obtain ⟨g, rfl, hp, hd⟩ := HD2.out
      refine ⟨⟨k / 10, g, _, by omega, by go_num, rfl, below_alloc HB _, ?_, hide hp, hide ?_⟩, by simp [intOf]; omega⟩
      · rw [one_size]; omega
      · rw [← hd, UInt8.ofNat_add]; rfl
    · have h' : ¬ (0 : Int) < (k : Int) := by omega
      have HE : Hid (b = bs (mkD 20 n [])) := hide (by
        have := HD.out
        rw [show k = 0 by omega, mkD_zero] at this
        exact bs_of this)
      go_wp2
      go_ret
      exact ⟨by unfold mkT; rw [← HE.out]; rfl, HB⟩
/-- block g may have turned where p holds, and new blocks were laid -/
structure Chq (p : Prop) (g : Nat) (w w' : World) : Prop where
  os : w'.os = w.os
  tape : w'.tape = w.tape
  output : w'.output = w.output
  size : w.heap.size ≤ w'.heap.size
  block : ∀ k, k < w.heap.size → (p → k ≠ g) → w'.heap[k]? = w.heap[k]?
theorem Chq.refl (p : Prop) (g : Nat) (w : World) : Chq p g w w := ⟨rfl, rfl, rfl, Nat.le_refl _, fun _ _ _ => rfl⟩
theorem Chq.on {p : Prop} {g : Nat} {w x y : World} (h : Chq p g w x) (b : Below x.heap.size x y) : Chq p g w y :=
  ⟨b.os.trans h.os, b.tape.trans h.tape, b.output.trans h.output, Nat.le_trans h.size b.size, fun k hk hg => (b.block k (Nat.lt_of_lt_of_le hk h.size)).trans (h.block k hk hg)⟩
theorem Chq.setCell {p : Prop} {g : Nat} {w x : World} (h : Chq p g w x) (hp : p) {o : Nat} (v : Value) : Chq p g w (x.setCell ⟨g, o, none⟩ v) :=
  ⟨h.os, h.tape, h.output, by rw [size_setCell]; exact h.size, fun k hk hg => (Below.heap_setCell _ _ _ _ (hg hp)).trans (h.block k hk hg)⟩
theorem Chq.below {p : Prop} {g : Nat} {w x : World} (h : Chq p g w x) {B : Nat} (hB : p → B ≤ g) (hw : B ≤ w.heap.size) : Below B w x := ⟨h.os, h.tape, h.output, h.size, fun k hk => h.block k (by omega) (fun q => by have := hB q; omega)⟩
theorem PutMid.below {g n size k m : Nat} {cells : Nat → List Value} {x y : World} (h : PutMid g n size cells k m x) (b : Below x.heap.size x y) : PutMid g n size cells k m y :=
  ⟨Nat.lt_of_lt_of_le h.lt b.size, fun j hj => by obtain ⟨v, hv⟩ := h.there j hj; exact ⟨v, (b.cell h.lt).trans hv⟩, fun j => (b.frozen h.lt).trans (h.free j), fun i r hi hr => (b.cell h.lt).trans (h.done i r hi hr), fun r hr => (b.cell h.lt).trans (h.part r hr)⟩
theorem mid_of_own {A : Type} {sz : Nat} {f : A → List Value} (hf : ∀ x, (f x).length = sz) (h0 : 0 < sz) {g cap : Nat} {a : Option Addr} {l : List A} {x : World} {cells : Nat → List Value} (h : OwnRow sz f x g a cap l) (hl : 0 < l.length) : RowMid g l.length sz cells 0 x :=
  ⟨h.lt hl, fun j hj => by
    have hi : j / sz < l.length := (Nat.div_lt_iff_lt_mul h0).2 hj
    have hr : j % sz < sz := Nat.mod_lt _ h0
    obtain ⟨b, off, e, _, hc⟩ := h.rows (j / sz) hi
    rw [(h.own hl).1] at e
    simp only [Option.some.injEq, Addr.mk.injEq, and_true] at e
    obtain ⟨rfl, rfl⟩ := e
    have hr' : j % sz < (f l[j / sz]).length := by rw [hf]; exact hr
    have := hc (j % sz) _ (List.getElem?_eq_getElem hr')
    have hd : j / sz * sz + j % sz = j := by rw [Nat.mul_comm]; exact Nat.div_add_mod j sz
    rw [Nat.zero_add, hd] at this
    exact ⟨_, this⟩, (h.own hl).2, fun i r hi => by omega⟩
theorem OwnRow.keepB {A : Type} {sz : Nat} {f : A → List Value} {x y : World} {g : Nat} {a : Option Addr} {cap : Nat} {l : List A} (h : OwnRow sz f x g a cap l) (e : 0 < l.length → y.heap[g]? = x.heap[g]?) : OwnRow sz f y g a cap l := by
  have hgy : 0 < l.length → g < y.heap.size := fun q => by
    have hg := h.lt q
    have e := e q
    rcases Nat.lt_or_ge g y.heap.size with k | k
    · exact k
    · rw [Array.getElem?_eq_none k, Array.getElem?_eq_getElem hg] at e; cases e
  refine ⟨fun i hi => ?_, fun h0 => ⟨(h.own h0).1, fun j => ?_⟩, h.room, h.nocap⟩
  · have h0 : 0 < l.length := by omega
    obtain ⟨b, off, e2, _, hc⟩ := h.rows i hi
    have e3 := e2
    rw [(h.own h0).1] at e2
    simp only [Option.some.injEq, Addr.mk.injEq, and_true] at e2
    obtain ⟨rfl, rfl⟩ := e2
    exact ⟨g, 0, e3, hgy h0, fun r v hv => (World.cell?_of_block (w := x) (e h0)).trans (hc r v hv)⟩
  · exact (World.frozen?_of_block (w := x) (e h0)).trans ((h.own h0).2 j)
theorem Blk.same {g : Nat} {cur : List Value} {x y : World} (h : Blk g cur x) (e : y.heap[g]? = x.heap[g]?) (s : x.heap.size ≤ y.heap.size) : Blk g cur y :=
  ⟨Nat.lt_of_lt_of_le h.lt s, fun j v hj => (World.cell?_of_block e).trans (h.c j v hj), fun j => (World.frozen?_of_block e).trans (h.f j)⟩
theorem later_cell {W : World} {p : Addr} {v : Value} (h : W.cell? p = some v) : ∀ y : Later W, y.w.cell? p = some v := fun y => (y.below.cell (cell_lt h)).trans h
def HeldEnd (r : Nat) (w : World) (e : Ending) (w' : World) : Prop := e = .returned (.int .i64 ((r : Nat) : Int)) ∧ Below w.heap.size w w'
def accmarkL (q n : Nat) : List Acc := (List.range n).map fun (i : Nat) => ⟨mkT (q + 4 * i), mkT (q + 4 * i + 1), ((q + 4 * i : Nat) : Int) + 2, ((q + 4 * i : Nat) : Int) + 3⟩
theorem accmarkL_len (q n : Nat) : (accmarkL q n).length = n := by simp [accmarkL]
theorem accmarkL_at (q n : Nat) (i : Nat) (h : i < n) : (accmarkL q n)[i]? = some ⟨mkT (q + 4 * i), mkT (q + 4 * i + 1), ((q + 4 * i : Nat) : Int) + 2, ((q + 4 * i : Nat) : Int) + 3⟩ := by simp [accmarkL, List.getElem?_range h]
theorem accmarkL_get (q n : Nat) (i : Nat) (h : i < (accmarkL q n).length) : (accmarkL q n)[i] = ⟨mkT (q + 4 * i), mkT (q + 4 * i + 1), ((q + 4 * i : Nat) : Int) + 2, ((q + 4 * i : Nat) : Int) + 3⟩ := by simp [accmarkL]
def markAccountSEnd (q : Nat) (g : Nat) (a : Option Addr) (cap n : Nat) (w : World) (e : Ending) (w' : World) : Prop := e = .returned (.int .i64 ((q + 4 * n : Nat) : Int)) ∧ Chq (0 < n) g w w' ∧ OwnRow 4 accCells w' g a cap (accmarkL q n)
set_option maxHeartbeats 8000000 in
theorem markAccountS_any (a : Option Addr) (l : List Acc) (cap g : Nat) (q : Nat) (w : World) (hn : l.length ≤ 10000000) (q0 : 0 < q) (q1 : q ≤ 100000000) (h : OwnRow 4 accCells w g a cap l) :
    Calls Tryz.prog 43 #[.slice a l.length cap, .int .i64 (q : Int)] w fun e w' => markAccountSEnd q g a cap l.length w e w' := by
  have HL : Hid _ := hide h
  clear h
  by_cases h0 : 0 < l.length
  · have HO : Hid _ := hide (mid_of_own accLen (by decide) (cells := fun i => ((accmarkL q l.length)[i]?).elim [] accCells) HL.out h0)
    obtain ⟨rfl, _⟩ := HL.out.own h0
    go_enter Tryz.func43, Tryz.ntmps43
    go_wp2
    go_loopw [1, 5] (fun s i wr => ∃ k : Nat, k ≤ l.length ∧ i = .int .i64 (k : Int) ∧ s = .int .i64 ((q + 4 * k : Nat) : Int) ∧ Hid (Chq (0 < l.length) g w wr) ∧ Hid (RowMid g l.length 4 (fun i => ((accmarkL q l.length)[i]?).elim [] accCells) k wr)) (fun s i wr => l.length - (intOf i).toNat)
    case atStart => exact ⟨0, Nat.zero_le _, rfl, by simp, hide (Chq.refl _ _ _), HO⟩
    case round =>
      obtain ⟨k, hk, rfl, rfl, HT, HM⟩ := hrel
      by_cases hlt : k < l.length
      · have hlt' : (k : Int) < (l.length : Int) := by omega
        have HQK : Hid (0 < q + 4 * k ∧ q + 4 * k ≤ 900000000) := hide (by omega)
        have hqk : ((q + 4 * k : Nat) : Int) ≤ 900000000 := by omega
        have HAT : Hid _ := hide (accmarkL_at q l.length k hlt)
        generalize hqe : q + 4 * k = qk at *
        have HQE : Hid _ := hide hqe
        clear hqe
        have HP0 : Hid _ := hide HM.out.put
        have HT0 : Hid _ := hide HT.out
        clear HM HT
        have HMT0 : Hid (Calls Tryz.prog 83 #[.int .i64 ((qk : Nat) : Int)] (wr) fun e w' => e = .returned (.string (mkT qk)) ∧ Below (wr).heap.size (wr) w') := hide (by
          have := markText_any qk (wr) (by have := HQK.out; omega) (by have := HQK.out; omega)
          simpa using this)
        go_wp2_with fail
        refine HMT0.out.mono ?_
        rintro e x0 ⟨rfl, hb0⟩
        have HQ0 : Hid _ := hide (HP0.out.below hb0)
        have HU0 : Hid _ := hide (HT0.out.on hb0)
        clear hb0 HP0 HT0 HMT0
        obtain ⟨v0, f0⟩ := HQ0.out.there (k * 4) (by omega)
        have z0 := HQ0.out.free (k * 4)
        have HP1 : Hid _ := hide (HQ0.out.set hlt (by decide) (v := .string (mkT qk)) (by rw [HAT.out]; simp [accCells]) (o := k * 4) (by omega))
        have HT1 : Hid _ := hide (HU0.out.setCell h0 (o := k * 4) (.string (mkT qk)))
        clear HQ0 HU0
        have HMT1 : Hid (Calls Tryz.prog 83 #[.int .i64 ((qk : Int) + 1)] (x0.setCell ⟨g, k * 4, none⟩ (.string (mkT qk))) fun e w' => e = .returned (.string (mkT (qk + 1))) ∧ Below (x0.setCell ⟨g, k * 4, none⟩ (.string (mkT qk))).heap.size (x0.setCell ⟨g, k * 4, none⟩ (.string (mkT qk))) w') := hide (by
          have := markText_any (qk + 1) (x0.setCell ⟨g, k * 4, none⟩ (.string (mkT qk))) (by have := HQK.out; omega) (by have := HQK.out; omega)
          simpa using this)
        go_wp2_with fail
        refine HMT1.out.mono ?_
        rintro e x1 ⟨rfl, hb1⟩
        have HQ1 : Hid _ := hide (HP1.out.below hb1)
        have HU1 : Hid _ := hide (HT1.out.on hb1)
        clear hb1 HP1 HT1 HMT1 f0 z0
        obtain ⟨v1, f1⟩ := HQ1.out.there (k * 4 + 1) (by omega)
        have z1 := HQ1.out.free (k * 4 + 1)
        obtain ⟨v2, f2⟩ := HQ1.out.there (k * 4 + 2) (by omega)
        have z2 := HQ1.out.free (k * 4 + 2)
        obtain ⟨v3, f3⟩ := HQ1.out.there (k * 4 + 3) (by omega)
        have z3 := HQ1.out.free (k * 4 + 3)
        have HP2 : Hid _ := hide (HQ1.out.set hlt (by decide) (v := .string (mkT (qk + 1))) (by rw [HAT.out]; simp [accCells]) (o := k * 4 + 1) (by omega))
        have HT2 : Hid _ := hide (HU1.out.setCell h0 (o := k * 4 + 1) (.string (mkT (qk + 1))))
        clear HQ1 HU1
        have HQ2 : Hid _ := hide HP2.out
        have HU2 : Hid _ := hide HT2.out
        clear HP2 HT2
        have HP3 : Hid _ := hide (HQ2.out.set hlt (by decide) (v := .int .i64 ((qk : Int) + 2)) (by rw [HAT.out]; simp [accCells]) (o := k * 4 + 2) (by omega))
        have HT3 : Hid _ := hide (HU2.out.setCell h0 (o := k * 4 + 2) (.int .i64 ((qk : Int) + 2)))
        clear HQ2 HU2
        have HQ3 : Hid _ := hide HP3.out
        have HU3 : Hid _ := hide HT3.out
        clear HP3 HT3
        have HP4 : Hid _ := hide (HQ3.out.set hlt (by decide) (v := .int .i64 ((qk : Int) + 3)) (by rw [HAT.out]; simp [accCells]) (o := k * 4 + 3) (by omega))
        have HT4 : Hid _ := hide (HU3.out.setCell h0 (o := k * 4 + 3) (.int .i64 ((qk : Int) + 3)))
        clear HQ3 HU3
        have HW : Hid _ := hide HP4.out.whole
        clear HP4
        go_wp2
        exact ⟨⟨k + 1, by omega, by go_num, by have := HQE.out; go_num, HT4, HW⟩, by simp [intOf]; omega⟩
      · have hk' : ¬ (k : Int) < (l.length : Int) := by omega
        have HE : Hid (markAccountSEnd q g (some ⟨g, 0, none⟩) cap l.length w (.returned (.int .i64 ((q + 4 * k : Nat) : Int))) wr) := hide (by
          have M := HM.out
          have ek : k = l.length := by omega
          rw [ek] at M ⊢
          have O := own_of_mid (l := accmarkL q l.length) accLen (by rw [accmarkL_len]; exact M) (cap := cap) (by rw [accmarkL_len]; exact HL.out.room)
          exact ⟨rfl, HT.out, O⟩)
        generalize ((q + 4 * k : Nat) : Int) = qk at *
        go_wp2
        go_ret
        exact HE.out
  · have hz : l = [] := List.eq_nil_of_length_eq_zero (by omega)
    subst hz
    go_enter Tryz.func43, Tryz.ntmps43
    go_wp2
    go_loopw [1, 5] (fun s i wr => s = .int .i64 (q : Int) ∧ i = .int .i64 0 ∧ wr = w) (fun s i wr => 0)
    case atStart => exact ⟨rfl, rfl, rfl⟩
    case round =>
      obtain ⟨rfl, rfl, hw⟩ := hrel
      subst hw
      go_wp2
      go_ret
      exact ⟨by simp, Chq.refl _ _ _, by have := HL.out; simpa [accmarkL] using this⟩
theorem accmark_row {q n : Nat} {a : Option Addr} {w : World} (h : RowAt 4 accCells w a (accmarkL q n)) (i : Nat) (hi : i < n) : ∃ b off, a = some ⟨b, off, none⟩ ∧ b < w.heap.size ∧ w.cell? ⟨b, off + i * 4, none⟩ = some (.string (mkT (q + 4 * i))) ∧ w.cell? ⟨b, off + i * 4 + 1, none⟩ = some (.string (mkT (q + 4 * i + 1))) ∧ w.cell? ⟨b, off + i * 4 + 2, none⟩ = some (.int .i64 (((q + 4 * i : Nat) : Int) + 2)) ∧ w.cell? ⟨b, off + i * 4 + 3, none⟩ = some (.int .i64 (((q + 4 * i : Nat) : Int) + 3)) := by
  obtain ⟨b, off, e, hb, hc⟩ := h i (by rw [accmarkL_len]; exact hi)
  rw [accmarkL_get] at hc
  exact ⟨b, off, e, hb, hc 0 _ rfl, hc 1 _ rfl, hc 2 _ rfl, hc 3 _ rfl⟩
set_option maxHeartbeats 8000000 in
theorem heldAccountS_any (a : Option Addr) (n cap : Nat) (q : Nat) (w : World) (hn : n ≤ 10000000) (q0 : 0 < q) (q1 : q ≤ 100000000) (h : RowAt 4 accCells w a (accmarkL q n)) :
    Calls Tryz.prog 46 #[.slice a n cap, .int .i64 (q : Int)] w fun e w' => HeldEnd (q + 4 * n) w e w' := by
  have HL : Hid _ := hide h
  clear h
  go_enter Tryz.func46, Tryz.ntmps46
  go_wp2
  go_loopw [1, 5] (fun s i wr => ∃ k : Nat, k ≤ n ∧ i = .int .i64 (k : Int) ∧ s = .int .i64 ((q + 4 * k : Nat) : Int) ∧ Hid (Below w.heap.size w wr)) (fun s i wr => n - (intOf i).toNat)
  case atStart => exact ⟨0, Nat.zero_le _, rfl, by simp, hide (Below.refl _ _)⟩
  case round =>
    obtain ⟨k, hk, rfl, rfl, HB⟩ := hrel
    by_cases hlt : k < n
    · have hlt' : (k : Int) < (n : Int) := by omega
      obtain ⟨b, off, rfl, hb, d0, d1, d2, d3⟩ := accmark_row (HL.out.below HB.out) k hlt
      have HQK : Hid (0 < q + 4 * k ∧ q + 4 * k ≤ 900000000) := hide (by omega)
      have hqk : ((q + 4 * k : Nat) : Int) ≤ 900000000 := by omega
      generalize hqe : q + 4 * k = qk at *
      have HQE : Hid _ := hide hqe
      clear hqe hb
      have HMT0 : Hid (∀ y : Later wr, Calls Tryz.prog 83 #[.int .i64 ((qk : Nat) : Int)] y.w fun e w' => e = .returned (.string (mkT qk)) ∧ Below y.w.heap.size y.w w') := hide (fun y => by
        have := markText_any qk y.w (by have := HQK.out; omega) (by have := HQK.out; omega)
        simpa using this)
      have hcell0 := later_cell d0
      have hne0 : Nonempty (Later wr) := later_there _
      go_wp2_with fail
      refine wp_region_later wr (by kernel_rfl) (by kernel_rfl) ((Below.refl _ _).drew) ?_
      repeat (go_big_quiet_step (first | (go_at_call 83; exact later_of (HMT0.out _))))
      refine wpQuiet_nil ?_
      intro _ hw'
      obtain ⟨nx0, rfl⟩ := hw'
      obtain ⟨x0, hx0⟩ : ∃ x, x = nx0.w := ⟨_, rfl⟩
      have hb0 : Below wr.heap.size wr x0 := hx0 ▸ nx0.below
      rw [← hx0]
      clear HMT0 hcell0 hne0 hx0
      have HB0 : Hid _ := hide (below_trans HB.out hb0)
      replace d1 := below_keeps hb0 _ _ d1
      replace d2 := below_keeps hb0 _ _ d2
      replace d3 := below_keeps hb0 _ _ d3
      clear hb0 nx0
      have HMT1 : Hid (∀ y : Later x0, Calls Tryz.prog 83 #[.int .i64 ((qk : Int) + 1)] y.w fun e w' => e = .returned (.string (mkT (qk + 1))) ∧ Below y.w.heap.size y.w w') := hide (fun y => by
        have := markText_any (qk + 1) y.w (by have := HQK.out; omega) (by have := HQK.out; omega)
        simpa using this)
      have hcell1 := later_cell d1
      have hne1 : Nonempty (Later x0) := later_there _
      go_wp2_with fail
      refine wp_region_later x0 (by kernel_rfl) (by kernel_rfl) ((Below.refl _ _).drew) ?_
      repeat (go_big_quiet_step (first | (go_at_call 83; exact later_of (HMT1.out _))))
      refine wpQuiet_nil ?_
      intro _ hw'
      obtain ⟨nx1, rfl⟩ := hw'
      obtain ⟨x1, hx1⟩ : ∃ x, x = nx1.w := ⟨_, rfl⟩
      have hb1 : Below x0.heap.size x0 x1 := hx1 ▸ nx1.below
      rw [← hx1]
      clear HMT1 hcell1 hne1 hx1
      have HB1 : Hid _ := hide (below_trans HB0.out hb1)
      replace d2 := below_keeps hb1 _ _ d2
      replace d3 := below_keeps hb1 _ _ d3
      clear hb1 nx1
      go_wp2
      exact ⟨⟨k + 1, by omega, by go_num, by have := HQE.out; go_num, HB1⟩, by simp [intOf]; omega⟩
    · have hk' : ¬ (k : Int) < (n : Int) := by omega
      have HE : Hid (HeldEnd (q + 4 * n) w (.returned (.int .i64 ((q + 4 * k : Nat) : Int))) wr) := hide ⟨by rw [show k = n by omega], HB.out⟩
      generalize ((q + 4 * k : Nat) : Int) = qk at *
      go_wp2
      go_ret
      exact HE.out
def hldmarkL (q n : Nat) : List Hld := (List.range n).map fun (i : Nat) => ⟨((q + 4 * i : Nat) : Int), mkT (q + 4 * i + 1), mkT (q + 4 * i + 2), ((q + 4 * i : Nat) : Int) + 3⟩
theorem hldmarkL_len (q n : Nat) : (hldmarkL q n).length = n := by simp [hldmarkL]
theorem hldmarkL_at (q n : Nat) (i : Nat) (h : i < n) : (hldmarkL q n)[i]? = some ⟨((q + 4 * i : Nat) : Int), mkT (q + 4 * i + 1), mkT (q + 4 * i + 2), ((q + 4 * i : Nat) : Int) + 3⟩ := by simp [hldmarkL, List.getElem?_range h]
theorem hldmarkL_get (q n : Nat) (i : Nat) (h : i < (hldmarkL q n).length) : (hldmarkL q n)[i] = ⟨((q + 4 * i : Nat) : Int), mkT (q + 4 * i + 1), mkT (q + 4 * i + 2), ((q + 4 * i : Nat) : Int) + 3⟩ := by simp [hldmarkL]
def markHoldSEnd (q : Nat) (g : Nat) (a : Option Addr) (cap n : Nat) (w : World) (e : Ending) (w' : World) : Prop := e = .returned (.int .i64 ((q + 4 * n : Nat) : Int)) ∧ Chq (0 < n) g w w' ∧ OwnRow 4 hldCells w' g a cap (hldmarkL q n)
set_option maxHeartbeats 8000000 in
theorem markHoldS_any (a : Option Addr) (l : List Hld) (cap g : Nat) (q : Nat) (w : World) (hn : l.length ≤ 10000000) (q0 : 0 < q) (q1 : q ≤ 100000000) (h : OwnRow 4 hldCells w g a cap l) :
    Calls Tryz.prog 44 #[.slice a l.length cap, .int .i64 (q : Int)] w fun e w' => markHoldSEnd q g a cap l.length w e w' := by
  have HL : Hid _ := hide h
  clear h
  by_cases h0 : 0 < l.length
  · have HO : Hid _ := hide (mid_of_own hldLen (by decide) (cells := fun i => ((hldmarkL q l.length)[i]?).elim [] hldCells) HL.out h0)
    obtain ⟨rfl, _⟩ := HL.out.own h0
    go_enter Tryz.func44, Tryz.ntmps44
    go_wp2
    go_loopw [1, 5] (fun s i wr => ∃ k : Nat, k ≤ l.length ∧ i = .int .i64 (k : Int) ∧ s = .int .i64 ((q + 4 * k : Nat) : Int) ∧ Hid (Chq (0 < l.length) g w wr) ∧ Hid (RowMid g l.length 4 (fun i => ((hldmarkL q l.length)[i]?).elim [] hldCells) k wr)) (fun s i wr => l.length - (intOf i).toNat)
    case atStart => exact ⟨0, Nat.zero_le _, rfl, by simp, hide (Chq.refl _ _ _), HO⟩
    case round =>
      obtain ⟨k, hk, rfl, rfl, HT, HM⟩ := hrel
      by_cases hlt : k < l.length
      · have hlt' : (k : Int) < (l.length : Int) := by omega
        have HQK : Hid (0 < q + 4 * k ∧ q + 4 * k ≤ 900000000) := hide (by omega)
        have hqk : ((q + 4 * k : Nat) : Int) ≤ 900000000 := by omega
        have HAT : Hid _ := hide (hldmarkL_at q l.length k hlt)
        generalize hqe : q + 4 * k = qk at *
        have HQE : Hid _ := hide hqe
        clear hqe
        have HP0 : Hid _ := hide HM.out.put
        have HT0 : Hid _ := hide HT.out
        clear HM HT
        have HQ0 : Hid _ := hide HP0.out
        have HU0 : Hid _ := hide HT0.out
        clear HP0 HT0
        obtain ⟨v0, f0⟩ := HQ0.out.there (k * 4) (by omega)
        have z0 := HQ0.out.free (k * 4)
        have HP1 : Hid _ := hide (HQ0.out.set hlt (by decide) (v := .int .i64 (qk : Int)) (by rw [HAT.out]; simp [hldCells]) (o := k * 4) (by omega))
        have HT1 : Hid _ := hide (HU0.out.setCell h0 (o := k * 4) (.int .i64 (qk : Int)))
        clear HQ0 HU0
        have HMT1 : Hid (Calls Tryz.prog 83 #[.int .i64 ((qk : Int) + 1)] (wr.setCell ⟨g, k * 4, none⟩ (.int .i64 (qk : Int))) fun e w' => e = .returned (.string (mkT (qk + 1))) ∧ Below (wr.setCell ⟨g, k * 4, none⟩ (.int .i64 (qk : Int))).heap.size (wr.setCell ⟨g, k * 4, none⟩ (.int .i64 (qk : Int))) w') := hide (by
          have := markText_any (qk + 1) (wr.setCell ⟨g, k * 4, none⟩ (.int .i64 (qk : Int))) (by have := HQK.out; omega) (by have := HQK.out; omega)
          simpa using this)
        go_wp2_with fail
        refine HMT1.out.mono ?_
        rintro e x1 ⟨rfl, hb1⟩
        have HQ1 : Hid _ := hide (HP1.out.below hb1)
        have HU1 : Hid _ := hide (HT1.out.on hb1)
        clear hb1 HP1 HT1 HMT1 f0 z0
        obtain ⟨v1, f1⟩ := HQ1.out.there (k * 4 + 1) (by omega)
        have z1 := HQ1.out.free (k * 4 + 1)
        have HP2 : Hid _ := hide (HQ1.out.set hlt (by decide) (v := .string (mkT (qk + 1))) (by rw [HAT.out]; simp [hldCells]) (o := k * 4 + 1) (by omega))
        have HT2 : Hid _ := hide (HU1.out.setCell h0 (o := k * 4 + 1) (.string (mkT (qk + 1))))
        clear HQ1 HU1
        have HMT2 : Hid (Calls Tryz.prog 83 #[.int .i64 ((qk : Int) + 2)] (x1.setCell ⟨g, k * 4 + 1, none⟩ (.string (mkT (qk + 1)))) fun e w' => e = .returned (.string (mkT (qk + 2))) ∧ Below (x1.setCell ⟨g, k * 4 + 1, none⟩ (.string (mkT (qk + 1)))).heap.size (x1.setCell ⟨g, k * 4 + 1, none⟩ (.string (mkT (qk + 1)))) w') := hide (by
          have := markText_any (qk + 2) (x1.setCell ⟨g, k * 4 + 1, none⟩ (.string (mkT (qk + 1)))) (by have := HQK.out; omega) (by have := HQK.out; omega)
          simpa using this)
        go_wp2_with fail
        refine HMT2.out.mono ?_
        rintro e x2 ⟨rfl, hb2⟩
        have HQ2 : Hid _ := hide (HP2.out.below hb2)
        have HU2 : Hid _ := hide (HT2.out.on hb2)
        clear hb2 HP2 HT2 HMT2 f1 z1
        obtain ⟨v2, f2⟩ := HQ2.out.there (k * 4 + 2) (by omega)
        have z2 := HQ2.out.free (k * 4 + 2)
        obtain ⟨v3, f3⟩ := HQ2.out.there (k * 4 + 3) (by omega)
        have z3 := HQ2.out.free (k * 4 + 3)
        have HP3 : Hid _ := hide (HQ2.out.set hlt (by decide) (v := .string (mkT (qk + 2))) (by rw [HAT.out]; simp [hldCells]) (o := k * 4 + 2) (by omega))
        have HT3 : Hid _ := hide (HU2.out.setCell h0 (o := k * 4 + 2) (.string (mkT (qk + 2))))
        clear HQ2 HU2
        have HQ3 : Hid _ := hide HP3.out
        have HU3 : Hid _ := hide HT3.out
        clear HP3 HT3
        have HP4 : Hid _ := hide (HQ3.out.set hlt (by decide) (v := .int .i64 ((qk : Int) + 3)) (by rw [HAT.out]; simp [hldCells]) (o := k * 4 + 3) (by omega))
        have HT4 : Hid _ := hide (HU3.out.setCell h0 (o := k * 4 + 3) (.int .i64 ((qk : Int) + 3)))
        clear HQ3 HU3
        have HW : Hid _ := hide HP4.out.whole
        clear HP4
        go_wp2
        exact ⟨⟨k + 1, by omega, by go_num, by have := HQE.out; go_num, HT4, HW⟩, by simp [intOf]; omega⟩
      · have hk' : ¬ (k : Int) < (l.length : Int) := by omega
        have HE : Hid (markHoldSEnd q g (some ⟨g, 0, none⟩) cap l.length w (.returned (.int .i64 ((q + 4 * k : Nat) : Int))) wr) := hide (by
          have M := HM.out
          have ek : k = l.length := by omega
          rw [ek] at M ⊢
          have O := own_of_mid (l := hldmarkL q l.length) hldLen (by rw [hldmarkL_len]; exact M) (cap := cap) (by rw [hldmarkL_len]; exact HL.out.room)
          exact ⟨rfl, HT.out, O⟩)
        generalize ((q + 4 * k : Nat) : Int) = qk at *
        go_wp2
        go_ret
        exact HE.out
  · have hz : l = [] := List.eq_nil_of_length_eq_zero (by omega)
    subst hz
    go_enter Tryz.func44, Tryz.ntmps44
    go_wp2
    go_loopw [1, 5] (fun s i wr => s = .int .i64 (q : Int) ∧ i = .int .i64 0 ∧ wr = w) (fun s i wr => 0)
    case atStart => exact ⟨rfl, rfl, rfl⟩
    case round =>
      obtain ⟨rfl, rfl, hw⟩ := hrel
      subst hw
      go_wp2
      go_ret
      exact ⟨by simp, Chq.refl _ _ _, by have := HL.out; simpa [hldmarkL] using this⟩
theorem hldmark_row {q n : Nat} {a : Option Addr} {w : World} (h : RowAt 4 hldCells w a (hldmarkL q n)) (i : Nat) (hi : i < n) : ∃ b off, a = some ⟨b, off, none⟩ ∧ b < w.heap.size ∧ w.cell? ⟨b, off + i * 4, none⟩ = some (.int .i64 (((q + 4 * i : Nat) : Int))) ∧ w.cell? ⟨b, off + i * 4 + 1, none⟩ = some (.string (mkT (q + 4 * i + 1))) ∧ w.cell? ⟨b, off + i * 4 + 2, none⟩ = some (.string (mkT (q + 4 * i + 2))) ∧ w.cell? ⟨b, off + i * 4 + 3, none⟩ = some (.int .i64 (((q + 4 * i : Nat) : Int) + 3)) := by
  obtain ⟨b, off, e, hb, hc⟩ := h i (by rw [hldmarkL_len]; exact hi)
  rw [hldmarkL_get] at hc
  exact ⟨b, off, e, hb, hc 0 _ rfl, hc 1 _ rfl, hc 2 _ rfl, hc 3 _ rfl⟩
set_option maxHeartbeats 8000000 in
theorem heldHoldS_any (a : Option Addr) (n cap : Nat) (q : Nat) (w : World) (hn : n ≤ 10000000) (q0 : 0 < q) (q1 : q ≤ 100000000) (h : RowAt 4 hldCells w a (hldmarkL q n)) :
    Calls Tryz.prog 47 #[.slice a n cap, .int .i64 (q : Int)] w fun e w' => HeldEnd (q + 4 * n) w e w' := by
  have HL : Hid _ := hide h
  clear h
  go_enter Tryz.func47, Tryz.ntmps47
  go_wp2
  go_loopw [1, 5] (fun s i wr => ∃ k : Nat, k ≤ n ∧ i = .int .i64 (k : Int) ∧ s = .int .i64 ((q + 4 * k : Nat) : Int) ∧ Hid (Below w.heap.size w wr)) (fun s i wr => n - (intOf i).toNat)
  case atStart => exact ⟨0, Nat.zero_le _, rfl, by simp, hide (Below.refl _ _)⟩
  case round =>
    obtain ⟨k, hk, rfl, rfl, HB⟩ := hrel
    by_cases hlt : k < n
    · have hlt' : (k : Int) < (n : Int) := by omega
      obtain ⟨b, off, rfl, hb, d0, d1, d2, d3⟩ := hldmark_row (HL.out.below HB.out) k hlt
      have HQK : Hid (0 < q + 4 * k ∧ q + 4 * k ≤ 900000000) := hide (by omega)
      have hqk : ((q + 4 * k : Nat) : Int) ≤ 900000000 := by omega
      generalize hqe : q + 4 * k = qk at *
      have HQE : Hid _ := hide hqe
      clear hqe hb
      have HMT1 : Hid (∀ y : Later wr, Calls Tryz.prog 83 #[.int .i64 ((qk : Int) + 1)] y.w fun e w' => e = .returned (.string (mkT (qk + 1))) ∧ Below y.w.heap.size y.w w') := hide (fun y => by
        have := markText_any (qk + 1) y.w (by have := HQK.out; omega) (by have := HQK.out; omega)
        simpa using this)
      have hcell1 := later_cell d1
      have hne1 : Nonempty (Later wr) := later_there _
      go_wp2_with fail
      refine wp_region_later wr (by kernel_rfl) (by kernel_rfl) ((Below.refl _ _).drew) ?_
      repeat (go_big_quiet_step (first | (go_at_call 83; exact later_of (HMT1.out _))))
      refine wpQuiet_nil ?_
      intro _ hw'
      obtain ⟨nx1, rfl⟩ := hw'
      obtain ⟨x1, hx1⟩ : ∃ x, x = nx1.w := ⟨_, rfl⟩
      have hb1 : Below wr.heap.size wr x1 := hx1 ▸ nx1.below
      rw [← hx1]
      clear HMT1 hcell1 hne1 hx1
      have HB1 : Hid _ := hide (below_trans HB.out hb1)
      replace d2 := below_keeps hb1 _ _ d2
      replace d3 := below_keeps hb1 _ _ d3
      clear hb1 nx1
      have HMT2 : Hid (∀ y : Later x1, Calls Tryz.prog 83 #[.int .i64 ((qk : Int) + 2)] y.w fun e w' => e = .returned (.string (mkT (qk + 2))) ∧ Below y.w.heap.size y.w w') := hide (fun y => by
        have := markText_any (qk + 2) y.w (by have := HQK.out; omega) (by have := HQK.out; omega)
        simpa using this)
      have hcell2 := later_cell d2
      have hne2 : Nonempty (Later x1) := later_there _
      go_wp2_with fail
      refine wp_region_later x1 (by kernel_rfl) (by kernel_rfl) ((Below.refl _ _).drew) ?_
      repeat (go_big_quiet_step (first | (go_at_call 83; exact later_of (HMT2.out _))))
      refine wpQuiet_nil ?_
      intro _ hw'
      obtain ⟨nx2, rfl⟩ := hw'
      obtain ⟨x2, hx2⟩ : ∃ x, x = nx2.w := ⟨_, rfl⟩
      have hb2 : Below x1.heap.size x1 x2 := hx2 ▸ nx2.below
      rw [← hx2]
      clear HMT2 hcell2 hne2 hx2
      have HB2 : Hid _ := hide (below_trans HB1.out hb2)
      replace d3 := below_keeps hb2 _ _ d3
      clear hb2 nx2
      go_wp2
      exact ⟨⟨k + 1, by omega, by go_num, by have := HQE.out; go_num, HB2⟩, by simp [intOf]; omega⟩
    · have hk' : ¬ (k : Int) < (n : Int) := by omega
      have HE : Hid (HeldEnd (q + 4 * n) w (.returned (.int .i64 ((q + 4 * k : Nat) : Int))) wr) := hide ⟨by rw [show k = n by omega], HB.out⟩
      generalize ((q + 4 * k : Nat) : Int) = qk at *
      go_wp2
      go_ret
      exact HE.out
def snmarkL (q n : Nat) : List Sn := (List.range n).map fun (i : Nat) => ⟨((q + 2 * i : Nat) : Int), ((q + 2 * i : Nat) : Int) + 1⟩
theorem snmarkL_len (q n : Nat) : (snmarkL q n).length = n := by simp [snmarkL]
theorem snmarkL_at (q n : Nat) (i : Nat) (h : i < n) : (snmarkL q n)[i]? = some ⟨((q + 2 * i : Nat) : Int), ((q + 2 * i : Nat) : Int) + 1⟩ := by simp [snmarkL, List.getElem?_range h]
theorem snmarkL_get (q n : Nat) (i : Nat) (h : i < (snmarkL q n).length) : (snmarkL q n)[i] = ⟨((q + 2 * i : Nat) : Int), ((q + 2 * i : Nat) : Int) + 1⟩ := by simp [snmarkL]
def markAnsweredSEnd (q : Nat) (g : Nat) (a : Option Addr) (cap n : Nat) (w : World) (e : Ending) (w' : World) : Prop := e = .returned (.int .i64 ((q + 2 * n : Nat) : Int)) ∧ Chq (0 < n) g w w' ∧ OwnRow 2 snCells w' g a cap (snmarkL q n)
set_option maxHeartbeats 8000000 in
theorem markAnsweredS_any (a : Option Addr) (l : List Sn) (cap g : Nat) (q : Nat) (w : World) (hn : l.length ≤ 10000000) (q0 : 0 < q) (q1 : q ≤ 100000000) (h : OwnRow 2 snCells w g a cap l) :
    Calls Tryz.prog 45 #[.slice a l.length cap, .int .i64 (q : Int)] w fun e w' => markAnsweredSEnd q g a cap l.length w e w' := by
  have HL : Hid _ := hide h
  clear h
  by_cases h0 : 0 < l.length
  · have HO : Hid _ := hide (mid_of_own snLen (by decide) (cells := fun i => ((snmarkL q l.length)[i]?).elim [] snCells) HL.out h0)
    obtain ⟨rfl, _⟩ := HL.out.own h0
    go_enter Tryz.func45, Tryz.ntmps45
    go_wp2
    go_loopw [1, 5] (fun s i wr => ∃ k : Nat, k ≤ l.length ∧ i = .int .i64 (k : Int) ∧ s = .int .i64 ((q + 2 * k : Nat) : Int) ∧ Hid (Chq (0 < l.length) g w wr) ∧ Hid (RowMid g l.length 2 (fun i => ((snmarkL q l.length)[i]?).elim [] snCells) k wr)) (fun s i wr => l.length - (intOf i).toNat)
    case atStart => exact ⟨0, Nat.zero_le _, rfl, by simp, hide (Chq.refl _ _ _), HO⟩
    case round =>
      obtain ⟨k, hk, rfl, rfl, HT, HM⟩ := hrel
      by_cases hlt : k < l.length
      · have hlt' : (k : Int) < (l.length : Int) := by omega
        have HQK : Hid (0 < q + 2 * k ∧ q + 2 * k ≤ 900000000) := hide (by omega)
        have hqk : ((q + 2 * k : Nat) : Int) ≤ 900000000 := by omega
        have HAT : Hid _ := hide (snmarkL_at q l.length k hlt)
        generalize hqe : q + 2 * k = qk at *
        have HQE : Hid _ := hide hqe
        clear hqe
        have HP0 : Hid _ := hide HM.out.put
        have HT0 : Hid _ := hide HT.out
        clear HM HT
        have HQ0 : Hid _ := hide HP0.out
        have HU0 : Hid _ := hide HT0.out
        clear HP0 HT0
        obtain ⟨v0, f0⟩ := HQ0.out.there (k * 2) (by omega)
        have z0 := HQ0.out.free (k * 2)
        obtain ⟨v1, f1⟩ := HQ0.out.there (k * 2 + 1) (by omega)
        have z1 := HQ0.out.free (k * 2 + 1)
        have HP1 : Hid _ := hide (HQ0.out.set hlt (by decide) (v := .int .i64 (qk : Int)) (by rw [HAT.out]; simp [snCells]) (o := k * 2) (by omega))
        have HT1 : Hid _ := hide (HU0.out.setCell h0 (o := k * 2) (.int .i64 (qk : Int)))
        clear HQ0 HU0
        have HQ1 : Hid _ := hide HP1.out
        have HU1 : Hid _ := hide HT1.out
        clear HP1 HT1
        have HP2 : Hid _ := hide (HQ1.out.set hlt (by decide) (v := .int .i64 ((qk : Int) + 1)) (by rw [HAT.out]; simp [snCells]) (o := k * 2 + 1) (by omega))
        have HT2 : Hid _ := hide (HU1.out.setCell h0 (o := k * 2 + 1) (.int .i64 ((qk : Int) + 1)))
        clear HQ1 HU1
        have HW : Hid _ := hide HP2.out.whole
        clear HP2
        go_wp2
        exact ⟨⟨k + 1, by omega, by go_num, by have := HQE.out; go_num, HT2, HW⟩, by simp [intOf]; omega⟩
      · have hk' : ¬ (k : Int) < (l.length : Int) := by omega
        have HE : Hid (markAnsweredSEnd q g (some ⟨g, 0, none⟩) cap l.length w (.returned (.int .i64 ((q + 2 * k : Nat) : Int))) wr) := hide (by
          have M := HM.out
          have ek : k = l.length := by omega
          rw [ek] at M ⊢
          have O := own_of_mid (l := snmarkL q l.length) snLen (by rw [snmarkL_len]; exact M) (cap := cap) (by rw [snmarkL_len]; exact HL.out.room)
          exact ⟨rfl, HT.out, O⟩)
        generalize ((q + 2 * k : Nat) : Int) = qk at *
        go_wp2
        go_ret
        exact HE.out
  · have hz : l = [] := List.eq_nil_of_length_eq_zero (by omega)
    subst hz
    go_enter Tryz.func45, Tryz.ntmps45
    go_wp2
    go_loopw [1, 5] (fun s i wr => s = .int .i64 (q : Int) ∧ i = .int .i64 0 ∧ wr = w) (fun s i wr => 0)
    case atStart => exact ⟨rfl, rfl, rfl⟩
    case round =>
      obtain ⟨rfl, rfl, hw⟩ := hrel
      subst hw
      go_wp2
      go_ret
      exact ⟨by simp, Chq.refl _ _ _, by have := HL.out; simpa [snmarkL] using this⟩
theorem snmark_row {q n : Nat} {a : Option Addr} {w : World} (h : RowAt 2 snCells w a (snmarkL q n)) (i : Nat) (hi : i < n) : ∃ b off, a = some ⟨b, off, none⟩ ∧ b < w.heap.size ∧ w.cell? ⟨b, off + i * 2, none⟩ = some (.int .i64 (((q + 2 * i : Nat) : Int))) ∧ w.cell? ⟨b, off + i * 2 + 1, none⟩ = some (.int .i64 (((q + 2 * i : Nat) : Int) + 1)) := by
  obtain ⟨b, off, e, hb, hc⟩ := h i (by rw [snmarkL_len]; exact hi)
  rw [snmarkL_get] at hc
  exact ⟨b, off, e, hb, hc 0 _ rfl, hc 1 _ rfl⟩
set_option maxHeartbeats 8000000 in
theorem heldAnsweredS_any (a : Option Addr) (n cap : Nat) (q : Nat) (w : World) (hn : n ≤ 10000000) (q0 : 0 < q) (q1 : q ≤ 100000000) (h : RowAt 2 snCells w a (snmarkL q n)) :
    Calls Tryz.prog 48 #[.slice a n cap, .int .i64 (q : Int)] w fun e w' => HeldEnd (q + 2 * n) w e w' := by
  have HL : Hid _ := hide h
  clear h
  go_enter Tryz.func48, Tryz.ntmps48
  go_wp2
  go_loopw [1, 5] (fun s i wr => ∃ k : Nat, k ≤ n ∧ i = .int .i64 (k : Int) ∧ s = .int .i64 ((q + 2 * k : Nat) : Int) ∧ Hid (Below w.heap.size w wr)) (fun s i wr => n - (intOf i).toNat)
  case atStart => exact ⟨0, Nat.zero_le _, rfl, by simp, hide (Below.refl _ _)⟩
  case round =>
    obtain ⟨k, hk, rfl, rfl, HB⟩ := hrel
    by_cases hlt : k < n
    · have hlt' : (k : Int) < (n : Int) := by omega
      obtain ⟨b, off, rfl, hb, d0, d1⟩ := snmark_row (HL.out.below HB.out) k hlt
      have HQK : Hid (0 < q + 2 * k ∧ q + 2 * k ≤ 900000000) := hide (by omega)
      have hqk : ((q + 2 * k : Nat) : Int) ≤ 900000000 := by omega
      generalize hqe : q + 2 * k = qk at *
      have HQE : Hid _ := hide hqe
      clear hqe hb
      go_wp2
      exact ⟨⟨k + 1, by omega, by go_num, by have := HQE.out; go_num, HB⟩, by simp [intOf]; omega⟩
    · have hk' : ¬ (k : Int) < (n : Int) := by omega
      have HE : Hid (HeldEnd (q + 2 * n) w (.returned (.int .i64 ((q + 2 * k : Nat) : Int))) wr) := hide ⟨by rw [show k = n by omega], HB.out⟩
      generalize ((q + 2 * k : Nat) : Int) = qk at *
      go_wp2
      go_ret
      exact HE.out
end Go.Proofs.YteaopalhbnhbaaaGreatDoor
/- The contracts of the laws' marks of a ledger. -/
namespace Go.Proofs.YteaopalhbnhbaaaGreatDoor
open Go.ChangeShapes Go.WideShapes Go.ChangeAt Go.RowKit
set_option linter.unusedVariables false
set_option maxRecDepth 100000
/-- a ledger's three rows, apart where they have elements, between two places -/
structure OwnR (lo hi : Nat) (a1 a2 a3 : Option Addr) (c1 c2 c3 g1 g2 g3 : Nat) (live : List Acc) (safe : List Hld) (ops : List Sn) (x : World) : Prop where
  o1 : OwnRow 4 accCells x g1 a1 c1 live
  o2 : OwnRow 4 hldCells x g2 a2 c2 safe
  o3 : OwnRow 2 snCells x g3 a3 c3 ops
  d12 : 0 < live.length → 0 < safe.length → g1 ≠ g2
  d13 : 0 < live.length → 0 < ops.length → g1 ≠ g3
  d23 : 0 < safe.length → 0 < ops.length → g2 ≠ g3
  i1 : 0 < live.length → lo ≤ g1 ∧ g1 < hi
  i2 : 0 < safe.length → lo ≤ g2 ∧ g2 < hi
  i3 : 0 < ops.length → lo ≤ g3 ∧ g3 < hi
theorem OwnR.below {lo hi : Nat} {a1 a2 a3 : Option Addr} {c1 c2 c3 g1 g2 g3 : Nat} {live : List Acc} {safe : List Hld} {ops : List Sn} {x y : World} (h : OwnR lo hi a1 a2 a3 c1 c2 c3 g1 g2 g3 live safe ops x) (b : Below x.heap.size x y) : OwnR lo hi a1 a2 a3 c1 c2 c3 g1 g2 g3 live safe ops y :=
  ⟨h.o1.below b, h.o2.below b, h.o3.below b, h.d12, h.d13, h.d23, h.i1, h.i2, h.i3⟩
theorem OwnR.led {lo hi : Nat} {a1 a2 a3 : Option Addr} {c1 c2 c3 g1 g2 g3 : Nat} {D : Led} {x : World} (h : OwnR lo hi a1 a2 a3 c1 c2 c3 g1 g2 g3 D.acc D.hold D.seen x) (hw : LedW D) : LedAt x a1 a2 a3 D := ⟨h.o1.rows.acc hw.acc, h.o2.rows.hold hw.hold, h.o3.rows.ans hw.seen⟩
theorem OwnR.none3 {lo hi : Nat} {x : World} : OwnR lo hi none none none 0 0 0 0 0 0 [] [] [] x :=
  ⟨OwnRow.nil (fun _ => rfl), OwnRow.nil (fun _ => rfl), OwnRow.nil (fun _ => rfl), fun h => by simp at h, fun h => by simp at h, fun h => by simp at h, fun h => by simp at h, fun h => by simp at h, fun h => by simp at h⟩
/-- blocks between two places alone may have turned, and new blocks were laid -/
structure Chr (lo hi : Nat) (w w' : World) : Prop where
  os : w'.os = w.os
  tape : w'.tape = w.tape
  output : w'.output = w.output
  size : w.heap.size ≤ w'.heap.size
  block : ∀ k, k < w.heap.size → (k < lo ∨ hi ≤ k) → w'.heap[k]? = w.heap[k]?
theorem Chr.low {lo hi : Nat} {w w' : World} (h : Chr lo hi w w') {B : Nat} (hB : B ≤ lo) (hw : B ≤ w.heap.size) : Below B w w' := ⟨h.os, h.tape, h.output, h.size, fun k hk => h.block k (by omega) (.inl (by omega))⟩
theorem Chr.keep {lo hi : Nat} {x y : World} (h : Chr lo hi x y) {lo2 hi2 : Nat} {a1 a2 a3 : Option Addr} {c1 c2 c3 g1 g2 g3 : Nat} {live : List Acc} {safe : List Hld} {ops : List Sn} (o : OwnR lo2 hi2 a1 a2 a3 c1 c2 c3 g1 g2 g3 live safe ops x) (hd : hi2 ≤ lo ∨ hi ≤ lo2) : OwnR lo2 hi2 a1 a2 a3 c1 c2 c3 g1 g2 g3 live safe ops y :=
  ⟨o.o1.keepB (fun q => h.block _ (o.o1.lt q) (by have := o.i1 q; omega)), o.o2.keepB (fun q => h.block _ (o.o2.lt q) (by have := o.i2 q; omega)), o.o3.keepB (fun q => h.block _ (o.o3.lt q) (by have := o.i3 q; omega)), o.d12, o.d13, o.d23, o.i1, o.i2, o.i3⟩
theorem Chr.blk {lo hi : Nat} {x y : World} (h : Chr lo hi x y) {g : Nat} {cur : List Value} (k : Blk g cur x) (hd : g < lo ∨ hi ≤ g) : Blk g cur y := k.same (h.block g k.lt hd) h.size
def MarkEnd (lo hi q : Nat) (a1 a2 a3 : Option Addr) (c1 c2 c3 g1 g2 g3 n1 n2 n3 : Nat) (w : World) (e : Ending) (w' : World) : Prop :=
  e = .returned (.int .i64 ((q + 4 * n1 + 4 * n2 + 2 * n3 : Nat) : Int)) ∧ Chr lo hi w w' ∧ OwnR lo hi a1 a2 a3 c1 c2 c3 g1 g2 g3 (accmarkL q n1) (hldmarkL (q + 4 * n1) n2) (snmarkL (q + 4 * n1 + 4 * n2) n3) w'
theorem mark_end {lo hi q : Nat} {a1 a2 a3 : Option Addr} {c1 c2 c3 g1 g2 g3 : Nat} {live : List Acc} {safe : List Hld} {ops : List Sn} {w wa w1 w2 w3 : World} (h : OwnR lo hi a1 a2 a3 c1 c2 c3 g1 g2 g3 live safe ops w) (b : Below w.heap.size w wa)
    (q1 : Chq (0 < live.length) g1 wa w1) (r1 : OwnRow 4 accCells w1 g1 a1 c1 (accmarkL q live.length)) (q2 : Chq (0 < safe.length) g2 w1 w2) (r2 : OwnRow 4 hldCells w2 g2 a2 c2 (hldmarkL (q + 4 * live.length) safe.length))
    (q3 : Chq (0 < ops.length) g3 w2 w3) (r3 : OwnRow 2 snCells w3 g3 a3 c3 (snmarkL (q + 4 * live.length + 4 * safe.length) ops.length)) :
    Chr lo hi w w3 ∧ OwnR lo hi a1 a2 a3 c1 c2 c3 g1 g2 g3 (accmarkL q live.length) (hldmarkL (q + 4 * live.length) safe.length) (snmarkL (q + 4 * live.length + 4 * safe.length) ops.length) w3 := by
  have s0 := b.size
  have s1 := q1.size
  have s2 := q2.size
  refine ⟨⟨q3.os.trans (q2.os.trans (q1.os.trans b.os)), q3.tape.trans (q2.tape.trans (q1.tape.trans b.tape)), q3.output.trans (q2.output.trans (q1.output.trans b.output)), by have := q3.size; omega, fun k hk hd => ?_⟩, ?_⟩
  · rw [q3.block k (by omega) (fun p => by have := h.i3 p; omega), q2.block k (by omega) (fun p => by have := h.i2 p; omega), q1.block k (by omega) (fun p => by have := h.i1 p; omega), b.block k hk]
  · refine ⟨r1.keepB (fun p => ?_), r2.keepB (fun p => ?_), r3, ?_, ?_, ?_, ?_, ?_, ?_⟩
    · have l1 := r1.lt p
      rw [accmarkL_len] at p
      rw [q3.block g1 (by omega) (fun z => h.d13 p z), q2.block g1 l1 (fun z => h.d12 p z)]
    · have l2 := r2.lt p
      rw [hldmarkL_len] at p
      exact q3.block g2 l2 (fun z => h.d23 p z)
    · rw [accmarkL_len, hldmarkL_len]; exact h.d12
    · rw [accmarkL_len, snmarkL_len]; exact h.d13
    · rw [hldmarkL_len, snmarkL_len]; exact h.d23
    · rw [accmarkL_len]; exact h.i1
    · rw [hldmarkL_len]; exact h.i2
    · rw [snmarkL_len]; exact h.i3
set_option maxHeartbeats 8000000 in
theorem markLedger_any (lo hi q : Nat) (a1 a2 a3 : Option Addr) (c1 c2 c3 g1 g2 g3 : Nat) (live : List Acc) (safe : List Hld) (ops : List Sn) (w : World) (n1 : live.length ≤ 1048576) (n2 : safe.length ≤ 1048576) (n3 : ops.length ≤ 1048576) (q0 : 0 < q) (q1 : q ≤ 1000)
    (h : OwnR lo hi a1 a2 a3 c1 c2 c3 g1 g2 g3 live safe ops w) :
    Calls Tryz.prog 15 #[.agg #[.slice a1 live.length c1, .slice a2 safe.length c2, .slice a3 ops.length c3], .int .i64 (q : Int)] w fun e w' => MarkEnd lo hi q a1 a2 a3 c1 c2 c3 g1 g2 g3 live.length safe.length ops.length w e w' := by
  have HL : Hid _ := hide h
  clear h
  have KX0 : Hid (Blk w.heap.size [.slice a1 live.length c1, .slice a2 safe.length c2, .slice a3 ops.length c3] (w.alloc (.cells #[.slice a1 live.length c1, .slice a2 safe.length c2, .slice a3 ops.length c3] 28))) := hide Blk.new
  have HX0 : Hid (Below w.heap.size w (w.alloc (.cells #[.slice a1 live.length c1, .slice a2 safe.length c2, .slice a3 ops.length c3] 28))) := hide (below_alloc (Below.refl _ _) _)
  go_enter Tryz.func15, Tryz.ntmps15
  go_wp2_with fail
  generalize w.alloc (.cells #[.slice a1 live.length c1, .slice a2 safe.length c2, .slice a3 ops.length c3] 28) = wa at *
  refine (markAccountS_any a1 live c1 g1 q wa (by omega) q0 (by omega) (HL.out.o1.below HX0.out)).mono ?_
  rintro e w1 ⟨rfl, hc1, ho1⟩
  have HC1 : Hid _ := hide hc1
  have HO1 : Hid _ := hide ho1
  have KX1 : Hid (Blk w.heap.size _ w1) := hide (KX0.out.same (hc1.block _ KX0.out.lt (fun p => by have := HL.out.o1.lt p; omega)) hc1.size)
  clear hc1 ho1 KX0
  have HQ1 : Hid (0 < q + 4 * live.length ∧ q + 4 * live.length ≤ 10000000) := hide (by omega)
  have hq1 : ((q + 4 * live.length : Nat) : Int) ≤ 10000000 := by omega
  obtain ⟨k1, hk1⟩ : ∃ k1, k1 = q + 4 * live.length := ⟨_, rfl⟩
  have HK1 : Hid _ := hide hk1
  rw [← hk1] at HQ1 hq1 ⊢
  clear hk1
  have x1 := KX1.out.c 1 _ rfl
  go_wp2_with fail
  refine (markHoldS_any a2 safe c2 g2 k1 w1 (by omega) HQ1.out.1 (by have := HQ1.out.2; omega) (((HL.out.o2.below HX0.out)).keepB (fun p => HC1.out.block g2 (by have := HL.out.o2.lt p; have := HX0.out.size; omega) (fun z e => HL.out.d12 z p e.symm)))).mono ?_
  rintro e w2 ⟨rfl, hc2, ho2⟩
  have HC2 : Hid _ := hide hc2
  have HO2 : Hid _ := hide ho2
  have KX2 : Hid (Blk w.heap.size _ w2) := hide (KX1.out.same (hc2.block _ KX1.out.lt (fun p => by have := HL.out.o2.lt p; omega)) hc2.size)
  clear hc2 ho2 KX1 x1
  have HQ2 : Hid (0 < k1 + 4 * safe.length ∧ k1 + 4 * safe.length ≤ 20000000) := hide (by have := HQ1.out; omega)
  have hq2 : ((k1 + 4 * safe.length : Nat) : Int) ≤ 20000000 := by have := HQ2.out; omega
  obtain ⟨k2, hk2⟩ : ∃ k2, k2 = k1 + 4 * safe.length := ⟨_, rfl⟩
  have HK2 : Hid _ := hide hk2
  rw [← hk2] at HQ2 hq2 ⊢
  clear hk2
  have x2 := KX2.out.c 2 _ rfl
  go_wp2_with fail
  refine (markAnsweredS_any a3 ops c3 g3 k2 w2 (by omega) HQ2.out.1 (by have := HQ2.out.2; omega) (((HL.out.o3.below HX0.out)).keepB (fun p => by
    have l3 := HL.out.o3.lt p
    have s0 := HX0.out.size
    have s1 := HC1.out.size
    rw [HC2.out.block g3 (by omega) (fun z e => HL.out.d23 z p e.symm), HC1.out.block g3 (by omega) (fun z e => HL.out.d13 z p e.symm)]))).mono ?_
  rintro e w3 ⟨rfl, hc3, ho3⟩
  have HE : Hid (MarkEnd lo hi q a1 a2 a3 c1 c2 c3 g1 g2 g3 live.length safe.length ops.length w (.returned (.int .i64 ((k2 + 2 * ops.length : Nat) : Int))) w3) := hide (by
    have e2 := HK2.out
    have e1 := HK1.out
    subst e2 e1
    obtain ⟨m1, m2⟩ := mark_end HL.out HX0.out HC1.out HO1.out HC2.out HO2.out hc3 ho3
    exact ⟨rfl, m1, m2⟩)
  clear hc3 ho3
  generalize ((k2 + 2 * ops.length : Nat) : Int) = k3 at *
  go_wp2
  go_ret
  exact HE.out
set_option maxHeartbeats 8000000 in
theorem heldLedger_any (q : Nat) (a1 a2 a3 : Option Addr) (c1 c2 c3 n1 n2 n3 : Nat) (w : World) (m1 : n1 ≤ 1048576) (m2 : n2 ≤ 1048576) (m3 : n3 ≤ 1048576) (q0 : 0 < q) (q1 : q ≤ 1000)
    (h : RowAt 4 accCells w a1 (accmarkL q n1) ∧ RowAt 4 hldCells w a2 (hldmarkL (q + 4 * n1) n2) ∧ RowAt 2 snCells w a3 (snmarkL (q + 4 * n1 + 4 * n2) n3)) :
    Calls Tryz.prog 16 #[.agg #[.slice a1 n1 c1, .slice a2 n2 c2, .slice a3 n3 c3], .int .i64 (q : Int)] w fun e w' => HeldEnd (q + 4 * n1 + 4 * n2 + 2 * n3) w e w' := by
  have HL : Hid _ := hide h
  clear h
  have KX0 : Hid (Blk w.heap.size [.slice a1 n1 c1, .slice a2 n2 c2, .slice a3 n3 c3] (w.alloc (.cells #[.slice a1 n1 c1, .slice a2 n2 c2, .slice a3 n3 c3] 28))) := hide Blk.new
  have HX0 : Hid (Below w.heap.size w (w.alloc (.cells #[.slice a1 n1 c1, .slice a2 n2 c2, .slice a3 n3 c3] 28))) := hide (below_alloc (Below.refl _ _) _)
  go_enter Tryz.func16, Tryz.ntmps16
  go_wp2_with fail
  generalize w.alloc (.cells #[.slice a1 n1 c1, .slice a2 n2 c2, .slice a3 n3 c3] 28) = wa at *
  refine (heldAccountS_any a1 n1 c1 q wa (by omega) q0 (by omega) (HL.out.1.below HX0.out)).mono ?_
  rintro e w1 ⟨rfl, hb1⟩
  have HX1 : Hid _ := hide (below_trans HX0.out hb1)
  have KX1 : Hid _ := hide (KX0.out.below hb1)
  clear hb1 HX0 KX0
  have HQ1 : Hid (0 < q + 4 * n1 ∧ q + 4 * n1 ≤ 10000000) := hide (by omega)
  have hq1 : ((q + 4 * n1 : Nat) : Int) ≤ 10000000 := by omega
  obtain ⟨k1, hk1⟩ : ∃ k1, k1 = q + 4 * n1 := ⟨_, rfl⟩
  rw [← hk1] at HQ1 hq1 HL ⊢
  have HK1 : Hid _ := hide hk1
  clear hk1
  have x1 := KX1.out.c 1 _ rfl
  have j1 : ¬ ((k1 : Int) < 0) := by omega
  go_wp2_with fail
  refine (heldHoldS_any a2 n2 c2 k1 w1 (by omega) HQ1.out.1 (by have := HQ1.out.2; omega) (HL.out.2.1.below HX1.out)).mono ?_
  rintro e w2 ⟨rfl, hb2⟩
  have HX2 : Hid _ := hide (below_trans HX1.out hb2)
  have KX2 : Hid _ := hide (KX1.out.below hb2)
  clear hb2 HX1 KX1 x1 j1
  have HQ2 : Hid (0 < k1 + 4 * n2 ∧ k1 + 4 * n2 ≤ 20000000) := hide (by have := HQ1.out; omega)
  have hq2 : ((k1 + 4 * n2 : Nat) : Int) ≤ 20000000 := by have := HQ2.out; omega
  obtain ⟨k2, hk2⟩ : ∃ k2, k2 = k1 + 4 * n2 := ⟨_, rfl⟩
  rw [← hk2] at HQ2 hq2 HL ⊢
  have HK2 : Hid _ := hide hk2
  clear hk2
  have x2 := KX2.out.c 2 _ rfl
  have j2 : ¬ ((k2 : Int) < 0) := by omega
  go_wp2_with fail
  refine (heldAnsweredS_any a3 n3 c3 k2 w2 (by omega) HQ2.out.1 (by have := HQ2.out.2; omega) (HL.out.2.2.below HX2.out)).mono ?_
  rintro e w3 ⟨rfl, hb3⟩
  have HE : Hid (HeldEnd (q + 4 * n1 + 4 * n2 + 2 * n3) w (.returned (.int .i64 ((k2 + 2 * n3 : Nat) : Int))) w3) := hide ⟨by rw [HK2.out, HK1.out], below_trans HX2.out hb3⟩
  clear hb3
  have hq3 : ((k2 + 2 * n3 : Nat) : Int) ≤ 30000000 := by have := HQ2.out; omega
  have j3 : ¬ (((k2 + 2 * n3 : Nat) : Int) < 0) := by omega
  obtain ⟨k3, hk3⟩ : ∃ k3, k3 = k2 + 2 * n3 := ⟨_, rfl⟩
  rw [← hk3] at hq3 j3 ⊢
  rw [← hk3] at HE
  clear hk3
  go_wp2
  go_ret
  exact HE.out
end Go.Proofs.YteaopalhbnhbaaaGreatDoor
/- Ledgers held against each other, by rows. -/
namespace Go.Proofs.YteaopalhbnhbaaaGreatDoor
open Go.ChangeShapes Go.WideShapes Go.ChangeAt Go.RowKit
set_option linter.unusedVariables false
set_option maxRecDepth 100000
structure Row3 (x : World) (a1 a2 a3 : Option Addr) (L : Led) : Prop where
  acc : RowAt 4 accCells x a1 L.acc
  hold : RowAt 4 hldCells x a2 L.hold
  seen : RowAt 2 snCells x a3 L.seen
theorem Row3.below {x y : World} {a1 a2 a3 : Option Addr} {L : Led} (h : Row3 x a1 a2 a3 L) (b : Below x.heap.size x y) : Row3 y a1 a2 a3 L := ⟨h.acc.below b, h.hold.below b, h.seen.below b⟩
theorem OwnR.r3 {lo hi : Nat} {a1 a2 a3 : Option Addr} {c1 c2 c3 g1 g2 g3 : Nat} {D : Led} {x : World} (h : OwnR lo hi a1 a2 a3 c1 c2 c3 g1 g2 g3 D.acc D.hold D.seen x) : Row3 x a1 a2 a3 D := ⟨h.o1.rows, h.o2.rows, h.o3.rows⟩
theorem LedAt.r3 {x : World} {a1 a2 a3 : Option Addr} {D : Led} (h : LedAt x a1 a2 a3 D) : Row3 x a1 a2 a3 D := ⟨h.acc.row, h.hold.row, h.seen.row⟩
def markD (Y : Led) : Led := ⟨accmarkL 1 Y.acc.length, hldmarkL (1 + 4 * Y.acc.length) Y.hold.length, snmarkL (1 + 4 * Y.acc.length + 4 * Y.hold.length) Y.seen.length⟩
set_option maxHeartbeats 2000000 in
theorem eqAccountS_row (a c : Option Addr) (l : List Acc) (ca cc : Nat) (w : World) (hn : l.length ≤ 1048576) (h : RowAt 4 accCells w a l) (h' : RowAt 4 accCells w c l) :
    Calls Tryz.prog 40 #[.slice a l.length ca, .slice c l.length cc] w fun e w' => YesEnd w e w' := by
  have HL : Hid _ := hide h
  have HL' : Hid _ := hide h'
  clear h h'
  have hln : ((l.length : Int) != (l.length : Int)) = false := by simp
  go_enter Tryz.func40, Tryz.ntmps40
  go_wp2
  go_loopw [5] (fun i wr => ∃ k : Nat, k ≤ l.length ∧ i = .int .i64 (k : Int) ∧ Below w.heap.size w wr) (fun i wr => l.length - (intOf i).toNat)
  case atStart => exact ⟨0, Nat.zero_le _, rfl, Below.refl _ _⟩
  case round =>
    obtain ⟨k, hk, rfl, HB⟩ := hrel
    by_cases hlt : k < l.length
    · obtain ⟨b, off, rfl, hb, d0, d1, d2, d3⟩ := acc_row (HL.out.below HB) k hlt
      obtain ⟨b2, off2, rfl, hc, e0, e1, e2, e3⟩ := acc_row (HL'.out.below HB) k hlt
      have hlt' : (k : Int) < (l.length : Int) := by omega
      have d0' := fun y : Later wr => (y.below.cell hb).trans d0
      have d1' := fun y : Later wr => (y.below.cell hb).trans d1
      have d2' := fun y : Later wr => (y.below.cell hb).trans d2
      have d3' := fun y : Later wr => (y.below.cell hb).trans d3
      have e0' := fun y : Later wr => (y.below.cell hc).trans e0
      have e1' := fun y : Later wr => (y.below.cell hc).trans e1
      have e2' := fun y : Later wr => (y.below.cell hc).trans e2
      have e3' := fun y : Later wr => (y.below.cell hc).trans e3
      clear d0 d1 d2 d3 e0 e1 e2 e3
      have hne : Nonempty (Later wr) := later_there _
      go_wp2_with fail
      refine wp_region_later wr (by kernel_rfl) (by kernel_rfl) ((Below.refl _ _).drew) ?_
      repeat (go_big_quiet_step (first | (go_at_call 80; exact later_of (eqAccount_any _ _ _ _ _))))
      refine wpQuiet_nil ?_
      intro _ hw'
      obtain ⟨nx, rfl⟩ := hw'
      go_wp2
      exact ⟨⟨k + 1, by omega, by go_num, below_trans HB nx.below⟩, by simp [intOf]; omega⟩
    · have hk' : ¬ (k : Int) < (l.length : Int) := by omega
      go_wp2
      go_ret
      exact ⟨rfl, HB⟩
set_option maxHeartbeats 2000000 in
theorem eqHoldS_row (a c : Option Addr) (l : List Hld) (ca cc : Nat) (w : World) (hn : l.length ≤ 1048576) (h : RowAt 4 hldCells w a l) (h' : RowAt 4 hldCells w c l) :
    Calls Tryz.prog 41 #[.slice a l.length ca, .slice c l.length cc] w fun e w' => YesEnd w e w' := by
  have HL : Hid _ := hide h
  have HL' : Hid _ := hide h'
  clear h h'
  have hln : ((l.length : Int) != (l.length : Int)) = false := by simp
  go_enter Tryz.func41, Tryz.ntmps41
  go_wp2
  go_loopw [5] (fun i wr => ∃ k : Nat, k ≤ l.length ∧ i = .int .i64 (k : Int) ∧ Below w.heap.size w wr) (fun i wr => l.length - (intOf i).toNat)
  case atStart => exact ⟨0, Nat.zero_le _, rfl, Below.refl _ _⟩
  case round =>
    obtain ⟨k, hk, rfl, HB⟩ := hrel
    by_cases hlt : k < l.length
    · obtain ⟨b, off, rfl, hb, d0, d1, d2, d3⟩ := hld_row (HL.out.below HB) k hlt
      obtain ⟨b2, off2, rfl, hc, e0, e1, e2, e3⟩ := hld_row (HL'.out.below HB) k hlt
      have hlt' : (k : Int) < (l.length : Int) := by omega
      have d0' := fun y : Later wr => (y.below.cell hb).trans d0
      have d1' := fun y : Later wr => (y.below.cell hb).trans d1
      have d2' := fun y : Later wr => (y.below.cell hb).trans d2
      have d3' := fun y : Later wr => (y.below.cell hb).trans d3
      have e0' := fun y : Later wr => (y.below.cell hc).trans e0
      have e1' := fun y : Later wr => (y.below.cell hc).trans e1
      have e2' := fun y : Later wr => (y.below.cell hc).trans e2
      have e3' := fun y : Later wr => (y.below.cell hc).trans e3
      clear d0 d1 d2 d3 e0 e1 e2 e3
      have hne : Nonempty (Later wr) := later_there _
      go_wp2_with fail
      refine wp_region_later wr (by kernel_rfl) (by kernel_rfl) ((Below.refl _ _).drew) ?_
      repeat (go_big_quiet_step (first | (go_at_call 81; exact later_of (eqHold_any _ _ _ _ _))))
      refine wpQuiet_nil ?_
      intro _ hw'
      obtain ⟨nx, rfl⟩ := hw'
      go_wp2
      exact ⟨⟨k + 1, by omega, by go_num, below_trans HB nx.below⟩, by simp [intOf]; omega⟩
    · have hk' : ¬ (k : Int) < (l.length : Int) := by omega
      go_wp2
      go_ret
      exact ⟨rfl, HB⟩
set_option maxHeartbeats 2000000 in
theorem eqAnsweredS_row (a c : Option Addr) (l : List Sn) (ca cc : Nat) (w : World) (hn : l.length ≤ 1048576) (h : RowAt 2 snCells w a l) (h' : RowAt 2 snCells w c l) :
    Calls Tryz.prog 42 #[.slice a l.length ca, .slice c l.length cc] w fun e w' => YesEnd w e w' := by
  have HL : Hid _ := hide h
  have HL' : Hid _ := hide h'
  clear h h'
  have hln : ((l.length : Int) != (l.length : Int)) = false := by simp
  go_enter Tryz.func42, Tryz.ntmps42
  go_wp2
  go_loopw [5] (fun i wr => ∃ k : Nat, k ≤ l.length ∧ i = .int .i64 (k : Int) ∧ Below w.heap.size w wr) (fun i wr => l.length - (intOf i).toNat)
  case atStart => exact ⟨0, Nat.zero_le _, rfl, Below.refl _ _⟩
  case round =>
    obtain ⟨k, hk, rfl, HB⟩ := hrel
    by_cases hlt : k < l.length
    · obtain ⟨b, off, rfl, hb, d0, d1⟩ := sn_row (HL.out.below HB) k hlt
      obtain ⟨b2, off2, rfl, hc, e0, e1⟩ := sn_row (HL'.out.below HB) k hlt
      have hlt' : (k : Int) < (l.length : Int) := by omega
      have d0' := fun y : Later wr => (y.below.cell hb).trans d0
      have d1' := fun y : Later wr => (y.below.cell hb).trans d1
      have e0' := fun y : Later wr => (y.below.cell hc).trans e0
      have e1' := fun y : Later wr => (y.below.cell hc).trans e1
      clear d0 d1 e0 e1
      have hne : Nonempty (Later wr) := later_there _
      go_wp2_with fail
      refine wp_region_later wr (by kernel_rfl) (by kernel_rfl) ((Below.refl _ _).drew) ?_
      repeat (go_big_quiet_step (first | (go_at_call 82; exact later_of (eqAnswered_any _ _ _))))
      refine wpQuiet_nil ?_
      intro _ hw'
      obtain ⟨nx, rfl⟩ := hw'
      go_wp2
      exact ⟨⟨k + 1, by omega, by go_num, below_trans HB nx.below⟩, by simp [intOf]; omega⟩
    · have hk' : ¬ (k : Int) < (l.length : Int) := by omega
      go_wp2
      go_ret
      exact ⟨rfl, HB⟩
set_option maxHeartbeats 2000000 in
theorem eqLedger_row (a h s a' h' s' : Option Addr) (L : Led) (ca ch cs ca' ch' cs' : Nat) (w : World) (hl : Row3 w a h s L) (hl' : Row3 w a' h' s' L) (n1 : L.acc.length ≤ 1048576) (n2 : L.hold.length ≤ 1048576) (n3 : L.seen.length ≤ 1048576) :
    Calls Tryz.prog 14 #[.agg #[.slice a L.acc.length ca, .slice h L.hold.length ch, .slice s L.seen.length cs], .agg #[.slice a' L.acc.length ca', .slice h' L.hold.length ch', .slice s' L.seen.length cs']] w fun e w' => YesEnd w e w' := by
  have HL : Hid _ := hide hl
  have HL' : Hid _ := hide hl'
  clear hl hl'
  have HX0 : Hid (Below ((w.alloc (.cells #[.slice a L.acc.length ca, .slice h L.hold.length ch, .slice s L.seen.length cs] 28)).alloc (.cells #[.slice a' L.acc.length ca', .slice h' L.hold.length ch', .slice s' L.seen.length cs'] 28)).heap.size ((w.alloc (.cells #[.slice a L.acc.length ca, .slice h L.hold.length ch, .slice s L.seen.length cs] 28)).alloc (.cells #[.slice a' L.acc.length ca', .slice h' L.hold.length ch', .slice s' L.seen.length cs'] 28)) ((w.alloc (.cells #[.slice a L.acc.length ca, .slice h L.hold.length ch, .slice s L.seen.length cs] 28)).alloc (.cells #[.slice a' L.acc.length ca', .slice h' L.hold.length ch', .slice s' L.seen.length cs'] 28))) := hide (Below.refl _ _)
  have HO : Hid (∀ x, Below ((w.alloc (.cells #[.slice a L.acc.length ca, .slice h L.hold.length ch, .slice s L.seen.length cs] 28)).alloc (.cells #[.slice a' L.acc.length ca', .slice h' L.hold.length ch', .slice s' L.seen.length cs'] 28)).heap.size ((w.alloc (.cells #[.slice a L.acc.length ca, .slice h L.hold.length ch, .slice s L.seen.length cs] 28)).alloc (.cells #[.slice a' L.acc.length ca', .slice h' L.hold.length ch', .slice s' L.seen.length cs'] 28)) x → Below w.heap.size w x) := hide (fun x hx => below_trans (below_alloc (below_alloc (Below.refl _ _) _) _) hx)
  go_enter Tryz.func14, Tryz.ntmps14
  go_wp2_with (first
    | (go_at_call 40; refine (eqAccountS_row _ _ L.acc _ _ _ n1 (HL.out.acc.below (HO.out _ HX0.out)) (HL'.out.acc.below (HO.out _ HX0.out))).mono ?_; rintro e w1 ⟨rfl, hb1⟩; have HX1 : Hid _ := hide (below_trans HX0.out hb1); obtain ⟨⟨x0, x1, x2⟩, y0, y1, y2⟩ := boxes33 HX1.out; clear hb1)
    | (go_at_call 41; refine (eqHoldS_row _ _ L.hold _ _ _ n2 (HL.out.hold.below (HO.out _ HX1.out)) (HL'.out.hold.below (HO.out _ HX1.out))).mono ?_; rintro e w2 ⟨rfl, hb2⟩; have HX2 : Hid _ := hide (below_trans HX1.out hb2); obtain ⟨⟨z0, z1, z2⟩, t0, t1, t2⟩ := boxes33 HX2.out; clear hb2)
    | (go_at_call 42; refine (eqAnsweredS_row _ _ L.seen _ _ _ n3 (HL.out.seen.below (HO.out _ HX2.out)) (HL'.out.seen.below (HO.out _ HX2.out))).mono ?_; rintro e w3 ⟨rfl, hb3⟩; have HX3 : Hid _ := hide (below_trans HX2.out hb3); clear hb3))
  go_ret
  exact ⟨rfl, HO.out _ HX3.out⟩
end Go.Proofs.YteaopalhbnhbaaaGreatDoor
