/- The contract of the program's LedgerText. -/
import Derived.Test.YteaopalhbnhbaaaGreatDoorH6
import Derived.Test.YteaopalhbnhbaaaGreatDoorIOk2
namespace Go.Proofs.YteaopalhbnhbaaaGreatDoor
open Go.ChangeShapes Go.WideShapes Go.ChangeAt Go.RowKit
set_option linter.unusedVariables false
set_option maxRecDepth 100000
/-- what stands while a line is made: the variable's block -/
def Hd4 (A T : Nat) (c0 c1 c2 c3 : Value) (x : World) : Prop := x.cell? ⟨A, 0, none⟩ = some c0 ∧ x.cell? ⟨A, 1, none⟩ = some c1 ∧ x.cell? ⟨A, 2, none⟩ = some c2 ∧ x.cell? ⟨A, 3, none⟩ = some c3 ∧ Hid (x.heap[A]? = some (.cells #[c0, c1, c2, c3] T (0, 0)))
theorem Hd4.of {A T : Nat} {c0 c1 c2 c3 : Value} {x : World} (hb : x.heap[A]? = some (.cells #[c0, c1, c2, c3] T (0, 0))) : Hd4 A T c0 c1 c2 c3 x :=
  ⟨by simp [World.cell?, hb], by simp [World.cell?, hb], by simp [World.cell?, hb], by simp [World.cell?, hb], hide hb⟩
theorem Hd4.on {A T : Nat} {c0 c1 c2 c3 : Value} {x y : World} (h : Hd4 A T c0 c1 c2 c3 x) (b : Below x.heap.size x y) : Hd4 A T c0 c1 c2 c3 y :=
  Hd4.of ((b.block A (Array.getElem?_eq_some_iff.1 h.2.2.2.2.out).1).trans h.2.2.2.2.out)
theorem Hd4.wr {A T B : Nat} {c0 c1 c2 c3 : Value} {x y : World} (h : Hd4 A T c0 c1 c2 c3 x) (o : Lib.OthersKept 5 (some B) x y) (hA : A ≠ B) (hT : T ≠ 5) : Hd4 A T c0 c1 c2 c3 y :=
  Hd4.of (o A _ h.2.2.2.2.out (fun e => hA (Option.some.inj e)) (fun c fz e => by simp only [Obj.cells.injEq] at e; exact hT e.2.1))
/-- what stands while a line is made: the variable's block -/
def Hd2 (A T : Nat) (c0 c1 : Value) (x : World) : Prop := x.cell? ⟨A, 0, none⟩ = some c0 ∧ x.cell? ⟨A, 1, none⟩ = some c1 ∧ Hid (x.heap[A]? = some (.cells #[c0, c1] T (0, 0)))
theorem Hd2.of {A T : Nat} {c0 c1 : Value} {x : World} (hb : x.heap[A]? = some (.cells #[c0, c1] T (0, 0))) : Hd2 A T c0 c1 x :=
  ⟨by simp [World.cell?, hb], by simp [World.cell?, hb], hide hb⟩
theorem Hd2.on {A T : Nat} {c0 c1 : Value} {x y : World} (h : Hd2 A T c0 c1 x) (b : Below x.heap.size x y) : Hd2 A T c0 c1 y :=
  Hd2.of ((b.block A (Array.getElem?_eq_some_iff.1 h.2.2.out).1).trans h.2.2.out)
theorem Hd2.wr {A T B : Nat} {c0 c1 : Value} {x y : World} (h : Hd2 A T c0 c1 x) (o : Lib.OthersKept 5 (some B) x y) (hA : A ≠ B) (hT : T ≠ 5) : Hd2 A T c0 c1 y :=
  Hd2.of (o A _ h.2.2.out (fun e => hA (Option.some.inj e)) (fun c fz e => by simp only [Obj.cells.injEq] at e; exact hT e.2.1))
theorem bld_lt {B b : Nat} {l : List UInt8} {x : World} (h : Bld B b l x) : b < x.heap.size := by
  rcases h with ⟨_, v, hb, _⟩ | ⟨_, v, hb, _⟩ <;> exact (Array.getElem?_eq_some_iff.1 hb).1
/-- the loop's state: the box and all of old, the builder -/
def LtMid (w : World) (o : Obj) (B : Nat) (l : List UInt8) (x : World) : Prop := Below (w.heap.size + 1) (w.alloc o) x ∧ Bld B B l x ∧ w.heap.size + 1 ≤ B ∧ B < x.heap.size
theorem LtMid.on {w x y : World} {o : Obj} {B : Nat} {l : List UInt8} (h : LtMid w o B l x) (b : Below x.heap.size x y) : LtMid w o B l y :=
  ⟨box_grow h.1 b, h.2.1.kept b, h.2.2.1, bld_lt (h.2.1.kept b)⟩
theorem LtMid.old {w x : World} {o : Obj} {B : Nat} {l : List UInt8} (h : LtMid w o B l x) : Below w.heap.size w x := below_of_box h.1
theorem LtMid.write {w x y : World} {o : Obj} {B : Nat} {l l' : List UInt8} (h : LtMid w o B l x) (hb : Bld B B l' y) (b : Below B x y) : LtMid w o B l' y :=
  ⟨h.1.trans (b.mono h.2.2.1), hb, h.2.2.1, bld_lt hb⟩
theorem LtMid.start {w w1 w2 : World} {o o9 : Obj} (h1 : Below (w.heap.size + 1) (w.alloc o) w1) (h2 : Below ((w1.alloc (.cells #[.pointer none, .slice none 0 0] 43)).alloc o9).heap.size ((w1.alloc (.cells #[.pointer none, .slice none 0 0] 43)).alloc o9) w2) : LtMid w o w1.heap.size [] w2 := by
  have hs : w.heap.size + 1 ≤ w1.heap.size := by have := h1.size; simpa using this
  have k : Below (w1.alloc (.cells #[.pointer none, .slice none 0 0] 43)).heap.size (w1.alloc (.cells #[.pointer none, .slice none 0 0] 43)) w2 := below_trans (below_alloc (Below.refl _ _) _) h2
  have hb := (bld_fresh w1).kept k
  exact ⟨box_grow h1 (below_trans (below_alloc (Below.refl _ _) _) k), hb, hs, bld_lt hb⟩
theorem line_at {x : World} {ws : List ByteArray} {g : Nat} (hg : g = x.heap.size) : ∀ (j : Nat) y, ws[j]? = some y → (x.alloc (.cells (ws.map Value.string).toArray 9)).cell? ⟨g, 0 + j, none⟩ = some (.string y) := by
  intro j y hj
  rw [Nat.zero_add, hg]
  have : (x.alloc (.cells (ws.map Value.string).toArray 9)).cell? ⟨x.heap.size, j, none⟩ = (ws.map Value.string).toArray[j]? := by simp
  rw [this]
  simp [hj]
theorem line_sz {l : List (List UInt8)} {n : Nat} (h : (Lib.join l [32]).length ≤ n) : (bs (lineL l)).size ≤ n + 1 := bs_sz (by rw [lineL, List.length_append]; simp only [List.length_cons, List.length_nil]; omega)
set_option maxHeartbeats 16000000 in
theorem implLedText_any (a h s : Option Addr) (L : Led) (ca ch cs : Nat) (t : TypeId) (v : Value) (w : World) (hl : LedAt w a h s L) (hg : w.cell? ⟨1, 0, none⟩ = some (.iface t v)) (hT : Tab w) (n1 : L.acc.length ≤ 1048576) (n2 : L.hold.length ≤ 1048576) (n3 : L.seen.length ≤ 1048576) :
    Calls Tryz.prog 7 #[.agg #[.slice a L.acc.length ca, .slice h L.hold.length ch, .slice s L.seen.length cs]] w fun e w' => StrEnd (ledT L) w e w' := by
  have HL : Hid _ := hide hl
  have HG : Hid _ := hide hg
  have HT : Hid _ := hide hT
  clear hl hg hT
  have HX0 : Hid (Below (w.heap.size + 1) (w.alloc (.cells #[.slice a L.acc.length ca, .slice h L.hold.length ch, .slice s L.seen.length cs] 28)) (w.alloc (.cells #[.slice a L.acc.length ca, .slice h L.hold.length ch, .slice s L.seen.length cs] 28))) := hide (Below.refl _ _)
  cases q : ledS L
  · have HR : Hid (ledT L = []) := hide (by simp [ledT, q])
    go_enter Tryz.func7, Tryz.ntmps7
    go_wp2_with (first | (go_at_call 10; refine (implLedgerOk_any _ _ _ L _ _ _ t v _ (HL.out.below (below_of_box HX0.out)) (below_keeps (below_of_box HX0.out) _ _ HG.out) n1 n2 n3).mono ?_; rintro e w1 ⟨rfl, hb1⟩; have HX1 : Hid _ := hide (box_grow HX0.out hb1); clear hb1))
    go_ret
    exact ⟨by rw [HR.out]; rfl, below_of_box HX1.out⟩
  · have HQ : Hid (ledS L = true) := hide q
    have HR : Hid (ledT L = body L L.acc.length L.hold.length L.seen.length) := hide (by rw [ledT, if_pos q])
    have HE0 : Hid (([] : List UInt8) ++ (bs (lineL (List.map (fun x => x.data.toList) [({ data := #[108, 101, 100, 103, 101, 114] } : ByteArray)]))).data.toList = body L 0 0 0) := hide (by rw [bs_list]; rfl)
    have hl0 : (Lib.join (List.map (fun x => x.data.toList) [({ data := #[108, 101, 100, 103, 101, 114] } : ByteArray)]) [32]).length ≤ 1000 := by decide
    have hl1 : ([] : List UInt8).length + (bs (lineL (List.map (fun x => x.data.toList) [({ data := #[108, 101, 100, 103, 101, 114] } : ByteArray)]))).size ≤ 140737488355328 := by have := line_sz hl0; simp only [List.length_nil]; omega
    go_enter Tryz.func7, Tryz.ntmps7
    go_wp2_with (first
      | (go_at_call 10; refine (implLedgerOk_any _ _ _ L _ _ _ t v _ (HL.out.below (below_of_box HX0.out)) (below_keeps (below_of_box HX0.out) _ _ HG.out) n1 n2 n3).mono ?_; rintro e w1 ⟨rfl, hb1⟩; have HX1 : Hid _ := hide (box_grow HX0.out hb1); clear hb1)
      | (go_at_call 20; refine (lineOf_any _ _ [{ data := #[108, 101, 100, 103, 101, 114] }] _ (line_at (by simp)) (by simp) (by simp) (by simp) hl0).mono ?_; rintro e w2 ⟨rfl, hb2⟩; have HM : Hid _ := hide (LtMid.start HX1.out hb2); clear hb2)
      | (go_at_call 19; refine (write_any w1.heap.size w1.heap.size [] _ _ HM.out.2.1 hl1 (Nat.le_of_lt HM.out.2.2.2)).mono ?_; rintro e w3 ⟨rfl, hbl, hbb, _⟩; have HM1 : Hid _ := hide (HM.out.write (by rw [HE0.out] at hbl; exact hbl) hbb); obtain ⟨x0, x1, x2⟩ := box40 HM1.out.1; clear hbl hbb HM)
      | fail)
    clear q hl0 hl1 HE0
    obtain ⟨⟨g1, g2, g3⟩, _⟩ := led_parts HQ.out
    go_loopw [20] (fun i wr => ∃ k : Nat, k ≤ L.acc.length ∧ i = .int .i64 (k : Int) ∧ Hid (LtMid w (.cells #[.slice a L.acc.length ca, .slice h L.hold.length ch, .slice s L.seen.length cs] 28) w1.heap.size (body L k 0 0) wr)) (fun i wr => L.acc.length - (intOf i).toNat)
    case atStart => exact ⟨0, Nat.zero_le _, rfl, HM1⟩
    case round =>
      clear HM1
      obtain ⟨k, hk, rfl, HM⟩ := hrel
      by_cases hlt : k < L.acc.length
      · obtain ⟨b, off, rfl, hb, d0, d1, d2, d3, _⟩ := (HL.out.acc.below HM.out.old) k hlt
        have hlt' : (k : Int) < (L.acc.length : Int) := by omega
        obtain ⟨s1, s2, ⟨b1, b2⟩, b3, b4⟩ := acc_sm HQ.out hlt
        have HE : Hid (List.map (fun x => x.data.toList) [({ data := #[97, 99, 99, 111, 117, 110, 116] } : ByteArray), (L.acc[k]).name, (L.acc[k]).cur, bs (Lib.itoa (L.acc[k]).limit), bs (Lib.itoa (L.acc[k]).posted)] = accW (L.acc[k])) := hide (by simp only [List.map_cons, List.map_nil, bs_list]; rfl)
        have hJ : (Lib.join (List.map (fun x => x.data.toList) [({ data := #[97, 99, 99, 111, 117, 110, 116] } : ByteArray), (L.acc[k]).name, (L.acc[k]).cur, bs (Lib.itoa (L.acc[k]).limit), bs (Lib.itoa (L.acc[k]).posted)]) [32]).length ≤ 1000 := by rw [HE.out]; have := accJ_len HQ.out hlt; omega
        have hS : (body L k 0 0).length + (bs (lineL (List.map (fun x => x.data.toList) [({ data := #[97, 99, 99, 111, 117, 110, 116] } : ByteArray), (L.acc[k]).name, (L.acc[k]).cur, bs (Lib.itoa (L.acc[k]).limit), bs (Lib.itoa (L.acc[k]).posted)]))).size ≤ 140737488355328 := by have := line_sz hJ; have := body_len HQ.out k 0 0; omega
        have hblk : (wr.alloc (.cells #[.string (L.acc[k]).name, .string (L.acc[k]).cur, .int .i64 (L.acc[k]).limit, .int .i64 (L.acc[k]).posted] 50)).heap[wr.heap.size]? = some (.cells #[.string (L.acc[k]).name, .string (L.acc[k]).cur, .int .i64 (L.acc[k]).limit, .int .i64 (L.acc[k]).posted] 50 (0, 0)) := heap_alloc_new wr _
        have hAB : wr.heap.size ≠ w1.heap.size := by have := HM.out.2.2.2; omega
        have HC : Hid (LtMid w (.cells #[.slice (some ⟨b, off, none⟩) L.acc.length ca, .slice h L.hold.length ch, .slice s L.seen.length cs] 28) w1.heap.size (body L k 0 0) (wr.alloc (.cells #[.string (L.acc[k]).name, .string (L.acc[k]).cur, .int .i64 (L.acc[k]).limit, .int .i64 (L.acc[k]).posted] 50)).drew) := hide (HM.out.on (below_alloc (Below.refl _ _) _).drew)
        go_wp2_with fail
        go_region_held (fun x => x.cell? ⟨wr.heap.size, 0, none⟩ = some (.string (L.acc[k]).name) ∧ x.cell? ⟨wr.heap.size, 1, none⟩ = some (.string (L.acc[k]).cur) ∧ x.cell? ⟨wr.heap.size, 2, none⟩ = some (.int .i64 (L.acc[k]).limit) ∧ x.cell? ⟨wr.heap.size, 3, none⟩ = some (.int .i64 (L.acc[k]).posted) ∧ Hid (x.heap[wr.heap.size]? = some (.cells #[.string (L.acc[k]).name, .string (L.acc[k]).cur, .int .i64 (L.acc[k]).limit, .int .i64 (L.acc[k]).posted] 50 (0, 0))))
          (first | assumption | exact Hd4.of hblk | exact Hd4.on (by assumption) (by assumption) | exact Hd4.on (by assumption) (below_alloc (Below.refl _ _) _) | exact Hd4.wr (by assumption) (by assumption) hAB (by decide))
          (first
            | (go_at_call 21; refine (numberText_any _ _ (by omega) (by omega) (HT.out.below HC.out.old)).mono ?_; rintro e w2 ⟨rfl, hb2⟩; have HC : Hid _ := hide (HC.out.on hb2))
            | (go_at_call 20; refine (lineOf_any _ _ [({ data := #[97, 99, 99, 111, 117, 110, 116] } : ByteArray), (L.acc[k]).name, (L.acc[k]).cur, bs (Lib.itoa (L.acc[k]).limit), bs (Lib.itoa (L.acc[k]).posted)] _ (line_at rfl) (by simp) (by simp) (by simp) hJ).mono ?_; rintro e w4 ⟨rfl, hb4⟩; have HC : Hid _ := hide ((HC.out.on (below_alloc (Below.refl _ _) _)).on hb4))
            | (go_at_call 19; refine (write_any w1.heap.size w1.heap.size (body L k 0 0) _ _ HC.out.2.1 hS (Nat.le_of_lt HC.out.2.2.2)).mono ?_; rintro e w5 ⟨rfl, hbl, hbb, ho⟩; have HC : Hid _ := hide (HC.out.write hbl hbb)))
        have HN : Hid (LtMid w (.cells #[.slice (some ⟨b, off, none⟩) L.acc.length ca, .slice h L.hold.length ch, .slice s L.seen.length cs] 28) w1.heap.size (body L (k + 1) 0 0) w5) := hide (by rw [body_acc hlt]; have hh := HC.out; rw [bs_list, HE.out] at hh; exact hh)
        go_wp2
        exact ⟨⟨k + 1, by omega, by go_num, HN⟩, by simp [intOf]; omega⟩
      · have hk' : ¬ (k : Int) < (L.acc.length : Int) := by omega
        obtain rfl : k = L.acc.length := by omega
        obtain ⟨x0, x1, x2⟩ := box40 HM.out.1
        go_wp2
        clear x0 x1 x2
        obtain ⟨w11, rfl⟩ : ∃ w11 : World, w11 = wr := ⟨_, rfl⟩
        go_loopw [41] (fun i wr => ∃ k : Nat, k ≤ L.hold.length ∧ i = .int .i64 (k : Int) ∧ Hid (LtMid w (.cells #[.slice a L.acc.length ca, .slice h L.hold.length ch, .slice s L.seen.length cs] 28) w1.heap.size (body L L.acc.length k 0) wr)) (fun i wr => L.hold.length - (intOf i).toNat)
        case atStart => exact ⟨0, Nat.zero_le _, rfl, HM⟩
        case round =>
          clear HM
          obtain ⟨k, hk, rfl, HM⟩ := hrel
          by_cases hlt : k < L.hold.length
          · obtain ⟨b, off, rfl, hb, d0, d1, d2, d3, _⟩ := (HL.out.hold.below HM.out.old) k hlt
            have hlt' : (k : Int) < (L.hold.length : Int) := by omega
            obtain ⟨s1, s2, ⟨b1, b2⟩, b3, b4⟩ := hld_sm HQ.out hlt
            have HE : Hid (List.map (fun x => x.data.toList) [({ data := #[104, 111, 108, 100] } : ByteArray), bs (Lib.itoa (L.hold[k]).id), (L.hold[k]).fr, (L.hold[k]).to, bs (Lib.itoa (L.hold[k]).amount)] = hldW (L.hold[k])) := hide (by simp only [List.map_cons, List.map_nil, bs_list]; rfl)
            have hJ : (Lib.join (List.map (fun x => x.data.toList) [({ data := #[104, 111, 108, 100] } : ByteArray), bs (Lib.itoa (L.hold[k]).id), (L.hold[k]).fr, (L.hold[k]).to, bs (Lib.itoa (L.hold[k]).amount)]) [32]).length ≤ 1000 := by rw [HE.out]; have := hldJ_len HQ.out hlt; omega
            have hS : (body L L.acc.length k 0).length + (bs (lineL (List.map (fun x => x.data.toList) [({ data := #[104, 111, 108, 100] } : ByteArray), bs (Lib.itoa (L.hold[k]).id), (L.hold[k]).fr, (L.hold[k]).to, bs (Lib.itoa (L.hold[k]).amount)]))).size ≤ 140737488355328 := by have := line_sz hJ; have := body_len HQ.out L.acc.length k 0; omega
            have hblk : (wr.alloc (.cells #[.int .i64 (L.hold[k]).id, .string (L.hold[k]).fr, .string (L.hold[k]).to, .int .i64 (L.hold[k]).amount] 53)).heap[wr.heap.size]? = some (.cells #[.int .i64 (L.hold[k]).id, .string (L.hold[k]).fr, .string (L.hold[k]).to, .int .i64 (L.hold[k]).amount] 53 (0, 0)) := heap_alloc_new wr _
            have hAB : wr.heap.size ≠ w1.heap.size := by have := HM.out.2.2.2; omega
            have HC : Hid (LtMid w (.cells #[.slice a L.acc.length ca, .slice (some ⟨b, off, none⟩) L.hold.length ch, .slice s L.seen.length cs] 28) w1.heap.size (body L L.acc.length k 0) (wr.alloc (.cells #[.int .i64 (L.hold[k]).id, .string (L.hold[k]).fr, .string (L.hold[k]).to, .int .i64 (L.hold[k]).amount] 53)).drew) := hide (HM.out.on (below_alloc (Below.refl _ _) _).drew)
            go_wp2_with fail
            go_region_held (fun x => x.cell? ⟨wr.heap.size, 0, none⟩ = some (.int .i64 (L.hold[k]).id) ∧ x.cell? ⟨wr.heap.size, 1, none⟩ = some (.string (L.hold[k]).fr) ∧ x.cell? ⟨wr.heap.size, 2, none⟩ = some (.string (L.hold[k]).to) ∧ x.cell? ⟨wr.heap.size, 3, none⟩ = some (.int .i64 (L.hold[k]).amount) ∧ Hid (x.heap[wr.heap.size]? = some (.cells #[.int .i64 (L.hold[k]).id, .string (L.hold[k]).fr, .string (L.hold[k]).to, .int .i64 (L.hold[k]).amount] 53 (0, 0))))
              (first | assumption | exact Hd4.of hblk | exact Hd4.on (by assumption) (by assumption) | exact Hd4.on (by assumption) (below_alloc (Below.refl _ _) _) | exact Hd4.wr (by assumption) (by assumption) hAB (by decide))
              (first
                | (go_at_call 21; refine (numberText_any _ _ (by omega) (by omega) (HT.out.below HC.out.old)).mono ?_; rintro e w2 ⟨rfl, hb2⟩; have HC : Hid _ := hide (HC.out.on hb2))
                | (go_at_call 20; refine (lineOf_any _ _ [({ data := #[104, 111, 108, 100] } : ByteArray), bs (Lib.itoa (L.hold[k]).id), (L.hold[k]).fr, (L.hold[k]).to, bs (Lib.itoa (L.hold[k]).amount)] _ (line_at rfl) (by simp) (by simp) (by simp) hJ).mono ?_; rintro e w4 ⟨rfl, hb4⟩; have HC : Hid _ := hide ((HC.out.on (below_alloc (Below.refl _ _) _)).on hb4))
                | (go_at_call 19; refine (write_any w1.heap.size w1.heap.size (body L L.acc.length k 0) _ _ HC.out.2.1 hS (Nat.le_of_lt HC.out.2.2.2)).mono ?_; rintro e w5 ⟨rfl, hbl, hbb, ho⟩; have HC : Hid _ := hide (HC.out.write hbl hbb)))
            have HN : Hid (LtMid w (.cells #[.slice a L.acc.length ca, .slice (some ⟨b, off, none⟩) L.hold.length ch, .slice s L.seen.length cs] 28) w1.heap.size (body L L.acc.length (k + 1) 0) w5) := hide (by rw [body_hold hlt]; have hh := HC.out; rw [bs_list, HE.out] at hh; exact hh)
            go_wp2
            exact ⟨⟨k + 1, by omega, by go_num, HN⟩, by simp [intOf]; omega⟩
          · have hk' : ¬ (k : Int) < (L.hold.length : Int) := by omega
            obtain rfl : k = L.hold.length := by omega
            obtain ⟨x0, x1, x2⟩ := box40 HM.out.1
            go_wp2
            clear x0 x1 x2
            obtain ⟨w12, rfl⟩ : ∃ w12 : World, w12 = wr := ⟨_, rfl⟩
            go_loopw [62] (fun i wr => ∃ k : Nat, k ≤ L.seen.length ∧ i = .int .i64 (k : Int) ∧ Hid (LtMid w (.cells #[.slice a L.acc.length ca, .slice h L.hold.length ch, .slice s L.seen.length cs] 28) w1.heap.size (body L L.acc.length L.hold.length k) wr)) (fun i wr => L.seen.length - (intOf i).toNat)
            case atStart => exact ⟨0, Nat.zero_le _, rfl, HM⟩
            case round =>
              clear HM
              obtain ⟨k, hk, rfl, HM⟩ := hrel
              by_cases hlt : k < L.seen.length
              · obtain ⟨b, off, rfl, hb, d0, d1, _, _⟩ := (HL.out.seen.below HM.out.old) k hlt
                have hlt' : (k : Int) < (L.seen.length : Int) := by omega
                obtain ⟨⟨b1, b2⟩, b3, b4⟩ := ans_sm HQ.out hlt
                have HE : Hid (List.map (fun x => x.data.toList) [({ data := #[115, 101, 101, 110] } : ByteArray), bs (Lib.itoa (L.seen[k]).id), bs (Lib.itoa (L.seen[k]).code)] = ansW (L.seen[k])) := hide (by simp only [List.map_cons, List.map_nil, bs_list]; rfl)
                have hJ : (Lib.join (List.map (fun x => x.data.toList) [({ data := #[115, 101, 101, 110] } : ByteArray), bs (Lib.itoa (L.seen[k]).id), bs (Lib.itoa (L.seen[k]).code)]) [32]).length ≤ 1000 := by rw [HE.out]; have := ansJ_len HQ.out hlt; omega
                have hS : (body L L.acc.length L.hold.length k).length + (bs (lineL (List.map (fun x => x.data.toList) [({ data := #[115, 101, 101, 110] } : ByteArray), bs (Lib.itoa (L.seen[k]).id), bs (Lib.itoa (L.seen[k]).code)]))).size ≤ 140737488355328 := by have := line_sz hJ; have := body_len HQ.out L.acc.length L.hold.length k; omega
                have hblk : (wr.alloc (.cells #[.int .i64 (L.seen[k]).id, .int .i64 (L.seen[k]).code] 55)).heap[wr.heap.size]? = some (.cells #[.int .i64 (L.seen[k]).id, .int .i64 (L.seen[k]).code] 55 (0, 0)) := heap_alloc_new wr _
                have hAB : wr.heap.size ≠ w1.heap.size := by have := HM.out.2.2.2; omega
                have HC : Hid (LtMid w (.cells #[.slice a L.acc.length ca, .slice h L.hold.length ch, .slice (some ⟨b, off, none⟩) L.seen.length cs] 28) w1.heap.size (body L L.acc.length L.hold.length k) (wr.alloc (.cells #[.int .i64 (L.seen[k]).id, .int .i64 (L.seen[k]).code] 55)).drew) := hide (HM.out.on (below_alloc (Below.refl _ _) _).drew)
                go_wp2_with fail
                go_region_held (fun x => x.cell? ⟨wr.heap.size, 0, none⟩ = some (.int .i64 (L.seen[k]).id) ∧ x.cell? ⟨wr.heap.size, 1, none⟩ = some (.int .i64 (L.seen[k]).code) ∧ Hid (x.heap[wr.heap.size]? = some (.cells #[.int .i64 (L.seen[k]).id, .int .i64 (L.seen[k]).code] 55 (0, 0))))
                  (first | assumption | exact Hd2.of hblk | exact Hd2.on (by assumption) (by assumption) | exact Hd2.on (by assumption) (below_alloc (Below.refl _ _) _) | exact Hd2.wr (by assumption) (by assumption) hAB (by decide))
                  (first
                    | (go_at_call 21; refine (numberText_any _ _ (by omega) (by omega) (HT.out.below HC.out.old)).mono ?_; rintro e w2 ⟨rfl, hb2⟩; have HC : Hid _ := hide (HC.out.on hb2))
                    | (go_at_call 20; refine (lineOf_any _ _ [({ data := #[115, 101, 101, 110] } : ByteArray), bs (Lib.itoa (L.seen[k]).id), bs (Lib.itoa (L.seen[k]).code)] _ (line_at rfl) (by simp) (by simp) (by simp) hJ).mono ?_; rintro e w4 ⟨rfl, hb4⟩; have HC : Hid _ := hide ((HC.out.on (below_alloc (Below.refl _ _) _)).on hb4))
                    | (go_at_call 19; refine (write_any w1.heap.size w1.heap.size (body L L.acc.length L.hold.length k) _ _ HC.out.2.1 hS (Nat.le_of_lt HC.out.2.2.2)).mono ?_; rintro e w5 ⟨rfl, hbl, hbb, ho⟩; have HC : Hid _ := hide (HC.out.write hbl hbb)))
                have HN : Hid (LtMid w (.cells #[.slice a L.acc.length ca, .slice h L.hold.length ch, .slice (some ⟨b, off, none⟩) L.seen.length cs] 28) w1.heap.size (body L L.acc.length L.hold.length (k + 1)) w5) := hide (by rw [body_seen hlt]; have hh := HC.out; rw [bs_list, HE.out] at hh; exact hh)
                go_wp2
                exact ⟨⟨k + 1, by omega, by go_num, HN⟩, by simp [intOf]; omega⟩
              · have hk' : ¬ (k : Int) < (L.seen.length : Int) := by omega
                obtain rfl : k = L.seen.length := by omega
                go_wp2_with (first | (go_at_call 22; refine (text_any w1.heap.size w1.heap.size _ _ HM.out.2.1 (Nat.le_of_lt HM.out.2.2.2)).mono ?_; rintro e w6 ⟨rfl, hb6⟩; have HZ : Hid (Below w.heap.size w w6) := hide (HM.out.old.trans (hb6.mono (by have := HM.out.2.2.1; omega)))))
                go_ret
                exact ⟨by rw [HR.out]; rfl, HZ.out⟩
end Go.Proofs.YteaopalhbnhbaaaGreatDoor
