/- What a command makes of a ledger, as data. -/
import Derived.Test.YtoedefamcjnklaaGreatDoorGc
import Derived.Test.YtoedefamcjnklaaGreatDoorGb
import Derived.Test.YtoedefamcjnklaaGreatDoorGd
namespace Go.Proofs.YtoedefamcjnklaaGreatDoor
open Go.ChangeShapes Go.WideShapes Go.ChangeAt Go.RowKit
set_option linter.unusedVariables false
set_option maxRecDepth 100000
theorem accLen (x : Acc) : (accCells x).length = 4 := rfl
theorem hldLen (x : Hld) : (hldCells x).length = 4 := rfl
theorem snLen (x : Sn) : (snCells x).length = 2 := rfl
def AccW (x : Acc) : Prop := x.name.size ≤ maxLen ∧ x.cur.size ≤ maxLen ∧ I64 x.limit ∧ I64 x.posted
def HldW (x : Hld) : Prop := x.fr.size ≤ maxLen ∧ x.to.size ≤ maxLen ∧ I64 x.id ∧ I64 x.amount
def SnW (x : Sn) : Prop := I64 x.id ∧ I64 x.code
/-- a ledger whose texts and numbers fit -/
structure LedW (L : Led) : Prop where
  acc : ∀ x ∈ L.acc, AccW x
  hold : ∀ x ∈ L.hold, HldW x
  seen : ∀ x ∈ L.seen, SnW x
theorem AccAt.row {w : World} {a : Option Addr} {l : List Acc} (h : AccAt w a l) : RowAt 4 accCells w a l := fun i hi => by
  obtain ⟨b, off, e, hb, h0, h1, h2, h3, _⟩ := h i hi
  exact ⟨b, off, e, hb, fun r v hv => by
    match r, hv with
    | 0, hv => simp [accCells] at hv; rw [← hv]; exact h0
    | 1, hv => simp [accCells] at hv; rw [← hv]; exact h1
    | 2, hv => simp [accCells] at hv; rw [← hv]; exact h2
    | 3, hv => simp [accCells] at hv; rw [← hv]; exact h3⟩
theorem HoldAt.row {w : World} {a : Option Addr} {l : List Hld} (h : HoldAt w a l) : RowAt 4 hldCells w a l := fun i hi => by
  obtain ⟨b, off, e, hb, h0, h1, h2, h3, _⟩ := h i hi
  exact ⟨b, off, e, hb, fun r v hv => by
    match r, hv with
    | 0, hv => simp [hldCells] at hv; rw [← hv]; exact h0
    | 1, hv => simp [hldCells] at hv; rw [← hv]; exact h1
    | 2, hv => simp [hldCells] at hv; rw [← hv]; exact h2
    | 3, hv => simp [hldCells] at hv; rw [← hv]; exact h3⟩
theorem AnsAt.row {w : World} {a : Option Addr} {l : List Sn} (h : AnsAt w a l) : RowAt 2 snCells w a l := fun i hi => by
  obtain ⟨b, off, e, hb, h0, h1, _⟩ := h i hi
  exact ⟨b, off, e, hb, fun r v hv => by
    match r, hv with
    | 0, hv => simp [snCells] at hv; rw [← hv]; exact h0
    | 1, hv => simp [snCells] at hv; rw [← hv]; exact h1⟩
theorem RowAt.acc {w : World} {a : Option Addr} {l : List Acc} (h : RowAt 4 accCells w a l) (hw : ∀ x ∈ l, AccW x) : AccAt w a l := fun i hi => by
  obtain ⟨b, off, e, hb, hc⟩ := h i hi
  obtain ⟨w1, w2, w3, w4⟩ := hw _ (List.getElem_mem hi)
  exact ⟨b, off, e, hb, hc 0 _ rfl, hc 1 _ rfl, hc 2 _ rfl, hc 3 _ rfl, w1, w2, w3, w4⟩
theorem RowAt.hold {w : World} {a : Option Addr} {l : List Hld} (h : RowAt 4 hldCells w a l) (hw : ∀ x ∈ l, HldW x) : HoldAt w a l := fun i hi => by
  obtain ⟨b, off, e, hb, hc⟩ := h i hi
  obtain ⟨w1, w2, w3, w4⟩ := hw _ (List.getElem_mem hi)
  exact ⟨b, off, e, hb, hc 0 _ rfl, hc 1 _ rfl, hc 2 _ rfl, hc 3 _ rfl, w1, w2, w3, w4⟩
theorem RowAt.ans {w : World} {a : Option Addr} {l : List Sn} (h : RowAt 2 snCells w a l) (hw : ∀ x ∈ l, SnW x) : AnsAt w a l := fun i hi => by
  obtain ⟨b, off, e, hb, hc⟩ := h i hi
  obtain ⟨w1, w2⟩ := hw _ (List.getElem_mem hi)
  exact ⟨b, off, e, hb, hc 0 _ rfl, hc 1 _ rfl, w1, w2⟩
theorem AccAt.wf {w : World} {a : Option Addr} {l : List Acc} (h : AccAt w a l) : ∀ x ∈ l, AccW x := fun x hx => by
  obtain ⟨i, hi, rfl⟩ := List.mem_iff_getElem.1 hx
  obtain ⟨_, _, _, _, _, _, _, _, r⟩ := h i hi
  exact r
theorem HoldAt.wf {w : World} {a : Option Addr} {l : List Hld} (h : HoldAt w a l) : ∀ x ∈ l, HldW x := fun x hx => by
  obtain ⟨i, hi, rfl⟩ := List.mem_iff_getElem.1 hx
  obtain ⟨_, _, _, _, _, _, _, _, r⟩ := h i hi
  exact r
theorem AnsAt.wf {w : World} {a : Option Addr} {l : List Sn} (h : AnsAt w a l) : ∀ x ∈ l, SnW x := fun x hx => by
  obtain ⟨i, hi, rfl⟩ := List.mem_iff_getElem.1 hx
  obtain ⟨_, _, _, _, _, _, r⟩ := h i hi
  exact r
theorem LedAt.wf {w : World} {a h s : Option Addr} {L : Led} (k : LedAt w a h s L) : LedW L := ⟨k.acc.wf, k.hold.wf, k.seen.wf⟩
theorem acc_one (l : List Acc) : ∀ u ∈ l.flatMap accCells, u.oneCell' = true := fun u hu => by
  simp only [List.mem_flatMap, accCells, List.mem_cons, List.not_mem_nil, or_false] at hu
  obtain ⟨x, _, rfl | rfl | rfl | rfl⟩ := hu <;> rfl
/-- the first place of a number -/
def fi (ids : List Int) (x : Int) : Option Nat := ids.findIdx? (fun y => y == x)
/-- a command -/
structure Cm where
  id : Int
  kind : Int
  fr : ByteArray
  to : ByteArray
  am : Int
  ref : Int
def Cm.v (c : Cm) : Value := .agg #[.int .i64 c.id, .int .i64 c.kind, .string c.fr, .string c.to, .int .i64 c.am, .int .i64 c.ref]
def Cm.cells (c : Cm) : List Value := [.int .i64 c.id, .int .i64 c.kind, .string c.fr, .string c.to, .int .i64 c.am, .int .i64 c.ref]
def Cm.B (c : Cm) : Bool := cmdB c.id c.kind c.fr c.to c.am c.ref
/-- what was answered -/
def seenV (l : List Sn) (id : Int) : Int := match fi (l.map Sn.id) id with
  | none => -1
  | some k => match l[k]? with
    | none => -1
    | some x => x.code
/-- a number more that was answered -/
def seeL (l : List Sn) (id code : Int) : List Sn := l.takeWhile (fun x => decide (x.id < id)) ++ ⟨id, code⟩ :: l.dropWhile (fun x => decide (x.id < id))
def ltB (a b : ByteArray) : Bool := !Op.bytesLess b.toList a.toList && !(b.toList == a.toList)
/-- an account more, at its place -/
def insA (l : List Acc) (x : Acc) : List Acc := l.takeWhile (fun y => !ltB x.name y.name) ++ x :: l.dropWhile (fun y => !ltB x.name y.name)
def insH (l : List Hld) (x : Hld) : List Hld := l.takeWhile (fun y => decide (y.id < x.id)) ++ x :: l.dropWhile (fun y => decide (y.id < x.id))
def postA (x : Acc) (d : Int) : Acc := ⟨x.name, x.cur, x.limit, x.posted + d⟩
def setP (l : List Acc) (i : Nat) (d : Int) : List Acc := match l[i]? with
  | none => l
  | some x => l.set i (postA x d)
def payA (l : List Acc) (i j : Nat) (am : Int) : List Acc := setP (setP l i (-am)) j am
def openM (L : Led) (c : Cm) : Led × Int := match idxA L.acc c.fr with
  | some _ => (L, 4)
  | none => (⟨insA L.acc ⟨c.fr, c.to, c.am, 0⟩, L.hold, L.seen⟩, 0)
def rangeB (l : List Acc) (i : Nat) : Bool := match l[i]? with
  | none => false
  | some x => inB (-1000000000000) 1000000000000 x.posted
def keepsB (l : List Acc) (h : List Hld) (i : Nat) : Bool := match l[i]? with
  | none => false
  | some x => withinB x (heldL x.name h)
def payM (L : Led) (i j : Nat) (am : Int) : Led × Int :=
  if rangeB (payA L.acc i j am) i && rangeB (payA L.acc i j am) j then
    (if keepsB (payA L.acc i j am) L.hold i then (⟨payA L.acc i j am, L.hold, L.seen⟩, 0) else (L, 7))
  else (L, 8)
def holdM (L : Led) (i : Nat) (c : Cm) : Led × Int :=
  if 1000000000000 < heldL c.fr (insH L.hold ⟨c.id, c.fr, c.to, c.am⟩) then (L, 8)
  else if keepsB L.acc (insH L.hold ⟨c.id, c.fr, c.to, c.am⟩) i then (⟨L.acc, insH L.hold ⟨c.id, c.fr, c.to, c.am⟩, L.seen⟩, 0)
  else (L, 7)
def sameC (l : List Acc) (i j : Nat) : Bool := match l[i]?, l[j]? with
  | some x, some y => sameB x.cur y.cur
  | _, _ => false
def moveM (L : Led) (c : Cm) : Led × Int := match idxA L.acc c.fr, idxA L.acc c.to with
  | some i, some j => if sameC L.acc i j then (if c.kind = 2 then payM L i j c.am else holdM L i c) else (L, 6)
  | _, _ => (L, 5)
def endM (L : Led) (c : Cm) : Led × Int := match L.hold.find? (fun h => h.id == c.ref) with
  | none => (L, 9)
  | some h =>
    if c.kind = 5 then (⟨L.acc, L.hold.filter (fun h => !(h.id == c.ref)), L.seen⟩, 0)
    else match idxA L.acc h.fr, idxA L.acc h.to with
      | some i, some j =>
        if (payM ⟨L.acc, L.hold.filter (fun h => !(h.id == c.ref)), L.seen⟩ i j h.amount).2 = 0 then ((payM ⟨L.acc, L.hold.filter (fun h => !(h.id == c.ref)), L.seen⟩ i j h.amount).1, 0)
        else (L, (payM ⟨L.acc, L.hold.filter (fun h => !(h.id == c.ref)), L.seen⟩ i j h.amount).2)
      | _, _ => (L, 5)
def fullB (L : Led) (c : Cm) : Bool := decide (L.seen.length = 40) || (decide (c.kind = 1) && decide (L.acc.length = 12)) || (decide (c.kind = 3) && (decide (L.hold.length = 10) || L.hold.any (fun h => h.id == c.id)))
def doM (L : Led) (c : Cm) : Led × Int := if c.kind = 1 then openM L c else if c.kind = 2 ∨ c.kind = 3 then moveM L c else endM L c
def applM (L : Led) (c : Cm) : Led × Int :=
  if ledS L = false then (⟨[], [], []⟩, 1)
  else if c.B = false then (L, 2)
  else if 0 ≤ seenV L.seen c.id then (L, seenV L.seen c.id)
  else if fullB L c then (L, 3)
  else (⟨(doM L c).1.acc, (doM L c).1.hold, seeL L.seen c.id (doM L c).2⟩, (doM L c).2)
/-- a ledger's rows -/
structure LP where
  aa : Option Addr
  ca : Nat
  ha : Option Addr
  ch : Nat
  sa : Option Addr
  cs : Nat
def ledV (p : LP) (L : Led) : Value := .agg #[.slice p.aa L.acc.length p.ca, .slice p.ha L.hold.length p.ch, .slice p.sa L.seen.length p.cs]
def ledC (p : LP) (L : Led) : List Value := [.slice p.aa L.acc.length p.ca, .slice p.ha L.hold.length p.ch, .slice p.sa L.seen.length p.cs]
def ledL (p : LP) (L : Led) : List Rs := [orow 4 accCells p.aa p.ca L.acc, orow 4 hldCells p.ha p.ch L.hold, orow 2 snCells p.sa p.cs L.seen]
/-- slices as they can be -/
structure SlOk (a : Option Addr) (c n : Nat) : Prop where
  near : Near a
  nocap : a = none → c = 0
  room : n ≤ c
structure PlOk (p : LP) (D : Led) : Prop where
  a : SlOk p.aa p.ca D.acc.length
  h : SlOk p.ha p.ch D.hold.length
  s : SlOk p.sa p.cs D.seen.length
/-- a ledger of the call's own, and a code -/
def ApplEnd (R : Led × Int) (w : World) (e : Ending) (w' : World) : Prop := ∃ p : LP, e = .returned (.tuple #[ledV p R.1, .int .i64 R.2]) ∧ PlOk p R.1 ∧ Pool [] w [ledL p R.1] w'
end Go.Proofs.YtoedefamcjnklaaGreatDoor
/- The contracts of the laws' marks of a ledger's rows. -/
namespace Go.Proofs.YtoedefamcjnklaaGreatDoor
open Go.ChangeShapes Go.WideShapes Go.ChangeAt Go.RowKit
set_option linter.unusedVariables false
set_option maxRecDepth 100000
def mkD : Nat → Nat → List UInt8 → List UInt8
  | 0, _, acc => acc
  | f + 1, n, acc => if n = 0 then acc else mkD f (n / 10) (dg n :: acc)
def mkT (n : Nat) : ByteArray := { data := #[109] } ++ bs (mkD 20 n [])
theorem mkD_zero (f : Nat) (acc : List UInt8) : mkD f 0 acc = acc := by cases f <;> simp [mkD]
theorem mkD_step (f n : Nat) (acc : List UInt8) (h : 0 < n) : mkD (f + 1) n acc = mkD f (n / 10) (dg n :: acc) := by rw [mkD, if_neg (by omega)]
set_option maxHeartbeats 400000 in
theorem markText_any (n : Nat) (w : World) (h0 : 0 < n) (h1 : n ≤ 1000000000) :
    Calls Tryz.prog 84 #[.int .i64 (n : Int)] w fun e w' => e = .returned (.string (mkT n)) ∧ Below w.heap.size w w' := by
  have a1 : ¬ (n : Int) ≤ 0 := by omega
  go_enter Tryz.func84, Tryz.ntmps84
  go_wp2
  go_loopw [0, 3] (fun i s w' => ∃ (k f : Nat) (b : ByteArray), k ≤ 1000000000 ∧ i = .int .i64 (k : Int) ∧ s = .string b ∧ Below w.heap.size w w' ∧ b.size + f ≤ 20 ∧ Hid (k < 10 ^ f) ∧ Hid (mkD f k b.data.toList = mkD 20 n [])) (fun i s w => (intOf i).toNat)
  case atStart => exact ⟨n, 20, _, h1, rfl, rfl, Below.refl _ _, by decide, hide (by omega), hide rfl⟩
  case round =>
    obtain ⟨k, f, b, hk, rfl, rfl, HB, hb, HP, HD⟩ := hrel
    have hc := conv1
    by_cases h : 0 < k
    · have h' : (0 : Int) < (k : Int) := by omega
      have hk' : (k : Int) ≤ 1000000000 := by omega
      have HD2 : Hid (∃ g, f = g + 1 ∧ k / 10 < 10 ^ g ∧ mkD g (k / 10) (({ data := #[UInt8.ofNat (48 + k % 10)] } : ByteArray) ++ b).data.toList = mkD 20 n []) := hide (by
        have hp := HP.out
        have hd := HD.out
        obtain ⟨g, rfl⟩ : ∃ g, f = g + 1 := by
          rcases f with _ | g
          · simp at hp; omega
          · exact ⟨g, rfl⟩
        refine ⟨g, rfl, by rw [Nat.pow_succ] at hp; omega, ?_⟩
        rw [list_one, ← hd, mkD_step g k _ h]; rfl)
      have HE : Hid ((48 + (k : Int) % 10).toNat = 48 + k % 10) := hide (by omega)
      clear HP HD
      go_wp2
      obtain ⟨g, rfl, hp, hd⟩ := HD2.out
      refine ⟨⟨k / 10, g, _, by omega, by go_num, rfl, below_alloc HB _, ?_, hide hp, hide ?_⟩, by simp [intOf]; omega⟩
      · rw [one_size]; omega
      · rw [← hd, UInt8.ofNat_add]; rfl
    · have h' : ¬ (0 : Int) < (k : Int) := by omega
      have HE : Hid (b = bs (mkD 20 n [])) := hide (by
        have := HD.out
        rw [show k = 0 by omega, mkD_zero] at this
        exact bs_of this)
      go_wp2
      go_ret
      exact ⟨by unfold mkT; rw [← HE.out]; rfl, HB⟩
/-- block g may have turned where p holds, and new blocks were laid -/
structure Chq (p : Prop) (g : Nat) (w w' : World) : Prop where
  os : w'.os = w.os
  tape : w'.tape = w.tape
  output : w'.output = w.output
  size : w.heap.size ≤ w'.heap.size
  block : ∀ k, k < w.heap.size → (p → k ≠ g) → w'.heap[k]? = w.heap[k]?
theorem Chq.refl (p : Prop) (g : Nat) (w : World) : Chq p g w w := ⟨rfl, rfl, rfl, Nat.le_refl _, fun _ _ _ => rfl⟩
theorem Chq.on {p : Prop} {g : Nat} {w x y : World} (h : Chq p g w x) (b : Below x.heap.size x y) : Chq p g w y :=
  ⟨b.os.trans h.os, b.tape.trans h.tape, b.output.trans h.output, Nat.le_trans h.size b.size, fun k hk hg => (b.block k (Nat.lt_of_lt_of_le hk h.size)).trans (h.block k hk hg)⟩
theorem Chq.setCell {p : Prop} {g : Nat} {w x : World} (h : Chq p g w x) (hp : p) {o : Nat} (v : Value) : Chq p g w (x.setCell ⟨g, o, none⟩ v) :=
  ⟨h.os, h.tape, h.output, by rw [size_setCell]; exact h.size, fun k hk hg => (Below.heap_setCell _ _ _ _ (hg hp)).trans (h.block k hk hg)⟩
theorem Chq.below {p : Prop} {g : Nat} {w x : World} (h : Chq p g w x) {B : Nat} (hB : p → B ≤ g) (hw : B ≤ w.heap.size) : Below B w x := ⟨h.os, h.tape, h.output, h.size, fun k hk => h.block k (by omega) (fun q => by have := hB q; omega)⟩
theorem PutMid.below {g n size k m : Nat} {cells : Nat → List Value} {x y : World} (h : PutMid g n size cells k m x) (b : Below x.heap.size x y) : PutMid g n size cells k m y :=
  ⟨Nat.lt_of_lt_of_le h.lt b.size, fun j hj => by obtain ⟨v, hv⟩ := h.there j hj; exact ⟨v, (b.cell h.lt).trans hv⟩, fun j => (b.frozen h.lt).trans (h.free j), fun i r hi hr => (b.cell h.lt).trans (h.done i r hi hr), fun r hr => (b.cell h.lt).trans (h.part r hr)⟩
theorem mid_of_own {A : Type} {sz : Nat} {f : A → List Value} (hf : ∀ x, (f x).length = sz) (h0 : 0 < sz) {g cap : Nat} {a : Option Addr} {l : List A} {x : World} {cells : Nat → List Value} (h : OwnRow sz f x g a cap l) (hl : 0 < l.length) : RowMid g l.length sz cells 0 x :=
  ⟨h.lt hl, fun j hj => by
    have hi : j / sz < l.length := (Nat.div_lt_iff_lt_mul h0).2 hj
    have hr : j % sz < sz := Nat.mod_lt _ h0
    obtain ⟨b, off, e, _, hc⟩ := h.rows (j / sz) hi
    rw [(h.own hl).1] at e
    simp only [Option.some.injEq, Addr.mk.injEq, and_true] at e
    obtain ⟨rfl, rfl⟩ := e
    have hr' : j % sz < (f l[j / sz]).length := by rw [hf]; exact hr
    have := hc (j % sz) _ (List.getElem?_eq_getElem hr')
    have hd : j / sz * sz + j % sz = j := by rw [Nat.mul_comm]; exact Nat.div_add_mod j sz
    rw [Nat.zero_add, hd] at this
    exact ⟨_, this⟩, (h.own hl).2, fun i r hi => by omega⟩
theorem OwnRow.keepB {A : Type} {sz : Nat} {f : A → List Value} {x y : World} {g : Nat} {a : Option Addr} {cap : Nat} {l : List A} (h : OwnRow sz f x g a cap l) (e : 0 < l.length → y.heap[g]? = x.heap[g]?) : OwnRow sz f y g a cap l := by
  have hgy : 0 < l.length → g < y.heap.size := fun q => by
    have hg := h.lt q
    have e := e q
    rcases Nat.lt_or_ge g y.heap.size with k | k
    · exact k
    · rw [Array.getElem?_eq_none k, Array.getElem?_eq_getElem hg] at e; cases e
  refine ⟨fun i hi => ?_, fun h0 => ⟨(h.own h0).1, fun j => ?_⟩, h.room, h.nocap⟩
  · have h0 : 0 < l.length := by omega
    obtain ⟨b, off, e2, _, hc⟩ := h.rows i hi
    have e3 := e2
    rw [(h.own h0).1] at e2
    simp only [Option.some.injEq, Addr.mk.injEq, and_true] at e2
    obtain ⟨rfl, rfl⟩ := e2
    exact ⟨g, 0, e3, hgy h0, fun r v hv => (World.cell?_of_block (w := x) (e h0)).trans (hc r v hv)⟩
  · exact (World.frozen?_of_block (w := x) (e h0)).trans ((h.own h0).2 j)
theorem Blk.same {g : Nat} {cur : List Value} {x y : World} (h : Blk g cur x) (e : y.heap[g]? = x.heap[g]?) (s : x.heap.size ≤ y.heap.size) : Blk g cur y :=
  ⟨Nat.lt_of_lt_of_le h.lt s, fun j v hj => (World.cell?_of_block e).trans (h.c j v hj), fun j => (World.frozen?_of_block e).trans (h.f j)⟩
theorem later_cell {W : World} {p : Addr} {v : Value} (h : W.cell? p = some v) : ∀ y : Later W, y.w.cell? p = some v := fun y => (y.below.cell (cell_lt h)).trans h
def HeldEnd (r : Nat) (w : World) (e : Ending) (w' : World) : Prop := e = .returned (.int .i64 ((r : Nat) : Int)) ∧ Below w.heap.size w w'
def accmarkL (q n : Nat) : List Acc := (List.range n).map fun (i : Nat) => ⟨mkT (q + 4 * i), mkT (q + 4 * i + 1), ((q + 4 * i : Nat) : Int) + 2, ((q + 4 * i : Nat) : Int) + 3⟩
theorem accmarkL_len (q n : Nat) : (accmarkL q n).length = n := by simp [accmarkL]
theorem accmarkL_at (q n : Nat) (i : Nat) (h : i < n) : (accmarkL q n)[i]? = some ⟨mkT (q + 4 * i), mkT (q + 4 * i + 1), ((q + 4 * i : Nat) : Int) + 2, ((q + 4 * i : Nat) : Int) + 3⟩ := by simp [accmarkL, List.getElem?_range h]
theorem accmarkL_get (q n : Nat) (i : Nat) (h : i < (accmarkL q n).length) : (accmarkL q n)[i] = ⟨mkT (q + 4 * i), mkT (q + 4 * i + 1), ((q + 4 * i : Nat) : Int) + 2, ((q + 4 * i : Nat) : Int) + 3⟩ := by simp [accmarkL]
def markAccountSEnd (q : Nat) (g : Nat) (a : Option Addr) (cap n : Nat) (w : World) (e : Ending) (w' : World) : Prop := e = .returned (.int .i64 ((q + 4 * n : Nat) : Int)) ∧ Chq (0 < n) g w w' ∧ OwnRow 4 accCells w' g a cap (accmarkL q n)
set_option maxHeartbeats 8000000 in
theorem markAccountS_any (a : Option Addr) (l : List Acc) (cap g : Nat) (q : Nat) (w : World) (hn : l.length ≤ 10000000) (q0 : 0 < q) (q1 : q ≤ 100000000) (h : OwnRow 4 accCells w g a cap l) :
    Calls Tryz.prog 32 #[.slice a l.length cap, .int .i64 (q : Int)] w fun e w' => markAccountSEnd q g a cap l.length w e w' := by
  have HL : Hid _ := hide h
  clear h
  by_cases h0 : 0 < l.length
  · have HO : Hid _ := hide (mid_of_own accLen (by decide) (cells := fun i => ((accmarkL q l.length)[i]?).elim [] accCells) HL.out h0)
    obtain ⟨rfl, _⟩ := HL.out.own h0
    go_enter Tryz.func32, Tryz.ntmps32
    go_wp2
    go_loopw [1, 5] (fun s i wr => ∃ k : Nat, k ≤ l.length ∧ i = .int .i64 (k : Int) ∧ s = .int .i64 ((q + 4 * k : Nat) : Int) ∧ Hid (Chq (0 < l.length) g w wr) ∧ Hid (RowMid g l.length 4 (fun i => ((accmarkL q l.length)[i]?).elim [] accCells) k wr)) (fun s i wr => l.length - (intOf i).toNat)
    case atStart => exact ⟨0, Nat.zero_le _, rfl, by simp, hide (Chq.refl _ _ _), HO⟩
    case round =>
      obtain ⟨k, hk, rfl, rfl, HT, HM⟩ := hrel
      by_cases hlt : k < l.length
      · have hlt' : (k : Int) < (l.length : Int) := by omega
        have HQK : Hid (0 < q + 4 * k ∧ q + 4 * k ≤ 900000000) := hide (by omega)
        have hqk : ((q + 4 * k : Nat) : Int) ≤ 900000000 := by omega
        have HAT : Hid _ := hide (accmarkL_at q l.length k hlt)
        generalize hqe : q + 4 * k = qk at *
        have HQE : Hid _ := hide hqe
        clear hqe
        have HP0 : Hid _ := hide HM.out.put
        have HT0 : Hid _ := hide HT.out
        clear HM HT
        have HMT0 : Hid (Calls Tryz.prog 84 #[.int .i64 ((qk : Nat) : Int)] (wr) fun e w' => e = .returned (.string (mkT qk)) ∧ Below (wr).heap.size (wr) w') := hide (by
          have := markText_any qk (wr) (by have := HQK.out; omega) (by have := HQK.out; omega)
          simpa using this)
        go_wp2_with fail
        refine HMT0.out.mono ?_
        rintro e x0 ⟨rfl, hb0⟩
        have HQ0 : Hid _ := hide (HP0.out.below hb0)
        have HU0 : Hid _ := hide (HT0.out.on hb0)
        clear hb0 HP0 HT0 HMT0
        obtain ⟨v0, f0⟩ := HQ0.out.there (k * 4) (by omega)
        have z0 := HQ0.out.free (k * 4)
        have HP1 : Hid _ := hide (HQ0.out.set hlt (by decide) (v := .string (mkT qk)) (by rw [HAT.out]; simp [accCells]) (o := k * 4) (by omega))
        have HT1 : Hid _ := hide (HU0.out.setCell h0 (o := k * 4) (.string (mkT qk)))
        clear HQ0 HU0
        have HMT1 : Hid (Calls Tryz.prog 84 #[.int .i64 ((qk : Int) + 1)] (x0.setCell ⟨g, k * 4, none⟩ (.string (mkT qk))) fun e w' => e = .returned (.string (mkT (qk + 1))) ∧ Below (x0.setCell ⟨g, k * 4, none⟩ (.string (mkT qk))).heap.size (x0.setCell ⟨g, k * 4, none⟩ (.string (mkT qk))) w') := hide (by
          have := markText_any (qk + 1) (x0.setCell ⟨g, k * 4, none⟩ (.string (mkT qk))) (by have := HQK.out; omega) (by have := HQK.out; omega)
          simpa using this)
        go_wp2_with fail
        refine HMT1.out.mono ?_
        rintro e x1 ⟨rfl, hb1⟩
        have HQ1 : Hid _ := hide (HP1.out.below hb1)
        have HU1 : Hid _ := hide (HT1.out.on hb1)
        clear hb1 HP1 HT1 HMT1 f0 z0
        obtain ⟨v1, f1⟩ := HQ1.out.there (k * 4 + 1) (by omega)
        have z1 := HQ1.out.free (k * 4 + 1)
        obtain ⟨v2, f2⟩ := HQ1.out.there (k * 4 + 2) (by omega)
        have z2 := HQ1.out.free (k * 4 + 2)
        obtain ⟨v3, f3⟩ := HQ1.out.there (k * 4 + 3) (by omega)
        have z3 := HQ1.out.free (k * 4 + 3)
        have HP2 : Hid _ := hide (HQ1.out.set hlt (by decide) (v := .string (mkT (qk + 1))) (by rw [HAT.out]; simp [accCells]) (o := k * 4 + 1) (by omega))
        have HT2 : Hid _ := hide (HU1.out.setCell h0 (o := k * 4 + 1) (.string (mkT (qk + 1))))
        clear HQ1 HU1
        have HQ2 : Hid _ := hide HP2.out
        have HU2 : Hid _ := hide HT2.out
        clear HP2 HT2
        have HP3 : Hid _ := hide (HQ2.out.set hlt (by decide) (v := .int .i64 ((qk : Int) + 2)) (by rw [HAT.out]; simp [accCells]) (o := k * 4 + 2) (by omega))
        have HT3 : Hid _ := hide (HU2.out.setCell h0 (o := k * 4 + 2) (.int .i64 ((qk : Int) + 2)))
        clear HQ2 HU2
        have HQ3 : Hid _ := hide HP3.out
        have HU3 : Hid _ := hide HT3.out
        clear HP3 HT3
        have HP4 : Hid _ := hide (HQ3.out.set hlt (by decide) (v := .int .i64 ((qk : Int) + 3)) (by rw [HAT.out]; simp [accCells]) (o := k * 4 + 3) (by omega))
        have HT4 : Hid _ := hide (HU3.out.setCell h0 (o := k * 4 + 3) (.int .i64 ((qk : Int) + 3)))
        clear HQ3 HU3
        have HW : Hid _ := hide HP4.out.whole
        clear HP4
        go_wp2
        exact ⟨⟨k + 1, by omega, by go_num, by have := HQE.out; go_num, HT4, HW⟩, by simp [intOf]; omega⟩
      · have hk' : ¬ (k : Int) < (l.length : Int) := by omega
        have HE : Hid (markAccountSEnd q g (some ⟨g, 0, none⟩) cap l.length w (.returned (.int .i64 ((q + 4 * k : Nat) : Int))) wr) := hide (by
          have M := HM.out
          have ek : k = l.length := by omega
          rw [ek] at M ⊢
          have O := own_of_mid (l := accmarkL q l.length) accLen (by rw [accmarkL_len]; exact M) (cap := cap) (by rw [accmarkL_len]; exact HL.out.room)
          exact ⟨rfl, HT.out, O⟩)
        generalize ((q + 4 * k : Nat) : Int) = qk at *
        go_wp2
        go_ret
        exact HE.out
  · have hz : l = [] := List.eq_nil_of_length_eq_zero (by omega)
    subst hz
    go_enter Tryz.func32, Tryz.ntmps32
    go_wp2
    go_loopw [1, 5] (fun s i wr => s = .int .i64 (q : Int) ∧ i = .int .i64 0 ∧ wr = w) (fun s i wr => 0)
    case atStart => exact ⟨rfl, rfl, rfl⟩
    case round =>
      obtain ⟨rfl, rfl, hw⟩ := hrel
      subst hw
      go_wp2
      go_ret
      exact ⟨by simp, Chq.refl _ _ _, by have := HL.out; simpa [accmarkL] using this⟩
theorem accmark_row {q n : Nat} {a : Option Addr} {w : World} (h : RowAt 4 accCells w a (accmarkL q n)) (i : Nat) (hi : i < n) : ∃ b off, a = some ⟨b, off, none⟩ ∧ b < w.heap.size ∧ w.cell? ⟨b, off + i * 4, none⟩ = some (.string (mkT (q + 4 * i))) ∧ w.cell? ⟨b, off + i * 4 + 1, none⟩ = some (.string (mkT (q + 4 * i + 1))) ∧ w.cell? ⟨b, off + i * 4 + 2, none⟩ = some (.int .i64 (((q + 4 * i : Nat) : Int) + 2)) ∧ w.cell? ⟨b, off + i * 4 + 3, none⟩ = some (.int .i64 (((q + 4 * i : Nat) : Int) + 3)) := by
  obtain ⟨b, off, e, hb, hc⟩ := h i (by rw [accmarkL_len]; exact hi)
  rw [accmarkL_get] at hc
  exact ⟨b, off, e, hb, hc 0 _ rfl, hc 1 _ rfl, hc 2 _ rfl, hc 3 _ rfl⟩
set_option maxHeartbeats 8000000 in
theorem heldAccountS_any (a : Option Addr) (n cap : Nat) (q : Nat) (w : World) (hn : n ≤ 10000000) (q0 : 0 < q) (q1 : q ≤ 100000000) (h : RowAt 4 accCells w a (accmarkL q n)) :
    Calls Tryz.prog 35 #[.slice a n cap, .int .i64 (q : Int)] w fun e w' => HeldEnd (q + 4 * n) w e w' := by
  have HL : Hid _ := hide h
  clear h
  go_enter Tryz.func35, Tryz.ntmps35
  go_wp2
  go_loopw [1, 5] (fun s i wr => ∃ k : Nat, k ≤ n ∧ i = .int .i64 (k : Int) ∧ s = .int .i64 ((q + 4 * k : Nat) : Int) ∧ Hid (Below w.heap.size w wr)) (fun s i wr => n - (intOf i).toNat)
  case atStart => exact ⟨0, Nat.zero_le _, rfl, by simp, hide (Below.refl _ _)⟩
  case round =>
    obtain ⟨k, hk, rfl, rfl, HB⟩ := hrel
    by_cases hlt : k < n
    · have hlt' : (k : Int) < (n : Int) := by omega
      obtain ⟨b, off, rfl, hb, d0, d1, d2, d3⟩ := accmark_row (HL.out.below HB.out) k hlt
      have HQK : Hid (0 < q + 4 * k ∧ q + 4 * k ≤ 900000000) := hide (by omega)
      have hqk : ((q + 4 * k : Nat) : Int) ≤ 900000000 := by omega
      generalize hqe : q + 4 * k = qk at *
      have HQE : Hid _ := hide hqe
      clear hqe hb
      have HMT0 : Hid (∀ y : Later wr, Calls Tryz.prog 84 #[.int .i64 ((qk : Nat) : Int)] y.w fun e w' => e = .returned (.string (mkT qk)) ∧ Below y.w.heap.size y.w w') := hide (fun y => by
        have := markText_any qk y.w (by have := HQK.out; omega) (by have := HQK.out; omega)
        simpa using this)
      have hcell0 := later_cell d0
      have hne0 : Nonempty (Later wr) := later_there _
      go_wp2_with fail
      refine wp_region_later wr (by kernel_rfl) (by kernel_rfl) ((Below.refl _ _).drew) ?_
      repeat (go_big_quiet_step (first | (go_at_call 84; exact later_of (HMT0.out _))))
      refine wpQuiet_nil ?_
      intro _ hw'
      obtain ⟨nx0, rfl⟩ := hw'
      obtain ⟨x0, hx0⟩ : ∃ x, x = nx0.w := ⟨_, rfl⟩
      have hb0 : Below wr.heap.size wr x0 := hx0 ▸ nx0.below
      rw [← hx0]
      clear HMT0 hcell0 hne0 hx0
      have HB0 : Hid _ := hide (below_trans HB.out hb0)
      replace d1 := below_keeps hb0 _ _ d1
      replace d2 := below_keeps hb0 _ _ d2
      replace d3 := below_keeps hb0 _ _ d3
      clear hb0 nx0
      have HMT1 : Hid (∀ y : Later x0, Calls Tryz.prog 84 #[.int .i64 ((qk : Int) + 1)] y.w fun e w' => e = .returned (.string (mkT (qk + 1))) ∧ Below y.w.heap.size y.w w') := hide (fun y => by
        have := markText_any (qk + 1) y.w (by have := HQK.out; omega) (by have := HQK.out; omega)
        simpa using this)
      have hcell1 := later_cell d1
      have hne1 : Nonempty (Later x0) := later_there _
      go_wp2_with fail
      refine wp_region_later x0 (by kernel_rfl) (by kernel_rfl) ((Below.refl _ _).drew) ?_
      repeat (go_big_quiet_step (first | (go_at_call 84; exact later_of (HMT1.out _))))
      refine wpQuiet_nil ?_
      intro _ hw'
      obtain ⟨nx1, rfl⟩ := hw'
      obtain ⟨x1, hx1⟩ : ∃ x, x = nx1.w := ⟨_, rfl⟩
      have hb1 : Below x0.heap.size x0 x1 := hx1 ▸ nx1.below
      rw [← hx1]
      clear HMT1 hcell1 hne1 hx1
      have HB1 : Hid _ := hide (below_trans HB0.out hb1)
      replace d2 := below_keeps hb1 _ _ d2
      replace d3 := below_keeps hb1 _ _ d3
      clear hb1 nx1
      go_wp2
      exact ⟨⟨k + 1, by omega, by go_num, by have := HQE.out; go_num, HB1⟩, by simp [intOf]; omega⟩
    · have hk' : ¬ (k : Int) < (n : Int) := by omega
      have HE : Hid (HeldEnd (q + 4 * n) w (.returned (.int .i64 ((q + 4 * k : Nat) : Int))) wr) := hide ⟨by rw [show k = n by omega], HB.out⟩
      generalize ((q + 4 * k : Nat) : Int) = qk at *
      go_wp2
      go_ret
      exact HE.out
def hldmarkL (q n : Nat) : List Hld := (List.range n).map fun (i : Nat) => ⟨((q + 4 * i : Nat) : Int), mkT (q + 4 * i + 1), mkT (q + 4 * i + 2), ((q + 4 * i : Nat) : Int) + 3⟩
theorem hldmarkL_len (q n : Nat) : (hldmarkL q n).length = n := by simp [hldmarkL]
theorem hldmarkL_at (q n : Nat) (i : Nat) (h : i < n) : (hldmarkL q n)[i]? = some ⟨((q + 4 * i : Nat) : Int), mkT (q + 4 * i + 1), mkT (q + 4 * i + 2), ((q + 4 * i : Nat) : Int) + 3⟩ := by simp [hldmarkL, List.getElem?_range h]
theorem hldmarkL_get (q n : Nat) (i : Nat) (h : i < (hldmarkL q n).length) : (hldmarkL q n)[i] = ⟨((q + 4 * i : Nat) : Int), mkT (q + 4 * i + 1), mkT (q + 4 * i + 2), ((q + 4 * i : Nat) : Int) + 3⟩ := by simp [hldmarkL]
def markHoldSEnd (q : Nat) (g : Nat) (a : Option Addr) (cap n : Nat) (w : World) (e : Ending) (w' : World) : Prop := e = .returned (.int .i64 ((q + 4 * n : Nat) : Int)) ∧ Chq (0 < n) g w w' ∧ OwnRow 4 hldCells w' g a cap (hldmarkL q n)
set_option maxHeartbeats 8000000 in
theorem markHoldS_any (a : Option Addr) (l : List Hld) (cap g : Nat) (q : Nat) (w : World) (hn : l.length ≤ 10000000) (q0 : 0 < q) (q1 : q ≤ 100000000) (h : OwnRow 4 hldCells w g a cap l) :
    Calls Tryz.prog 33 #[.slice a l.length cap, .int .i64 (q : Int)] w fun e w' => markHoldSEnd q g a cap l.length w e w' := by
  have HL : Hid _ := hide h
  clear h
  by_cases h0 : 0 < l.length
  · have HO : Hid _ := hide (mid_of_own hldLen (by decide) (cells := fun i => ((hldmarkL q l.length)[i]?).elim [] hldCells) HL.out h0)
    obtain ⟨rfl, _⟩ := HL.out.own h0
    go_enter Tryz.func33, Tryz.ntmps33
    go_wp2
    go_loopw [1, 5] (fun s i wr => ∃ k : Nat, k ≤ l.length ∧ i = .int .i64 (k : Int) ∧ s = .int .i64 ((q + 4 * k : Nat) : Int) ∧ Hid (Chq (0 < l.length) g w wr) ∧ Hid (RowMid g l.length 4 (fun i => ((hldmarkL q l.length)[i]?).elim [] hldCells) k wr)) (fun s i wr => l.length - (intOf i).toNat)
    case atStart => exact ⟨0, Nat.zero_le _, rfl, by simp, hide (Chq.refl _ _ _), HO⟩
    case round =>
      obtain ⟨k, hk, rfl, rfl, HT, HM⟩ := hrel
      by_cases hlt : k < l.length
      · have hlt' : (k : Int) < (l.length : Int) := by omega
        have HQK : Hid (0 < q + 4 * k ∧ q + 4 * k ≤ 900000000) := hide (by omega)
        have hqk : ((q + 4 * k : Nat) : Int) ≤ 900000000 := by omega
        have HAT : Hid _ := hide (hldmarkL_at q l.length k hlt)
        generalize hqe : q + 4 * k = qk at *
        have HQE : Hid _ := hide hqe
        clear hqe
        have HP0 : Hid _ := hide HM.out.put
        have HT0 : Hid _ := hide HT.out
        clear HM HT
        have HQ0 : Hid _ := hide HP0.out
        have HU0 : Hid _ := hide HT0.out
        clear HP0 HT0
        obtain ⟨v0, f0⟩ := HQ0.out.there (k * 4) (by omega)
        have z0 := HQ0.out.free (k * 4)
        have HP1 : Hid _ := hide (HQ0.out.set hlt (by decide) (v := .int .i64 (qk : Int)) (by rw [HAT.out]; simp [hldCells]) (o := k * 4) (by omega))
        have HT1 : Hid _ := hide (HU0.out.setCell h0 (o := k * 4) (.int .i64 (qk : Int)))
        clear HQ0 HU0
        have HMT1 : Hid (Calls Tryz.prog 84 #[.int .i64 ((qk : Int) + 1)] (wr.setCell ⟨g, k * 4, none⟩ (.int .i64 (qk : Int))) fun e w' => e = .returned (.string (mkT (qk + 1))) ∧ Below (wr.setCell ⟨g, k * 4, none⟩ (.int .i64 (qk : Int))).heap.size (wr.setCell ⟨g, k * 4, none⟩ (.int .i64 (qk : Int))) w') := hide (by
          have := markText_any (qk + 1) (wr.setCell ⟨g, k * 4, none⟩ (.int .i64 (qk : Int))) (by have := HQK.out; omega) (by have := HQK.out; omega)
          simpa using this)
        go_wp2_with fail
        refine HMT1.out.mono ?_
        rintro e x1 ⟨rfl, hb1⟩
        have HQ1 : Hid _ := hide (HP1.out.below hb1)
        have HU1 : Hid _ := hide (HT1.out.on hb1)
        clear hb1 HP1 HT1 HMT1 f0 z0
        obtain ⟨v1, f1⟩ := HQ1.out.there (k * 4 + 1) (by omega)
        have z1 := HQ1.out.free (k * 4 + 1)
        have HP2 : Hid _ := hide (HQ1.out.set hlt (by decide) (v := .string (mkT (qk + 1))) (by rw [HAT.out]; simp [hldCells]) (o := k * 4 + 1) (by omega))
        have HT2 : Hid _ := hide (HU1.out.setCell h0 (o := k * 4 + 1) (.string (mkT (qk + 1))))
        clear HQ1 HU1
        have HMT2 : Hid (Calls Tryz.prog 84 #[.int .i64 ((qk : Int) + 2)] (x1.setCell ⟨g, k * 4 + 1, none⟩ (.string (mkT (qk + 1)))) fun e w' => e = .returned (.string (mkT (qk + 2))) ∧ Below (x1.setCell ⟨g, k * 4 + 1, none⟩ (.string (mkT (qk + 1)))).heap.size (x1.setCell ⟨g, k * 4 + 1, none⟩ (.string (mkT (qk + 1)))) w') := hide (by
          have := markText_any (qk + 2) (x1.setCell ⟨g, k * 4 + 1, none⟩ (.string (mkT (qk + 1)))) (by have := HQK.out; omega) (by have := HQK.out; omega)
          simpa using this)
        go_wp2_with fail
        refine HMT2.out.mono ?_
        rintro e x2 ⟨rfl, hb2⟩
        have HQ2 : Hid _ := hide (HP2.out.below hb2)
        have HU2 : Hid _ := hide (HT2.out.on hb2)
        clear hb2 HP2 HT2 HMT2 f1 z1
        obtain ⟨v2, f2⟩ := HQ2.out.there (k * 4 + 2) (by omega)
        have z2 := HQ2.out.free (k * 4 + 2)
        obtain ⟨v3, f3⟩ := HQ2.out.there (k * 4 + 3) (by omega)
        have z3 := HQ2.out.free (k * 4 + 3)
        have HP3 : Hid _ := hide (HQ2.out.set hlt (by decide) (v := .string (mkT (qk + 2))) (by rw [HAT.out]; simp [hldCells]) (o := k * 4 + 2) (by omega))
        have HT3 : Hid _ := hide (HU2.out.setCell h0 (o := k * 4 + 2) (.string (mkT (qk + 2))))
        clear HQ2 HU2
        have HQ3 : Hid _ := hide HP3.out
        have HU3 : Hid _ := hide HT3.out
        clear HP3 HT3
        have HP4 : Hid _ := hide (HQ3.out.set hlt (by decide) (v := .int .i64 ((qk : Int) + 3)) (by rw [HAT.out]; simp [hldCells]) (o := k * 4 + 3) (by omega))
        have HT4 : Hid _ := hide (HU3.out.setCell h0 (o := k * 4 + 3) (.int .i64 ((qk : Int) + 3)))
        clear HQ3 HU3
        have HW : Hid _ := hide HP4.out.whole
        clear HP4
        go_wp2
        exact ⟨⟨k + 1, by omega, by go_num, by have := HQE.out; go_num, HT4, HW⟩, by simp [intOf]; omega⟩
      · have hk' : ¬ (k : Int) < (l.length : Int) := by omega
        have HE : Hid (markHoldSEnd q g (some ⟨g, 0, none⟩) cap l.length w (.returned (.int .i64 ((q + 4 * k : Nat) : Int))) wr) := hide (by
          have M := HM.out
          have ek : k = l.length := by omega
          rw [ek] at M ⊢
          have O := own_of_mid (l := hldmarkL q l.length) hldLen (by rw [hldmarkL_len]; exact M) (cap := cap) (by rw [hldmarkL_len]; exact HL.out.room)
          exact ⟨rfl, HT.out, O⟩)
        generalize ((q + 4 * k : Nat) : Int) = qk at *
        go_wp2
        go_ret
        exact HE.out
  · have hz : l = [] := List.eq_nil_of_length_eq_zero (by omega)
    subst hz
    go_enter Tryz.func33, Tryz.ntmps33
    go_wp2
    go_loopw [1, 5] (fun s i wr => s = .int .i64 (q : Int) ∧ i = .int .i64 0 ∧ wr = w) (fun s i wr => 0)
    case atStart => exact ⟨rfl, rfl, rfl⟩
    case round =>
      obtain ⟨rfl, rfl, hw⟩ := hrel
      subst hw
      go_wp2
      go_ret
      exact ⟨by simp, Chq.refl _ _ _, by have := HL.out; simpa [hldmarkL] using this⟩
theorem hldmark_row {q n : Nat} {a : Option Addr} {w : World} (h : RowAt 4 hldCells w a (hldmarkL q n)) (i : Nat) (hi : i < n) : ∃ b off, a = some ⟨b, off, none⟩ ∧ b < w.heap.size ∧ w.cell? ⟨b, off + i * 4, none⟩ = some (.int .i64 (((q + 4 * i : Nat) : Int))) ∧ w.cell? ⟨b, off + i * 4 + 1, none⟩ = some (.string (mkT (q + 4 * i + 1))) ∧ w.cell? ⟨b, off + i * 4 + 2, none⟩ = some (.string (mkT (q + 4 * i + 2))) ∧ w.cell? ⟨b, off + i * 4 + 3, none⟩ = some (.int .i64 (((q + 4 * i : Nat) : Int) + 3)) := by
  obtain ⟨b, off, e, hb, hc⟩ := h i (by rw [hldmarkL_len]; exact hi)
  rw [hldmarkL_get] at hc
  exact ⟨b, off, e, hb, hc 0 _ rfl, hc 1 _ rfl, hc 2 _ rfl, hc 3 _ rfl⟩
set_option maxHeartbeats 8000000 in
theorem heldHoldS_any (a : Option Addr) (n cap : Nat) (q : Nat) (w : World) (hn : n ≤ 10000000) (q0 : 0 < q) (q1 : q ≤ 100000000) (h : RowAt 4 hldCells w a (hldmarkL q n)) :
    Calls Tryz.prog 36 #[.slice a n cap, .int .i64 (q : Int)] w fun e w' => HeldEnd (q + 4 * n) w e w' := by
  have HL : Hid _ := hide h
  clear h
  go_enter Tryz.func36, Tryz.ntmps36
  go_wp2
  go_loopw [1, 5] (fun s i wr => ∃ k : Nat, k ≤ n ∧ i = .int .i64 (k : Int) ∧ s = .int .i64 ((q + 4 * k : Nat) : Int) ∧ Hid (Below w.heap.size w wr)) (fun s i wr => n - (intOf i).toNat)
  case atStart => exact ⟨0, Nat.zero_le _, rfl, by simp, hide (Below.refl _ _)⟩
  case round =>
    obtain ⟨k, hk, rfl, rfl, HB⟩ := hrel
    by_cases hlt : k < n
    · have hlt' : (k : Int) < (n : Int) := by omega
      obtain ⟨b, off, rfl, hb, d0, d1, d2, d3⟩ := hldmark_row (HL.out.below HB.out) k hlt
      have HQK : Hid (0 < q + 4 * k ∧ q + 4 * k ≤ 900000000) := hide (by omega)
      have hqk : ((q + 4 * k : Nat) : Int) ≤ 900000000 := by omega
      generalize hqe : q + 4 * k = qk at *
      have HQE : Hid _ := hide hqe
      clear hqe hb
      have HMT1 : Hid (∀ y : Later wr, Calls Tryz.prog 84 #[.int .i64 ((qk : Int) + 1)] y.w fun e w' => e = .returned (.string (mkT (qk + 1))) ∧ Below y.w.heap.size y.w w') := hide (fun y => by
        have := markText_any (qk + 1) y.w (by have := HQK.out; omega) (by have := HQK.out; omega)
        simpa using this)
      have hcell1 := later_cell d1
      have hne1 : Nonempty (Later wr) := later_there _
      go_wp2_with fail
      refine wp_region_later wr (by kernel_rfl) (by kernel_rfl) ((Below.refl _ _).drew) ?_
      repeat (go_big_quiet_step (first | (go_at_call 84; exact later_of (HMT1.out _))))
      refine wpQuiet_nil ?_
      intro _ hw'
      obtain ⟨nx1, rfl⟩ := hw'
      obtain ⟨x1, hx1⟩ : ∃ x, x = nx1.w := ⟨_, rfl⟩
      have hb1 : Below wr.heap.size wr x1 := hx1 ▸ nx1.below
      rw [← hx1]
      clear HMT1 hcell1 hne1 hx1
      have HB1 : Hid _ := hide (below_trans HB.out hb1)
      replace d2 := below_keeps hb1 _ _ d2
      replace d3 := below_keeps hb1 _ _ d3
      clear hb1 nx1
      have HMT2 : Hid (∀ y : Later x1, Calls Tryz.prog 84 #[.int .i64 ((qk : Int) + 2)] y.w fun e w' => e = .returned (.string (mkT (qk + 2))) ∧ Below y.w.heap.size y.w w') := hide (fun y => by
        have := markText_any (qk + 2) y.w (by have := HQK.out; omega) (by have := HQK.out; omega)
        simpa using this)
      have hcell2 := later_cell d2
      have hne2 : Nonempty (Later x1) := later_there _
      go_wp2_with fail
      refine wp_region_later x1 (by kernel_rfl) (by kernel_rfl) ((Below.refl _ _).drew) ?_
      repeat (go_big_quiet_step (first | (go_at_call 84; exact later_of (HMT2.out _))))
      refine wpQuiet_nil ?_
      intro _ hw'
      obtain ⟨nx2, rfl⟩ := hw'
      obtain ⟨x2, hx2⟩ : ∃ x, x = nx2.w := ⟨_, rfl⟩
      have hb2 : Below x1.heap.size x1 x2 := hx2 ▸ nx2.below
      rw [← hx2]
      clear HMT2 hcell2 hne2 hx2
      have HB2 : Hid _ := hide (below_trans HB1.out hb2)
      replace d3 := below_keeps hb2 _ _ d3
      clear hb2 nx2
      go_wp2
      exact ⟨⟨k + 1, by omega, by go_num, by have := HQE.out; go_num, HB2⟩, by simp [intOf]; omega⟩
    · have hk' : ¬ (k : Int) < (n : Int) := by omega
      have HE : Hid (HeldEnd (q + 4 * n) w (.returned (.int .i64 ((q + 4 * k : Nat) : Int))) wr) := hide ⟨by rw [show k = n by omega], HB.out⟩
      generalize ((q + 4 * k : Nat) : Int) = qk at *
      go_wp2
      go_ret
      exact HE.out
def snmarkL (q n : Nat) : List Sn := (List.range n).map fun (i : Nat) => ⟨((q + 2 * i : Nat) : Int), ((q + 2 * i : Nat) : Int) + 1⟩
theorem snmarkL_len (q n : Nat) : (snmarkL q n).length = n := by simp [snmarkL]
theorem snmarkL_at (q n : Nat) (i : Nat) (h : i < n) : (snmarkL q n)[i]? = some ⟨((q + 2 * i : Nat) : Int), ((q + 2 * i : Nat) : Int) + 1⟩ := by simp [snmarkL, List.getElem?_range h]
theorem snmarkL_get (q n : Nat) (i : Nat) (h : i < (snmarkL q n).length) : (snmarkL q n)[i] = ⟨((q + 2 * i : Nat) : Int), ((q + 2 * i : Nat) : Int) + 1⟩ := by simp [snmarkL]
def markAnsweredSEnd (q : Nat) (g : Nat) (a : Option Addr) (cap n : Nat) (w : World) (e : Ending) (w' : World) : Prop := e = .returned (.int .i64 ((q + 2 * n : Nat) : Int)) ∧ Chq (0 < n) g w w' ∧ OwnRow 2 snCells w' g a cap (snmarkL q n)
set_option maxHeartbeats 8000000 in
theorem markAnsweredS_any (a : Option Addr) (l : List Sn) (cap g : Nat) (q : Nat) (w : World) (hn : l.length ≤ 10000000) (q0 : 0 < q) (q1 : q ≤ 100000000) (h : OwnRow 2 snCells w g a cap l) :
    Calls Tryz.prog 34 #[.slice a l.length cap, .int .i64 (q : Int)] w fun e w' => markAnsweredSEnd q g a cap l.length w e w' := by
  have HL : Hid _ := hide h
  clear h
  by_cases h0 : 0 < l.length
  · have HO : Hid _ := hide (mid_of_own snLen (by decide) (cells := fun i => ((snmarkL q l.length)[i]?).elim [] snCells) HL.out h0)
    obtain ⟨rfl, _⟩ := HL.out.own h0
    go_enter Tryz.func34, Tryz.ntmps34
    go_wp2
    go_loopw [1, 5] (fun s i wr => ∃ k : Nat, k ≤ l.length ∧ i = .int .i64 (k : Int) ∧ s = .int .i64 ((q + 2 * k : Nat) : Int) ∧ Hid (Chq (0 < l.length) g w wr) ∧ Hid (RowMid g l.length 2 (fun i => ((snmarkL q l.length)[i]?).elim [] snCells) k wr)) (fun s i wr => l.length - (intOf i).toNat)
    case atStart => exact ⟨0, Nat.zero_le _, rfl, by simp, hide (Chq.refl _ _ _), HO⟩
    case round =>
      obtain ⟨k, hk, rfl, rfl, HT, HM⟩ := hrel
      by_cases hlt : k < l.length
      · have hlt' : (k : Int) < (l.length : Int) := by omega
        have HQK : Hid (0 < q + 2 * k ∧ q + 2 * k ≤ 900000000) := hide (by omega)
        have hqk : ((q + 2 * k : Nat) : Int) ≤ 900000000 := by omega
        have HAT : Hid _ := hide (snmarkL_at q l.length k hlt)
        generalize hqe : q + 2 * k = qk at *
        have HQE : Hid _ := hide hqe
        clear hqe
        have HP0 : Hid _ := hide HM.out.put
        have HT0 : Hid _ := hide HT.out
        clear HM HT
        have HQ0 : Hid _ := hide HP0.out
        have HU0 : Hid _ := hide HT0.out
        clear HP0 HT0
        obtain ⟨v0, f0⟩ := HQ0.out.there (k * 2) (by omega)
        have z0 := HQ0.out.free (k * 2)
        obtain ⟨v1, f1⟩ := HQ0.out.there (k * 2 + 1) (by omega)
        have z1 := HQ0.out.free (k * 2 + 1)
        have HP1 : Hid _ := hide (HQ0.out.set hlt (by decide) (v := .int .i64 (qk : Int)) (by rw [HAT.out]; simp [snCells]) (o := k * 2) (by omega))
        have HT1 : Hid _ := hide (HU0.out.setCell h0 (o := k * 2) (.int .i64 (qk : Int)))
        clear HQ0 HU0
        have HQ1 : Hid _ := hide HP1.out
        have HU1 : Hid _ := hide HT1.out
        clear HP1 HT1
        have HP2 : Hid _ := hide (HQ1.out.set hlt (by decide) (v := .int .i64 ((qk : Int) + 1)) (by rw [HAT.out]; simp [snCells]) (o := k * 2 + 1) (by omega))
        have HT2 : Hid _ := hide (HU1.out.setCell h0 (o := k * 2 + 1) (.int .i64 ((qk : Int) + 1)))
        clear HQ1 HU1
        have HW : Hid _ := hide HP2.out.whole
        clear HP2
        go_wp2
        exact ⟨⟨k + 1, by omega, by go_num, by have := HQE.out; go_num, HT2, HW⟩, by simp [intOf]; omega⟩
      · have hk' : ¬ (k : Int) < (l.length : Int) := by omega
        have HE : Hid (markAnsweredSEnd q g (some ⟨g, 0, none⟩) cap l.length w (.returned (.int .i64 ((q + 2 * k : Nat) : Int))) wr) := hide (by
          have M := HM.out
          have ek : k = l.length := by omega
          rw [ek] at M ⊢
          have O := own_of_mid (l := snmarkL q l.length) snLen (by rw [snmarkL_len]; exact M) (cap := cap) (by rw [snmarkL_len]; exact HL.out.room)
          exact ⟨rfl, HT.out, O⟩)
        generalize ((q + 2 * k : Nat) : Int) = qk at *
        go_wp2
        go_ret
        exact HE.out
  · have hz : l = [] := List.eq_nil_of_length_eq_zero (by omega)
    subst hz
    go_enter Tryz.func34, Tryz.ntmps34
    go_wp2
    go_loopw [1, 5] (fun s i wr => s = .int .i64 (q : Int) ∧ i = .int .i64 0 ∧ wr = w) (fun s i wr => 0)
    case atStart => exact ⟨rfl, rfl, rfl⟩
    case round =>
      obtain ⟨rfl, rfl, hw⟩ := hrel
      subst hw
      go_wp2
      go_ret
      exact ⟨by simp, Chq.refl _ _ _, by have := HL.out; simpa [snmarkL] using this⟩
theorem snmark_row {q n : Nat} {a : Option Addr} {w : World} (h : RowAt 2 snCells w a (snmarkL q n)) (i : Nat) (hi : i < n) : ∃ b off, a = some ⟨b, off, none⟩ ∧ b < w.heap.size ∧ w.cell? ⟨b, off + i * 2, none⟩ = some (.int .i64 (((q + 2 * i : Nat) : Int))) ∧ w.cell? ⟨b, off + i * 2 + 1, none⟩ = some (.int .i64 (((q + 2 * i : Nat) : Int) + 1)) := by
  obtain ⟨b, off, e, hb, hc⟩ := h i (by rw [snmarkL_len]; exact hi)
  rw [snmarkL_get] at hc
  exact ⟨b, off, e, hb, hc 0 _ rfl, hc 1 _ rfl⟩
set_option maxHeartbeats 8000000 in
theorem heldAnsweredS_any (a : Option Addr) (n cap : Nat) (q : Nat) (w : World) (hn : n ≤ 10000000) (q0 : 0 < q) (q1 : q ≤ 100000000) (h : RowAt 2 snCells w a (snmarkL q n)) :
    Calls Tryz.prog 37 #[.slice a n cap, .int .i64 (q : Int)] w fun e w' => HeldEnd (q + 2 * n) w e w' := by
  have HL : Hid _ := hide h
  clear h
  go_enter Tryz.func37, Tryz.ntmps37
  go_wp2
  go_loopw [1, 5] (fun s i wr => ∃ k : Nat, k ≤ n ∧ i = .int .i64 (k : Int) ∧ s = .int .i64 ((q + 2 * k : Nat) : Int) ∧ Hid (Below w.heap.size w wr)) (fun s i wr => n - (intOf i).toNat)
  case atStart => exact ⟨0, Nat.zero_le _, rfl, by simp, hide (Below.refl _ _)⟩
  case round =>
    obtain ⟨k, hk, rfl, rfl, HB⟩ := hrel
    by_cases hlt : k < n
    · have hlt' : (k : Int) < (n : Int) := by omega
      obtain ⟨b, off, rfl, hb, d0, d1⟩ := snmark_row (HL.out.below HB.out) k hlt
      have HQK : Hid (0 < q + 2 * k ∧ q + 2 * k ≤ 900000000) := hide (by omega)
      have hqk : ((q + 2 * k : Nat) : Int) ≤ 900000000 := by omega
      generalize hqe : q + 2 * k = qk at *
      have HQE : Hid _ := hide hqe
      clear hqe hb
      go_wp2
      exact ⟨⟨k + 1, by omega, by go_num, by have := HQE.out; go_num, HB⟩, by simp [intOf]; omega⟩
    · have hk' : ¬ (k : Int) < (n : Int) := by omega
      have HE : Hid (HeldEnd (q + 2 * n) w (.returned (.int .i64 ((q + 2 * k : Nat) : Int))) wr) := hide ⟨by rw [show k = n by omega], HB.out⟩
      generalize ((q + 2 * k : Nat) : Int) = qk at *
      go_wp2
      go_ret
      exact HE.out
end Go.Proofs.YtoedefamcjnklaaGreatDoor
/- The contracts of the laws' marks of a ledger. -/
namespace Go.Proofs.YtoedefamcjnklaaGreatDoor
open Go.ChangeShapes Go.WideShapes Go.ChangeAt Go.RowKit
set_option linter.unusedVariables false
set_option maxRecDepth 100000
/-- a ledger's three rows, apart where they have elements, between two places -/
structure OwnR (lo hi : Nat) (a1 a2 a3 : Option Addr) (c1 c2 c3 g1 g2 g3 : Nat) (live : List Acc) (safe : List Hld) (ops : List Sn) (x : World) : Prop where
  o1 : OwnRow 4 accCells x g1 a1 c1 live
  o2 : OwnRow 4 hldCells x g2 a2 c2 safe
  o3 : OwnRow 2 snCells x g3 a3 c3 ops
  d12 : 0 < live.length → 0 < safe.length → g1 ≠ g2
  d13 : 0 < live.length → 0 < ops.length → g1 ≠ g3
  d23 : 0 < safe.length → 0 < ops.length → g2 ≠ g3
  i1 : 0 < live.length → lo ≤ g1 ∧ g1 < hi
  i2 : 0 < safe.length → lo ≤ g2 ∧ g2 < hi
  i3 : 0 < ops.length → lo ≤ g3 ∧ g3 < hi
theorem OwnR.below {lo hi : Nat} {a1 a2 a3 : Option Addr} {c1 c2 c3 g1 g2 g3 : Nat} {live : List Acc} {safe : List Hld} {ops : List Sn} {x y : World} (h : OwnR lo hi a1 a2 a3 c1 c2 c3 g1 g2 g3 live safe ops x) (b : Below x.heap.size x y) : OwnR lo hi a1 a2 a3 c1 c2 c3 g1 g2 g3 live safe ops y :=
  ⟨h.o1.below b, h.o2.below b, h.o3.below b, h.d12, h.d13, h.d23, h.i1, h.i2, h.i3⟩
theorem OwnR.led {lo hi : Nat} {a1 a2 a3 : Option Addr} {c1 c2 c3 g1 g2 g3 : Nat} {D : Led} {x : World} (h : OwnR lo hi a1 a2 a3 c1 c2 c3 g1 g2 g3 D.acc D.hold D.seen x) (hw : LedW D) : LedAt x a1 a2 a3 D := ⟨h.o1.rows.acc hw.acc, h.o2.rows.hold hw.hold, h.o3.rows.ans hw.seen⟩
theorem OwnR.none3 {lo hi : Nat} {x : World} : OwnR lo hi none none none 0 0 0 0 0 0 [] [] [] x :=
  ⟨OwnRow.nil (fun _ => rfl), OwnRow.nil (fun _ => rfl), OwnRow.nil (fun _ => rfl), fun h => by simp at h, fun h => by simp at h, fun h => by simp at h, fun h => by simp at h, fun h => by simp at h, fun h => by simp at h⟩
/-- blocks between two places alone may have turned, and new blocks were laid -/
structure Chr (lo hi : Nat) (w w' : World) : Prop where
  os : w'.os = w.os
  tape : w'.tape = w.tape
  output : w'.output = w.output
  size : w.heap.size ≤ w'.heap.size
  block : ∀ k, k < w.heap.size → (k < lo ∨ hi ≤ k) → w'.heap[k]? = w.heap[k]?
theorem Chr.low {lo hi : Nat} {w w' : World} (h : Chr lo hi w w') {B : Nat} (hB : B ≤ lo) (hw : B ≤ w.heap.size) : Below B w w' := ⟨h.os, h.tape, h.output, h.size, fun k hk => h.block k (by omega) (.inl (by omega))⟩
theorem Chr.keep {lo hi : Nat} {x y : World} (h : Chr lo hi x y) {lo2 hi2 : Nat} {a1 a2 a3 : Option Addr} {c1 c2 c3 g1 g2 g3 : Nat} {live : List Acc} {safe : List Hld} {ops : List Sn} (o : OwnR lo2 hi2 a1 a2 a3 c1 c2 c3 g1 g2 g3 live safe ops x) (hd : hi2 ≤ lo ∨ hi ≤ lo2) : OwnR lo2 hi2 a1 a2 a3 c1 c2 c3 g1 g2 g3 live safe ops y :=
  ⟨o.o1.keepB (fun q => h.block _ (o.o1.lt q) (by have := o.i1 q; omega)), o.o2.keepB (fun q => h.block _ (o.o2.lt q) (by have := o.i2 q; omega)), o.o3.keepB (fun q => h.block _ (o.o3.lt q) (by have := o.i3 q; omega)), o.d12, o.d13, o.d23, o.i1, o.i2, o.i3⟩
theorem Chr.blk {lo hi : Nat} {x y : World} (h : Chr lo hi x y) {g : Nat} {cur : List Value} (k : Blk g cur x) (hd : g < lo ∨ hi ≤ g) : Blk g cur y := k.same (h.block g k.lt hd) h.size
def MarkEnd (lo hi q : Nat) (a1 a2 a3 : Option Addr) (c1 c2 c3 g1 g2 g3 n1 n2 n3 : Nat) (w : World) (e : Ending) (w' : World) : Prop :=
  e = .returned (.int .i64 ((q + 4 * n1 + 4 * n2 + 2 * n3 : Nat) : Int)) ∧ Chr lo hi w w' ∧ OwnR lo hi a1 a2 a3 c1 c2 c3 g1 g2 g3 (accmarkL q n1) (hldmarkL (q + 4 * n1) n2) (snmarkL (q + 4 * n1 + 4 * n2) n3) w'
theorem mark_end {lo hi q : Nat} {a1 a2 a3 : Option Addr} {c1 c2 c3 g1 g2 g3 : Nat} {live : List Acc} {safe : List Hld} {ops : List Sn} {w wa w1 w2 w3 : World} (h : OwnR lo hi a1 a2 a3 c1 c2 c3 g1 g2 g3 live safe ops w) (b : Below w.heap.size w wa)
    (q1 : Chq (0 < live.length) g1 wa w1) (r1 : OwnRow 4 accCells w1 g1 a1 c1 (accmarkL q live.length)) (q2 : Chq (0 < safe.length) g2 w1 w2) (r2 : OwnRow 4 hldCells w2 g2 a2 c2 (hldmarkL (q + 4 * live.length) safe.length))
    (q3 : Chq (0 < ops.length) g3 w2 w3) (r3 : OwnRow 2 snCells w3 g3 a3 c3 (snmarkL (q + 4 * live.length + 4 * safe.length) ops.length)) :
    Chr lo hi w w3 ∧ OwnR lo hi a1 a2 a3 c1 c2 c3 g1 g2 g3 (accmarkL q live.length) (hldmarkL (q + 4 * live.length) safe.length) (snmarkL (q + 4 * live.length + 4 * safe.length) ops.length) w3 := by
  have s0 := b.size
  have s1 := q1.size
  have s2 := q2.size
  refine ⟨⟨q3.os.trans (q2.os.trans (q1.os.trans b.os)), q3.tape.trans (q2.tape.trans (q1.tape.trans b.tape)), q3.output.trans (q2.output.trans (q1.output.trans b.output)), by have := q3.size; omega, fun k hk hd => ?_⟩, ?_⟩
  · rw [q3.block k (by omega) (fun p => by have := h.i3 p; omega), q2.block k (by omega) (fun p => by have := h.i2 p; omega), q1.block k (by omega) (fun p => by have := h.i1 p; omega), b.block k hk]
  · refine ⟨r1.keepB (fun p => ?_), r2.keepB (fun p => ?_), r3, ?_, ?_, ?_, ?_, ?_, ?_⟩
    · have l1 := r1.lt p
      rw [accmarkL_len] at p
      rw [q3.block g1 (by omega) (fun z => h.d13 p z), q2.block g1 l1 (fun z => h.d12 p z)]
    · have l2 := r2.lt p
      rw [hldmarkL_len] at p
      exact q3.block g2 l2 (fun z => h.d23 p z)
    · rw [accmarkL_len, hldmarkL_len]; exact h.d12
    · rw [accmarkL_len, snmarkL_len]; exact h.d13
    · rw [hldmarkL_len, snmarkL_len]; exact h.d23
    · rw [accmarkL_len]; exact h.i1
    · rw [hldmarkL_len]; exact h.i2
    · rw [snmarkL_len]; exact h.i3
set_option maxHeartbeats 8000000 in
theorem markLedger_any (lo hi q : Nat) (a1 a2 a3 : Option Addr) (c1 c2 c3 g1 g2 g3 : Nat) (live : List Acc) (safe : List Hld) (ops : List Sn) (w : World) (n1 : live.length ≤ 1048576) (n2 : safe.length ≤ 1048576) (n3 : ops.length ≤ 1048576) (q0 : 0 < q) (q1 : q ≤ 1000)
    (h : OwnR lo hi a1 a2 a3 c1 c2 c3 g1 g2 g3 live safe ops w) :
    Calls Tryz.prog 11 #[.agg #[.slice a1 live.length c1, .slice a2 safe.length c2, .slice a3 ops.length c3], .int .i64 (q : Int)] w fun e w' => MarkEnd lo hi q a1 a2 a3 c1 c2 c3 g1 g2 g3 live.length safe.length ops.length w e w' := by
  have HL : Hid _ := hide h
  clear h
  have KX0 : Hid (Blk w.heap.size [.slice a1 live.length c1, .slice a2 safe.length c2, .slice a3 ops.length c3] (w.alloc (.cells #[.slice a1 live.length c1, .slice a2 safe.length c2, .slice a3 ops.length c3] 35))) := hide Blk.new
  have HX0 : Hid (Below w.heap.size w (w.alloc (.cells #[.slice a1 live.length c1, .slice a2 safe.length c2, .slice a3 ops.length c3] 35))) := hide (below_alloc (Below.refl _ _) _)
  go_enter Tryz.func11, Tryz.ntmps11
  go_wp2_with fail
  generalize w.alloc (.cells #[.slice a1 live.length c1, .slice a2 safe.length c2, .slice a3 ops.length c3] 35) = wa at *
  refine (markAccountS_any a1 live c1 g1 q wa (by omega) q0 (by omega) (HL.out.o1.below HX0.out)).mono ?_
  rintro e w1 ⟨rfl, hc1, ho1⟩
  have HC1 : Hid _ := hide hc1
  have HO1 : Hid _ := hide ho1
  have KX1 : Hid (Blk w.heap.size _ w1) := hide (KX0.out.same (hc1.block _ KX0.out.lt (fun p => by have := HL.out.o1.lt p; omega)) hc1.size)
  clear hc1 ho1 KX0
  have HQ1 : Hid (0 < q + 4 * live.length ∧ q + 4 * live.length ≤ 10000000) := hide (by omega)
  have hq1 : ((q + 4 * live.length : Nat) : Int) ≤ 10000000 := by omega
  obtain ⟨k1, hk1⟩ : ∃ k1, k1 = q + 4 * live.length := ⟨_, rfl⟩
  have HK1 : Hid _ := hide hk1
  rw [← hk1] at HQ1 hq1 ⊢
  clear hk1
  have x1 := KX1.out.c 1 _ rfl
  go_wp2_with fail
  refine (markHoldS_any a2 safe c2 g2 k1 w1 (by omega) HQ1.out.1 (by have := HQ1.out.2; omega) (((HL.out.o2.below HX0.out)).keepB (fun p => HC1.out.block g2 (by have := HL.out.o2.lt p; have := HX0.out.size; omega) (fun z e => HL.out.d12 z p e.symm)))).mono ?_
  rintro e w2 ⟨rfl, hc2, ho2⟩
  have HC2 : Hid _ := hide hc2
  have HO2 : Hid _ := hide ho2
  have KX2 : Hid (Blk w.heap.size _ w2) := hide (KX1.out.same (hc2.block _ KX1.out.lt (fun p => by have := HL.out.o2.lt p; omega)) hc2.size)
  clear hc2 ho2 KX1 x1
  have HQ2 : Hid (0 < k1 + 4 * safe.length ∧ k1 + 4 * safe.length ≤ 20000000) := hide (by have := HQ1.out; omega)
  have hq2 : ((k1 + 4 * safe.length : Nat) : Int) ≤ 20000000 := by have := HQ2.out; omega
  obtain ⟨k2, hk2⟩ : ∃ k2, k2 = k1 + 4 * safe.length := ⟨_, rfl⟩
  have HK2 : Hid _ := hide hk2
  rw [← hk2] at HQ2 hq2 ⊢
  clear hk2
  have x2 := KX2.out.c 2 _ rfl
  go_wp2_with fail
  refine (markAnsweredS_any a3 ops c3 g3 k2 w2 (by omega) HQ2.out.1 (by have := HQ2.out.2; omega) (((HL.out.o3.below HX0.out)).keepB (fun p => by
    have l3 := HL.out.o3.lt p
    have s0 := HX0.out.size
    have s1 := HC1.out.size
    rw [HC2.out.block g3 (by omega) (fun z e => HL.out.d23 z p e.symm), HC1.out.block g3 (by omega) (fun z e => HL.out.d13 z p e.symm)]))).mono ?_
  rintro e w3 ⟨rfl, hc3, ho3⟩
  have HE : Hid (MarkEnd lo hi q a1 a2 a3 c1 c2 c3 g1 g2 g3 live.length safe.length ops.length w (.returned (.int .i64 ((k2 + 2 * ops.length : Nat) : Int))) w3) := hide (by
    have e2 := HK2.out
    have e1 := HK1.out
    subst e2 e1
    obtain ⟨m1, m2⟩ := mark_end HL.out HX0.out HC1.out HO1.out HC2.out HO2.out hc3 ho3
    exact ⟨rfl, m1, m2⟩)
  clear hc3 ho3
  generalize ((k2 + 2 * ops.length : Nat) : Int) = k3 at *
  go_wp2
  go_ret
  exact HE.out
set_option maxHeartbeats 8000000 in
theorem heldLedger_any (q : Nat) (a1 a2 a3 : Option Addr) (c1 c2 c3 n1 n2 n3 : Nat) (w : World) (m1 : n1 ≤ 1048576) (m2 : n2 ≤ 1048576) (m3 : n3 ≤ 1048576) (q0 : 0 < q) (q1 : q ≤ 1000)
    (h : RowAt 4 accCells w a1 (accmarkL q n1) ∧ RowAt 4 hldCells w a2 (hldmarkL (q + 4 * n1) n2) ∧ RowAt 2 snCells w a3 (snmarkL (q + 4 * n1 + 4 * n2) n3)) :
    Calls Tryz.prog 12 #[.agg #[.slice a1 n1 c1, .slice a2 n2 c2, .slice a3 n3 c3], .int .i64 (q : Int)] w fun e w' => HeldEnd (q + 4 * n1 + 4 * n2 + 2 * n3) w e w' := by
  have HL : Hid _ := hide h
  clear h
  have KX0 : Hid (Blk w.heap.size [.slice a1 n1 c1, .slice a2 n2 c2, .slice a3 n3 c3] (w.alloc (.cells #[.slice a1 n1 c1, .slice a2 n2 c2, .slice a3 n3 c3] 35))) := hide Blk.new
  have HX0 : Hid (Below w.heap.size w (w.alloc (.cells #[.slice a1 n1 c1, .slice a2 n2 c2, .slice a3 n3 c3] 35))) := hide (below_alloc (Below.refl _ _) _)
  go_enter Tryz.func12, Tryz.ntmps12
  go_wp2_with fail
  generalize w.alloc (.cells #[.slice a1 n1 c1, .slice a2 n2 c2, .slice a3 n3 c3] 35) = wa at *
  refine (heldAccountS_any a1 n1 c1 q wa (by omega) q0 (by omega) (HL.out.1.below HX0.out)).mono ?_
  rintro e w1 ⟨rfl, hb1⟩
  have HX1 : Hid _ := hide (below_trans HX0.out hb1)
  have KX1 : Hid _ := hide (KX0.out.below hb1)
  clear hb1 HX0 KX0
  have HQ1 : Hid (0 < q + 4 * n1 ∧ q + 4 * n1 ≤ 10000000) := hide (by omega)
  have hq1 : ((q + 4 * n1 : Nat) : Int) ≤ 10000000 := by omega
  obtain ⟨k1, hk1⟩ : ∃ k1, k1 = q + 4 * n1 := ⟨_, rfl⟩
  rw [← hk1] at HQ1 hq1 HL ⊢
  have HK1 : Hid _ := hide hk1
  clear hk1
  have x1 := KX1.out.c 1 _ rfl
  have j1 : ¬ ((k1 : Int) < 0) := by omega
  go_wp2_with fail
  refine (heldHoldS_any a2 n2 c2 k1 w1 (by omega) HQ1.out.1 (by have := HQ1.out.2; omega) (HL.out.2.1.below HX1.out)).mono ?_
  rintro e w2 ⟨rfl, hb2⟩
  have HX2 : Hid _ := hide (below_trans HX1.out hb2)
  have KX2 : Hid _ := hide (KX1.out.below hb2)
  clear hb2 HX1 KX1 x1 j1
  have HQ2 : Hid (0 < k1 + 4 * n2 ∧ k1 + 4 * n2 ≤ 20000000) := hide (by have := HQ1.out; omega)
  have hq2 : ((k1 + 4 * n2 : Nat) : Int) ≤ 20000000 := by have := HQ2.out; omega
  obtain ⟨k2, hk2⟩ : ∃ k2, k2 = k1 + 4 * n2 := ⟨_, rfl⟩
  rw [← hk2] at HQ2 hq2 HL ⊢
  have HK2 : Hid _ := hide hk2
  clear hk2
  have x2 := KX2.out.c 2 _ rfl
  have j2 : ¬ ((k2 : Int) < 0) := by omega
  go_wp2_with fail
  refine (heldAnsweredS_any a3 n3 c3 k2 w2 (by omega) HQ2.out.1 (by have := HQ2.out.2; omega) (HL.out.2.2.below HX2.out)).mono ?_
  rintro e w3 ⟨rfl, hb3⟩
  have HE : Hid (HeldEnd (q + 4 * n1 + 4 * n2 + 2 * n3) w (.returned (.int .i64 ((k2 + 2 * n3 : Nat) : Int))) w3) := hide ⟨by rw [HK2.out, HK1.out], below_trans HX2.out hb3⟩
  clear hb3
  have hq3 : ((k2 + 2 * n3 : Nat) : Int) ≤ 30000000 := by have := HQ2.out; omega
  have j3 : ¬ (((k2 + 2 * n3 : Nat) : Int) < 0) := by omega
  obtain ⟨k3, hk3⟩ : ∃ k3, k3 = k2 + 2 * n3 := ⟨_, rfl⟩
  rw [← hk3] at hq3 j3 ⊢
  rw [← hk3] at HE
  clear hk3
  go_wp2
  go_ret
  exact HE.out
end Go.Proofs.YtoedefamcjnklaaGreatDoor
/- The contract of the laws' toLedger: a ledger of the call's own, that may be written. -/
namespace Go.Proofs.YtoedefamcjnklaaGreatDoor
open Go.ChangeShapes Go.WideShapes Go.ChangeAt Go.RowKit
set_option linter.unusedVariables false
theorem OwnRow.setO {A : Type} {sz : Nat} {f : A → List Value} {w : World} {g : Nat} {a : Option Addr} {cap : Nat} {l : List A} (h : OwnRow sz f w g a cap l) {b o : Nat} {u : Value} (hne : b ≠ g) : OwnRow sz f (w.setCell ⟨b, o, none⟩ u) g a cap l := h.keepB (fun _ => Below.heap_setCell _ _ _ _ (fun e => hne e.symm))
def ToLedO (L : Led) (w : World) (e : Ending) (w' : World) : Prop := Below w.heap.size w w' ∧ ∃ g1 g2 g3, e = .returned (.agg #[.slice (some ⟨g1, 0, none⟩) L.acc.length L.acc.length, .slice (some ⟨g2, 0, none⟩) L.hold.length L.hold.length, .slice (some ⟨g3, 0, none⟩) L.seen.length L.seen.length]) ∧ OwnR w.heap.size w'.heap.size (some ⟨g1, 0, none⟩) (some ⟨g2, 0, none⟩) (some ⟨g3, 0, none⟩) L.acc.length L.hold.length L.seen.length g1 g2 g3 L.acc L.hold L.seen w'
/-- a row of the call's own that reads as the list -/
def ToAccountO (l : List Acc) (w : World) (e : Ending) (w' : World) : Prop := Below w.heap.size w w' ∧ ∃ g, w.heap.size ≤ g ∧ e = .returned (.slice (some ⟨g, 0, none⟩) l.length l.length) ∧ OwnRow 4 accCells w' g (some ⟨g, 0, none⟩) l.length l
set_option maxRecDepth 100000 in
set_option maxHeartbeats 2000000 in
theorem toAccountS_own (a : Option Addr) (l : List Acc) (cap : Nat) (w : World) (hn : l.length ≤ 1048576) (h : AccAt w a l) :
    Calls Tryz.prog 18 #[.slice a l.length cap] w fun e w' => ToAccountO l w e w' := by
  obtain ⟨i0, hi, hz0, hz1, hz2⟩ := info_parts info44
  have HL : Hid _ := hide h
  clear h
  have uS : Tryz.prog.underlying 31 = some (.slice 73) := by kernel_rfl
  go_enter Tryz.func18, Tryz.ntmps18
  go_wp2_with (first | (at_make; refine Shut2.mk ?_) | go_in)
  refine Shut2.mk' ?_
  refine wpList_make_full _ rfl _ _ 31 rfl w.heap.size 73 i0 _ 4 uS hi hz0 hz1 .i64 .i64 _ _ l.length rfl rfl rfl rfl (by rw [hz2]; omega) (by unfold maxLen; omega) (Nat.le_refl _) ?_
  intro w0 hown hgrow
  have HB0 : Hid (Below w.heap.size w w0) := hide ((Below.refl _ _).grown hgrow (Nat.le_refl _) (fun j hj => by cases hj))
  have HM0 : Hid _ := hide (rowMid_made (cells := (fun i => (l[i]?).elim [] accCells)) hown)
  clear hown hgrow
  go_wp2
  go_loopw [4] (fun i wr => ∃ k : Nat, k ≤ l.length ∧ i = .int .i64 (k : Int) ∧ Below w.heap.size w wr ∧ Hid (RowMid w.heap.size l.length 4 (fun i => (l[i]?).elim [] accCells) k wr)) (fun i wr => l.length - (intOf i).toNat)
  case atStart => exact ⟨0, Nat.zero_le _, rfl, HB0.out, HM0⟩
  case round =>
    obtain ⟨k, hk, rfl, HB, HM⟩ := hrel
    by_cases hlt : k < l.length
    · obtain ⟨b, off, rfl, hb, d0, d1, d2, d3, s1, s2, _, _⟩ := (HL.out.below HB) k hlt
      have hlt' : (k : Int) < (l.length : Int) := by omega
      go_wp2_with fail
      refine (toAccount_any _ _ _ _ wr).mono ?_
      rintro e w1 ⟨rfl, hb1⟩
      have hM1 := HM.out.below hb1
      have HP : Hid _ := hide ((((((HM.out.below hb1).put).set hlt (by decide) (v := .string (l[k]).name) (by simp [List.getElem?_eq_getElem hlt, accCells]) rfl).set hlt (by decide) (v := .string (l[k]).cur) (by simp [List.getElem?_eq_getElem hlt, accCells]) rfl).set hlt (by decide) (v := .int .i64 (l[k]).limit) (by simp [List.getElem?_eq_getElem hlt, accCells]) rfl).set hlt (by decide) (v := .int .i64 (l[k]).posted) (by simp [List.getElem?_eq_getElem hlt, accCells]) rfl).whole
      have HB1 : Hid _ := hide (below_trans HB hb1)
      obtain ⟨v0, f0⟩ := hM1.there (k * 4 + 0) (by omega)
      obtain ⟨v1, f1⟩ := hM1.there (k * 4 + 1) (by omega)
      obtain ⟨v2, f2⟩ := hM1.there (k * 4 + 2) (by omega)
      obtain ⟨v3, f3⟩ := hM1.there (k * 4 + 3) (by omega)
      have z0 := hM1.free (k * 4 + 0)
      have z1 := hM1.free (k * 4 + 1)
      have z2 := hM1.free (k * 4 + 2)
      have z3 := hM1.free (k * 4 + 3)
      simp only [Nat.add_zero] at f0 z0
      clear hM1 hb1
      go_wp2
      exact ⟨⟨k + 1, by omega, by go_num, ((((HB1.out.setCell (Nat.le_refl _) _).setCell (Nat.le_refl _) _).setCell (Nat.le_refl _) _).setCell (Nat.le_refl _) _), HP⟩, by simp [intOf]; omega⟩
    · have hk' : ¬ (k : Int) < (l.length : Int) := by omega
      have HE : Hid (ToAccountO l w (.returned (.slice (some ⟨w.heap.size, 0, none⟩) l.length l.length)) wr) := hide (by
        have M := HM.out
        rw [show k = l.length by omega] at M
        exact ⟨HB, w.heap.size, Nat.le_refl _, rfl, own_of_mid accLen M (Nat.le_refl _)⟩)
      go_wp2
      go_ret
      exact HE.out
/-- a row of the call's own that reads as the list -/
def ToHoldO (l : List Hld) (w : World) (e : Ending) (w' : World) : Prop := Below w.heap.size w w' ∧ ∃ g, w.heap.size ≤ g ∧ e = .returned (.slice (some ⟨g, 0, none⟩) l.length l.length) ∧ OwnRow 4 hldCells w' g (some ⟨g, 0, none⟩) l.length l
set_option maxRecDepth 100000 in
set_option maxHeartbeats 2000000 in
theorem toHoldS_own (a : Option Addr) (l : List Hld) (cap : Nat) (w : World) (hn : l.length ≤ 1048576) (h : HoldAt w a l) :
    Calls Tryz.prog 19 #[.slice a l.length cap] w fun e w' => ToHoldO l w e w' := by
  obtain ⟨i0, hi, hz0, hz1, hz2⟩ := info_parts info46
  have HL : Hid _ := hide h
  clear h
  have uS : Tryz.prog.underlying 32 = some (.slice 74) := by kernel_rfl
  go_enter Tryz.func19, Tryz.ntmps19
  go_wp2_with (first | (at_make; refine Shut2.mk ?_) | go_in)
  refine Shut2.mk' ?_
  refine wpList_make_full _ rfl _ _ 32 rfl w.heap.size 74 i0 _ 4 uS hi hz0 hz1 .i64 .i64 _ _ l.length rfl rfl rfl rfl (by rw [hz2]; omega) (by unfold maxLen; omega) (Nat.le_refl _) ?_
  intro w0 hown hgrow
  have HB0 : Hid (Below w.heap.size w w0) := hide ((Below.refl _ _).grown hgrow (Nat.le_refl _) (fun j hj => by cases hj))
  have HM0 : Hid _ := hide (rowMid_made (cells := (fun i => (l[i]?).elim [] hldCells)) hown)
  clear hown hgrow
  go_wp2
  go_loopw [4] (fun i wr => ∃ k : Nat, k ≤ l.length ∧ i = .int .i64 (k : Int) ∧ Below w.heap.size w wr ∧ Hid (RowMid w.heap.size l.length 4 (fun i => (l[i]?).elim [] hldCells) k wr)) (fun i wr => l.length - (intOf i).toNat)
  case atStart => exact ⟨0, Nat.zero_le _, rfl, HB0.out, HM0⟩
  case round =>
    obtain ⟨k, hk, rfl, HB, HM⟩ := hrel
    by_cases hlt : k < l.length
    · obtain ⟨b, off, rfl, hb, d0, d1, d2, d3, s1, s2, _, _⟩ := (HL.out.below HB) k hlt
      have hlt' : (k : Int) < (l.length : Int) := by omega
      go_wp2_with fail
      refine (toHold_any _ _ _ _ wr).mono ?_
      rintro e w1 ⟨rfl, hb1⟩
      have hM1 := HM.out.below hb1
      have HP : Hid _ := hide ((((((HM.out.below hb1).put).set hlt (by decide) (v := .int .i64 (l[k]).id) (by simp [List.getElem?_eq_getElem hlt, hldCells]) rfl).set hlt (by decide) (v := .string (l[k]).fr) (by simp [List.getElem?_eq_getElem hlt, hldCells]) rfl).set hlt (by decide) (v := .string (l[k]).to) (by simp [List.getElem?_eq_getElem hlt, hldCells]) rfl).set hlt (by decide) (v := .int .i64 (l[k]).amount) (by simp [List.getElem?_eq_getElem hlt, hldCells]) rfl).whole
      have HB1 : Hid _ := hide (below_trans HB hb1)
      obtain ⟨v0, f0⟩ := hM1.there (k * 4 + 0) (by omega)
      obtain ⟨v1, f1⟩ := hM1.there (k * 4 + 1) (by omega)
      obtain ⟨v2, f2⟩ := hM1.there (k * 4 + 2) (by omega)
      obtain ⟨v3, f3⟩ := hM1.there (k * 4 + 3) (by omega)
      have z0 := hM1.free (k * 4 + 0)
      have z1 := hM1.free (k * 4 + 1)
      have z2 := hM1.free (k * 4 + 2)
      have z3 := hM1.free (k * 4 + 3)
      simp only [Nat.add_zero] at f0 z0
      clear hM1 hb1
      go_wp2
      exact ⟨⟨k + 1, by omega, by go_num, ((((HB1.out.setCell (Nat.le_refl _) _).setCell (Nat.le_refl _) _).setCell (Nat.le_refl _) _).setCell (Nat.le_refl _) _), HP⟩, by simp [intOf]; omega⟩
    · have hk' : ¬ (k : Int) < (l.length : Int) := by omega
      have HE : Hid (ToHoldO l w (.returned (.slice (some ⟨w.heap.size, 0, none⟩) l.length l.length)) wr) := hide (by
        have M := HM.out
        rw [show k = l.length by omega] at M
        exact ⟨HB, w.heap.size, Nat.le_refl _, rfl, own_of_mid hldLen M (Nat.le_refl _)⟩)
      go_wp2
      go_ret
      exact HE.out
/-- a row of the call's own that reads as the list -/
def ToAnsweredO (l : List Sn) (w : World) (e : Ending) (w' : World) : Prop := Below w.heap.size w w' ∧ ∃ g, w.heap.size ≤ g ∧ e = .returned (.slice (some ⟨g, 0, none⟩) l.length l.length) ∧ OwnRow 2 snCells w' g (some ⟨g, 0, none⟩) l.length l
set_option maxRecDepth 100000 in
set_option maxHeartbeats 2000000 in
theorem toAnsweredS_own (a : Option Addr) (l : List Sn) (cap : Nat) (w : World) (hn : l.length ≤ 1048576) (h : AnsAt w a l) :
    Calls Tryz.prog 20 #[.slice a l.length cap] w fun e w' => ToAnsweredO l w e w' := by
  obtain ⟨i0, hi, hz0, hz1, hz2⟩ := info_parts info51
  have HL : Hid _ := hide h
  clear h
  have uS : Tryz.prog.underlying 33 = some (.slice 80) := by kernel_rfl
  go_enter Tryz.func20, Tryz.ntmps20
  go_wp2_with (first | (at_make; refine Shut2.mk ?_) | go_in)
  refine Shut2.mk' ?_
  refine wpList_make_full _ rfl _ _ 33 rfl w.heap.size 80 i0 _ 2 uS hi hz0 hz1 .i64 .i64 _ _ l.length rfl rfl rfl rfl (by rw [hz2]; omega) (by unfold maxLen; omega) (Nat.le_refl _) ?_
  intro w0 hown hgrow
  have HB0 : Hid (Below w.heap.size w w0) := hide ((Below.refl _ _).grown hgrow (Nat.le_refl _) (fun j hj => by cases hj))
  have HM0 : Hid _ := hide (rowMid_made (cells := (fun i => (l[i]?).elim [] snCells)) hown)
  clear hown hgrow
  go_wp2
  go_loopw [4] (fun i wr => ∃ k : Nat, k ≤ l.length ∧ i = .int .i64 (k : Int) ∧ Below w.heap.size w wr ∧ Hid (RowMid w.heap.size l.length 2 (fun i => (l[i]?).elim [] snCells) k wr)) (fun i wr => l.length - (intOf i).toNat)
  case atStart => exact ⟨0, Nat.zero_le _, rfl, HB0.out, HM0⟩
  case round =>
    obtain ⟨k, hk, rfl, HB, HM⟩ := hrel
    by_cases hlt : k < l.length
    · obtain ⟨b, off, rfl, hb, d0, d1, _, _⟩ := (HL.out.below HB) k hlt
      have hlt' : (k : Int) < (l.length : Int) := by omega
      go_wp2_with fail
      refine (toAnswered_any _ _ wr).mono ?_
      rintro e w1 ⟨rfl, hb1⟩
      have hM1 := HM.out.below hb1
      have HP : Hid _ := hide ((((HM.out.below hb1).put).set hlt (by decide) (v := .int .i64 (l[k]).id) (by simp [List.getElem?_eq_getElem hlt, snCells]) rfl).set hlt (by decide) (v := .int .i64 (l[k]).code) (by simp [List.getElem?_eq_getElem hlt, snCells]) rfl).whole
      have HB1 : Hid _ := hide (below_trans HB hb1)
      obtain ⟨v0, f0⟩ := hM1.there (k * 2 + 0) (by omega)
      obtain ⟨v1, f1⟩ := hM1.there (k * 2 + 1) (by omega)
      have z0 := hM1.free (k * 2 + 0)
      have z1 := hM1.free (k * 2 + 1)
      simp only [Nat.add_zero] at f0 z0
      clear hM1 hb1
      go_wp2
      exact ⟨⟨k + 1, by omega, by go_num, ((HB1.out.setCell (Nat.le_refl _) _).setCell (Nat.le_refl _) _), HP⟩, by simp [intOf]; omega⟩
    · have hk' : ¬ (k : Int) < (l.length : Int) := by omega
      have HE : Hid (ToAnsweredO l w (.returned (.slice (some ⟨w.heap.size, 0, none⟩) l.length l.length)) wr) := hide (by
        have M := HM.out
        rw [show k = l.length by omega] at M
        exact ⟨HB, w.heap.size, Nat.le_refl _, rfl, own_of_mid snLen M (Nat.le_refl _)⟩)
      go_wp2
      go_ret
      exact HE.out
set_option maxRecDepth 100000 in
set_option maxHeartbeats 4000000 in
theorem toLedger_own (a h s : Option Addr) (L : Led) (ca ch cs : Nat) (w : World) (hl : LedAt w a h s L) (n1 : L.acc.length ≤ 1048576) (n2 : L.hold.length ≤ 1048576) (n3 : L.seen.length ≤ 1048576) :
    Calls Tryz.prog 7 #[.agg #[.slice a L.acc.length ca, .slice h L.hold.length ch, .slice s L.seen.length cs]] w fun e w' => ToLedO L w e w' := by
  have HL : Hid _ := hide hl
  clear hl
  have HM0 : Hid _ := hide (ledMid_start w (.slice a L.acc.length ca) (.slice h L.hold.length ch) (.slice s L.seen.length cs))
  go_enter Tryz.func7, Tryz.ntmps7
  go_wp2_with fail
  refine (toAccountS_own _ L.acc _ _ n1 (HL.out.acc.below HM0.out.old)).mono ?_
  rintro e w1 ⟨hb1, g1, hg1, rfl, ha1⟩
  have hM1 := HM0.out.below hb1
  have hw1 := hM1.lt
  have k1 : w.heap.size + 1 + 1 < g1 := Nat.lt_of_lt_of_le HM0.out.lt hg1
  have HM1 : Hid _ := hide (hM1.set0 (.slice (some ⟨g1, 0, none⟩) L.acc.length L.acc.length))
  have HA1 : Hid _ := hide (ha1.setO (o := 0) (b := w.heap.size + 1 + 1) (u := .slice (some ⟨g1, 0, none⟩) L.acc.length L.acc.length) (by omega))
  have y0 := hM1.c0
  have z0 := hM1.f2 0
  clear hb1 ha1 hg1 hM1
  have x1 := HM1.out.a1
  go_wp2_with fail
  refine (toHoldS_own _ L.hold _ _ n2 (HL.out.hold.below HM1.out.old)).mono ?_
  rintro e w2 ⟨hb2, g2, hg2, rfl, ha2⟩
  have hM2 := HM1.out.below hb2
  have k2 : w.heap.size + 1 + 1 < g2 := Nat.lt_of_lt_of_le HM1.out.lt hg2
  have HM2 : Hid _ := hide (hM2.set1 (.slice (some ⟨g2, 0, none⟩) L.hold.length L.hold.length))
  have HA2 : Hid _ := hide ((HA1.out.below hb2).setO (o := 1) (b := w.heap.size + 1 + 1) (u := .slice (some ⟨g2, 0, none⟩) L.hold.length L.hold.length) (by omega))
  have HH2 : Hid _ := hide (ha2.setO (o := 1) (b := w.heap.size + 1 + 1) (u := .slice (some ⟨g2, 0, none⟩) L.hold.length L.hold.length) (by omega))
  clear y0 z0 x1
  have y0 := hM2.c1
  have z0 := hM2.f2 1
  have HD12 : Hid (0 < L.acc.length → g1 < g2) := hide (fun q => Nat.lt_of_lt_of_le (HA1.out.lt q) hg2)
  clear hb2 ha2 hg2 hM2 HM1 HA1
  have x1 := HM2.out.a2
  go_wp2_with fail
  refine (toAnsweredS_own _ L.seen _ _ n3 (HL.out.seen.below HM2.out.old)).mono ?_
  rintro e w3 ⟨hb3, g3, hg3, rfl, ha3⟩
  have hM3 := HM2.out.below hb3
  have k3 : w.heap.size + 1 + 1 < g3 := Nat.lt_of_lt_of_le HM2.out.lt hg3
  have HM3 : Hid _ := hide (hM3.set2 (.slice (some ⟨g3, 0, none⟩) L.seen.length L.seen.length))
  have HA3 : Hid _ := hide ((HA2.out.below hb3).setO (o := 2) (b := w.heap.size + 1 + 1) (u := .slice (some ⟨g3, 0, none⟩) L.seen.length L.seen.length) (by omega))
  have HH3 : Hid _ := hide ((HH2.out.below hb3).setO (o := 2) (b := w.heap.size + 1 + 1) (u := .slice (some ⟨g3, 0, none⟩) L.seen.length L.seen.length) (by omega))
  have HS3 : Hid _ := hide (ha3.setO (o := 2) (b := w.heap.size + 1 + 1) (u := .slice (some ⟨g3, 0, none⟩) L.seen.length L.seen.length) (by omega))
  clear y0 z0 x1
  have y0 := hM3.c2
  have z0 := hM3.f2 2
  have HD13 : Hid (0 < L.acc.length → g1 < g3) := hide (fun q => Nat.lt_of_lt_of_le (HA2.out.lt q) hg3)
  have HD23 : Hid (0 < L.hold.length → g2 < g3) := hide (fun q => Nat.lt_of_lt_of_le (HH2.out.lt q) hg3)
  clear hb3 ha3 hg3 hM3 HM2 HA2 HH2
  obtain ⟨t0, q0⟩ := HM3.out.r 0 (by decide)
  obtain ⟨t1, q1⟩ := HM3.out.r 1 (by decide)
  obtain ⟨t2, q2⟩ := HM3.out.r 2 (by decide)
  have c0 := HM3.out.c0
  have c1 := HM3.out.c1
  have c2 := HM3.out.c2
  have f0 := HM3.out.f1 0
  have f1 := HM3.out.f1 1
  have f2 := HM3.out.f1 2
  obtain ⟨e0, e1, e2⟩ := three_set (u0 := .slice (some ⟨g1, 0, none⟩) L.acc.length L.acc.length) (u1 := .slice (some ⟨g2, 0, none⟩) L.hold.length L.hold.length) (u2 := .slice (some ⟨g3, 0, none⟩) L.seen.length L.seen.length) q0 q1 q2
  have HEnd : Hid (ToLedO L w (.returned (.agg #[.slice (some ⟨g1, 0, none⟩) L.acc.length L.acc.length, .slice (some ⟨g2, 0, none⟩) L.hold.length L.hold.length, .slice (some ⟨g3, 0, none⟩) L.seen.length L.seen.length])) _) := hide ⟨((HM3.out.old.setCell (p := ⟨w.heap.size + 1, 0, none⟩) (by show w.heap.size ≤ w.heap.size + 1; omega) (.slice (some ⟨g1, 0, none⟩) L.acc.length L.acc.length)).setCell (p := ⟨w.heap.size + 1, 1, none⟩) (by show w.heap.size ≤ w.heap.size + 1; omega) (.slice (some ⟨g2, 0, none⟩) L.hold.length L.hold.length)).setCell (p := ⟨w.heap.size + 1, 2, none⟩) (by show w.heap.size ≤ w.heap.size + 1; omega) (.slice (some ⟨g3, 0, none⟩) L.seen.length L.seen.length), g1, g2, g3, rfl, (by
    have o1 := ((HA3.out.setO (o := 0) (b := w.heap.size + 1) (u := .slice (some ⟨g1, 0, none⟩) L.acc.length L.acc.length) (by omega)).setO (o := 1) (b := w.heap.size + 1) (u := .slice (some ⟨g2, 0, none⟩) L.hold.length L.hold.length) (by omega)).setO (o := 2) (b := w.heap.size + 1) (u := .slice (some ⟨g3, 0, none⟩) L.seen.length L.seen.length) (by omega)
    have o2 := ((HH3.out.setO (o := 0) (b := w.heap.size + 1) (u := .slice (some ⟨g1, 0, none⟩) L.acc.length L.acc.length) (by omega)).setO (o := 1) (b := w.heap.size + 1) (u := .slice (some ⟨g2, 0, none⟩) L.hold.length L.hold.length) (by omega)).setO (o := 2) (b := w.heap.size + 1) (u := .slice (some ⟨g3, 0, none⟩) L.seen.length L.seen.length) (by omega)
    have o3 := ((HS3.out.setO (o := 0) (b := w.heap.size + 1) (u := .slice (some ⟨g1, 0, none⟩) L.acc.length L.acc.length) (by omega)).setO (o := 1) (b := w.heap.size + 1) (u := .slice (some ⟨g2, 0, none⟩) L.hold.length L.hold.length) (by omega)).setO (o := 2) (b := w.heap.size + 1) (u := .slice (some ⟨g3, 0, none⟩) L.seen.length L.seen.length) (by omega)
    exact ⟨o1, o2, o3, fun q _ => Nat.ne_of_lt (HD12.out q), fun q _ => Nat.ne_of_lt (HD13.out q), fun q _ => Nat.ne_of_lt (HD23.out q), fun q => ⟨by omega, o1.lt q⟩, fun q => ⟨by omega, o2.lt q⟩, fun q => ⟨by omega, o3.lt q⟩⟩)⟩
  go_wp2
  exact bodyPost_ret (v := .agg #[.slice (some ⟨g1, 0, none⟩) L.acc.length L.acc.length, .slice (some ⟨g2, 0, none⟩) L.hold.length L.hold.length, .slice (some ⟨g3, 0, none⟩) L.seen.length L.seen.length]) (by simp [results, Tryz.results7, go_sem, e0, e1, e2]) rfl HEnd.out
end Go.Proofs.YtoedefamcjnklaaGreatDoor
