/- What a command makes of a ledger, as data. -/
import Derived.Test.YteaopalhbnhbaaaGreatDoorCmD
import Derived.Test.YteaopalhbnhbaaaGreatDoorSOk
import Derived.Test.YteaopalhbnhbaaaGreatDoorClone
namespace Go.Proofs.YteaopalhbnhbaaaGreatDoor
open Go.ChangeShapes Go.WideShapes Go.ChangeAt Go.RowKit
set_option linter.unusedVariables false
set_option maxRecDepth 100000
theorem accLen (x : Acc) : (accCells x).length = 4 := rfl
theorem hldLen (x : Hld) : (hldCells x).length = 4 := rfl
theorem snLen (x : Sn) : (snCells x).length = 2 := rfl
def AccW (x : Acc) : Prop := x.name.size ≤ maxLen ∧ x.cur.size ≤ maxLen ∧ I64 x.limit ∧ I64 x.posted
def HldW (x : Hld) : Prop := x.fr.size ≤ maxLen ∧ x.to.size ≤ maxLen ∧ I64 x.id ∧ I64 x.amount
def SnW (x : Sn) : Prop := I64 x.id ∧ I64 x.code
/-- a ledger whose texts and numbers fit -/
structure LedW (L : Led) : Prop where
  acc : ∀ x ∈ L.acc, AccW x
  hold : ∀ x ∈ L.hold, HldW x
  seen : ∀ x ∈ L.seen, SnW x
theorem AccAt.row {w : World} {a : Option Addr} {l : List Acc} (h : AccAt w a l) : RowAt 4 accCells w a l := fun i hi => by
  obtain ⟨b, off, e, hb, h0, h1, h2, h3, _⟩ := h i hi
  exact ⟨b, off, e, hb, fun r v hv => by
    match r, hv with
    | 0, hv => simp [accCells] at hv; rw [← hv]; exact h0
    | 1, hv => simp [accCells] at hv; rw [← hv]; exact h1
    | 2, hv => simp [accCells] at hv; rw [← hv]; exact h2
    | 3, hv => simp [accCells] at hv; rw [← hv]; exact h3⟩
theorem HoldAt.row {w : World} {a : Option Addr} {l : List Hld} (h : HoldAt w a l) : RowAt 4 hldCells w a l := fun i hi => by
  obtain ⟨b, off, e, hb, h0, h1, h2, h3, _⟩ := h i hi
  exact ⟨b, off, e, hb, fun r v hv => by
    match r, hv with
    | 0, hv => simp [hldCells] at hv; rw [← hv]; exact h0
    | 1, hv => simp [hldCells] at hv; rw [← hv]; exact h1
    | 2, hv => simp [hldCells] at hv; rw [← hv]; exact h2
    | 3, hv => simp [hldCells] at hv; rw [← hv]; exact h3⟩
theorem AnsAt.row {w : World} {a : Option Addr} {l : List Sn} (h : AnsAt w a l) : RowAt 2 snCells w a l := fun i hi => by
  obtain ⟨b, off, e, hb, h0, h1, _⟩ := h i hi
  exact ⟨b, off, e, hb, fun r v hv => by
    match r, hv with
    | 0, hv => simp [snCells] at hv; rw [← hv]; exact h0
    | 1, hv => simp [snCells] at hv; rw [← hv]; exact h1⟩
theorem RowAt.acc {w : World} {a : Option Addr} {l : List Acc} (h : RowAt 4 accCells w a l) (hw : ∀ x ∈ l, AccW x) : AccAt w a l := fun i hi => by
  obtain ⟨b, off, e, hb, hc⟩ := h i hi
  obtain ⟨w1, w2, w3, w4⟩ := hw _ (List.getElem_mem hi)
  exact ⟨b, off, e, hb, hc 0 _ rfl, hc 1 _ rfl, hc 2 _ rfl, hc 3 _ rfl, w1, w2, w3, w4⟩
theorem RowAt.hold {w : World} {a : Option Addr} {l : List Hld} (h : RowAt 4 hldCells w a l) (hw : ∀ x ∈ l, HldW x) : HoldAt w a l := fun i hi => by
  obtain ⟨b, off, e, hb, hc⟩ := h i hi
  obtain ⟨w1, w2, w3, w4⟩ := hw _ (List.getElem_mem hi)
  exact ⟨b, off, e, hb, hc 0 _ rfl, hc 1 _ rfl, hc 2 _ rfl, hc 3 _ rfl, w1, w2, w3, w4⟩
theorem RowAt.ans {w : World} {a : Option Addr} {l : List Sn} (h : RowAt 2 snCells w a l) (hw : ∀ x ∈ l, SnW x) : AnsAt w a l := fun i hi => by
  obtain ⟨b, off, e, hb, hc⟩ := h i hi
  obtain ⟨w1, w2⟩ := hw _ (List.getElem_mem hi)
  exact ⟨b, off, e, hb, hc 0 _ rfl, hc 1 _ rfl, w1, w2⟩
theorem AccAt.wf {w : World} {a : Option Addr} {l : List Acc} (h : AccAt w a l) : ∀ x ∈ l, AccW x := fun x hx => by
  obtain ⟨i, hi, rfl⟩ := List.mem_iff_getElem.1 hx
  obtain ⟨_, _, _, _, _, _, _, _, r⟩ := h i hi
  exact r
theorem HoldAt.wf {w : World} {a : Option Addr} {l : List Hld} (h : HoldAt w a l) : ∀ x ∈ l, HldW x := fun x hx => by
  obtain ⟨i, hi, rfl⟩ := List.mem_iff_getElem.1 hx
  obtain ⟨_, _, _, _, _, _, _, _, r⟩ := h i hi
  exact r
theorem AnsAt.wf {w : World} {a : Option Addr} {l : List Sn} (h : AnsAt w a l) : ∀ x ∈ l, SnW x := fun x hx => by
  obtain ⟨i, hi, rfl⟩ := List.mem_iff_getElem.1 hx
  obtain ⟨_, _, _, _, _, _, r⟩ := h i hi
  exact r
theorem LedAt.wf {w : World} {a h s : Option Addr} {L : Led} (k : LedAt w a h s L) : LedW L := ⟨k.acc.wf, k.hold.wf, k.seen.wf⟩
theorem acc_one (l : List Acc) : ∀ u ∈ l.flatMap accCells, u.oneCell' = true := fun u hu => by
  simp only [List.mem_flatMap, accCells, List.mem_cons, List.not_mem_nil, or_false] at hu
  obtain ⟨x, _, rfl | rfl | rfl | rfl⟩ := hu <;> rfl
/-- the first place of a number -/
def fi (ids : List Int) (x : Int) : Option Nat := ids.findIdx? (fun y => y == x)
/-- what was answered -/
def seenV (l : List Sn) (id : Int) : Int := match fi (l.map Sn.id) id with
  | none => -1
  | some k => match l[k]? with
    | none => -1
    | some x => x.code
/-- a number more that was answered -/
def seeL (l : List Sn) (id code : Int) : List Sn := l.takeWhile (fun x => decide (x.id < id)) ++ ⟨id, code⟩ :: l.dropWhile (fun x => decide (x.id < id))
def ltB (a b : ByteArray) : Bool := !Op.bytesLess b.toList a.toList && !(b.toList == a.toList)
/-- an account more, at its place -/
def insA (l : List Acc) (x : Acc) : List Acc := l.takeWhile (fun y => !ltB x.name y.name) ++ x :: l.dropWhile (fun y => !ltB x.name y.name)
def insH (l : List Hld) (x : Hld) : List Hld := l.takeWhile (fun y => decide (y.id < x.id)) ++ x :: l.dropWhile (fun y => decide (y.id < x.id))
def postA (x : Acc) (d : Int) : Acc := ⟨x.name, x.cur, x.limit, x.posted + d⟩
def setP (l : List Acc) (i : Nat) (d : Int) : List Acc := match l[i]? with
  | none => l
  | some x => l.set i (postA x d)
def payA (l : List Acc) (i j : Nat) (am : Int) : List Acc := setP (setP l i (-am)) j am
def openM (L : Led) (c : Cm) : Led × Int := match idxA L.acc c.fr with
  | some _ => (L, 4)
  | none => (⟨insA L.acc ⟨c.fr, c.to, c.am, 0⟩, L.hold, L.seen⟩, 0)
def rangeB (l : List Acc) (i : Nat) : Bool := match l[i]? with
  | none => false
  | some x => inB (-1000000000000) 1000000000000 x.posted
def keepsB (l : List Acc) (h : List Hld) (i : Nat) : Bool := match l[i]? with
  | none => false
  | some x => withinB x (heldL x.name h)
def payM (L : Led) (i j : Nat) (am : Int) : Led × Int :=
  if rangeB (payA L.acc i j am) i && rangeB (payA L.acc i j am) j then
    (if keepsB (payA L.acc i j am) L.hold i then (⟨payA L.acc i j am, L.hold, L.seen⟩, 0) else (L, 7))
  else (L, 8)
def holdM (L : Led) (i : Nat) (c : Cm) : Led × Int :=
  if 1000000000000 < heldL c.fr (insH L.hold ⟨c.id, c.fr, c.to, c.am⟩) then (L, 8)
  else if keepsB L.acc (insH L.hold ⟨c.id, c.fr, c.to, c.am⟩) i then (⟨L.acc, insH L.hold ⟨c.id, c.fr, c.to, c.am⟩, L.seen⟩, 0)
  else (L, 7)
def sameC (l : List Acc) (i j : Nat) : Bool := match l[i]?, l[j]? with
  | some x, some y => sameB x.cur y.cur
  | _, _ => false
def moveM (L : Led) (c : Cm) : Led × Int := match idxA L.acc c.fr, idxA L.acc c.to with
  | some i, some j => if sameC L.acc i j then (if c.kind = 2 then payM L i j c.am else holdM L i c) else (L, 6)
  | _, _ => (L, 5)
def endM (L : Led) (c : Cm) : Led × Int := match L.hold.find? (fun h => h.id == c.ref) with
  | none => (L, 9)
  | some h =>
    if c.kind = 5 then (⟨L.acc, L.hold.filter (fun h => !(h.id == c.ref)), L.seen⟩, 0)
    else match idxA L.acc h.fr, idxA L.acc h.to with
      | some i, some j =>
        if (payM ⟨L.acc, L.hold.filter (fun h => !(h.id == c.ref)), L.seen⟩ i j h.amount).2 = 0 then ((payM ⟨L.acc, L.hold.filter (fun h => !(h.id == c.ref)), L.seen⟩ i j h.amount).1, 0)
        else (L, (payM ⟨L.acc, L.hold.filter (fun h => !(h.id == c.ref)), L.seen⟩ i j h.amount).2)
      | _, _ => (L, 5)
def fullB (L : Led) (c : Cm) : Bool := decide (L.seen.length = 40) || (decide (c.kind = 1) && decide (L.acc.length = 12)) || (decide (c.kind = 3) && (decide (L.hold.length = 10) || L.hold.any (fun h => h.id == c.id)))
def doM (L : Led) (c : Cm) : Led × Int := if c.kind = 1 then openM L c else if c.kind = 2 ∨ c.kind = 3 then moveM L c else endM L c
def applM (L : Led) (c : Cm) : Led × Int :=
  if ledS L = false then (⟨[], [], []⟩, 1)
  else if c.B = false then (L, 2)
  else if 0 ≤ seenV L.seen c.id then (L, seenV L.seen c.id)
  else if fullB L c then (L, 3)
  else (⟨(doM L c).1.acc, (doM L c).1.hold, seeL L.seen c.id (doM L c).2⟩, (doM L c).2)
/-- a ledger's rows -/
structure LP where
  aa : Option Addr
  ca : Nat
  ha : Option Addr
  ch : Nat
  sa : Option Addr
  cs : Nat
def ledV (p : LP) (L : Led) : Value := .agg #[.slice p.aa L.acc.length p.ca, .slice p.ha L.hold.length p.ch, .slice p.sa L.seen.length p.cs]
def ledC (p : LP) (L : Led) : List Value := [.slice p.aa L.acc.length p.ca, .slice p.ha L.hold.length p.ch, .slice p.sa L.seen.length p.cs]
def ledL (p : LP) (L : Led) : List Rs := [orow 4 accCells p.aa p.ca L.acc, orow 4 hldCells p.ha p.ch L.hold, orow 2 snCells p.sa p.cs L.seen]
/-- slices as they can be -/
structure SlOk (a : Option Addr) (c n : Nat) : Prop where
  near : Near a
  nocap : a = none → c = 0
  room : n ≤ c
structure PlOk (p : LP) (D : Led) : Prop where
  a : SlOk p.aa p.ca D.acc.length
  h : SlOk p.ha p.ch D.hold.length
  s : SlOk p.sa p.cs D.seen.length
/-- a ledger of the call's own, and a code -/
def ApplEnd (R : Led × Int) (w : World) (e : Ending) (w' : World) : Prop := ∃ p : LP, e = .returned (.tuple #[ledV p R.1, .int .i64 R.2]) ∧ PlOk p R.1 ∧ Pool [] w [ledL p R.1] w'
end Go.Proofs.YteaopalhbnhbaaaGreatDoor
