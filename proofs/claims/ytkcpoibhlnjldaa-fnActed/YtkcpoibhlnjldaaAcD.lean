/- Acts as data: which are right, what was answered, where a peer is. -/
import Derived.Test.YtkcpoibhlnjldaaSNode
namespace Go.Proofs.Ytkcpoibhlnjldaa
open Go.Value renaming int → J, slice → V
open Go.IntKind renaming i64 → Z
open Go.ChangeShapes Go.WideShapes Go.ChangeAt Go.RowKit
set_option linter.unusedVariables false
def fi (ids : List Int) (x : Int) : Option Nat := ids.findIdx? (fun y => y == x)
def ixV : Option Nat → Int
 | none => -1
 | some k => (k : Int)
theorem fi_hit {ids : List Int} {x : Int} {k : Nat} (hk : k < ids.length) (h1 : ids[k] = x) (h2 : ∀ j (hj : j < ids.length), j < k → ids[j] ≠ x) : fi ids x = some k := by
 unfold fi
 rw [List.findIdx?_eq_some_iff_getElem]
 exact ⟨hk, by simpa using h1, fun j hj => by have := h2 j (by omega) hj; simpa using this⟩
theorem fi_miss {ids : List Int} {x : Int} (h : ∀ j (hj : j < ids.length), ids[j] ≠ x) : fi ids x = none := by
 unfold fi
 rw [List.findIdx?_eq_none_iff]
 intro y hy
 obtain ⟨j, hj, rfl⟩ := List.mem_iff_getElem.1 hy
 have := h j hj
 simpa using this
theorem fi_some {ids : List Int} {x : Int} {k : Nat} (h : fi ids x = some k) : ∃ hk : k < ids.length, ids[k] = x := by
 unfold fi at h
 rw [List.findIdx?_eq_some_iff_getElem] at h
 obtain ⟨hk, h1, _⟩ := h
 exact ⟨hk, by simpa using h1⟩
theorem ids_p (l : List Pr) : (l.map Pr.d).map PD.id = l.map Pr.id := by simp [Pr.d]
/-- an act -/
structure Ac where
 kind : Int
 id : Int
 to : Int
 amt : Int
 msg : Mg
def Mg.v (m : Mg) : Value := .agg #[J Z m.fr, J Z m.to, J Z m.kind, J Z m.seq, J Z m.amt]
def Ac.v (a : Ac) : Value := .agg #[J Z a.kind, J Z a.id, J Z a.to, J Z a.amt, J Z a.msg.fr, J Z a.msg.to, J Z a.msg.kind, J Z a.msg.seq, J Z a.msg.amt]
def noneB (m : Mg) : Bool := (m.fr == 0) && ((m.to == 0) && ((m.kind == 0) && ((m.seq == 0) && (m.amt == 0))))
def takeB (m : Mg) : Bool := ((m.kind == 1) && inB 1 1000000000 m.seq && inB 1 1000000000000 m.amt) || ((m.kind == 2) && inB 0 1000000000 m.seq && (m.amt == 0))
/-- is an act right, at the node of that number? -/
def actB (own : Int) (a : Ac) : Bool :=
 if a.kind = 1 ∨ a.kind = 2 then inB 1 1000000000 a.id && (a.to == 0) && inB 1 1000000000000 a.amt && noneB a.msg
 else if a.kind = 3 then (a.id == 0) && inB 1 1000000000 a.to && inB 1 1000000000000 a.amt && noneB a.msg
 else if a.kind = 4 then (a.id == 0) && (a.to == 0) && (a.amt == 0) && (a.msg.to == own) && inB 1 1000000000 a.msg.fr && takeB a.msg
 else if a.kind = 5 then (a.id == 0) && (a.to == 0) && (a.amt == 0) && noneB a.msg
 else false
/-- what was answered -/
def seenV (l : List Sn) (id : Int) : Int := match fi (l.map Sn.id) id with
 | none => -1
 | some k => match l[k]? with
  | none => -1
  | some x => x.code
theorem seenV_hit {l : List Sn} {id : Int} {k : Nat} (hk : k < l.length) (h : fi (l.map Sn.id) id = some k) : seenV l id = (l[k]).code := by
 unfold seenV; rw [h]; simp only [List.getElem?_eq_getElem hk]
theorem seenV_miss {l : List Sn} {id : Int} (h : fi (l.map Sn.id) id = none) : seenV l id = -1 := by
 unfold seenV; rw [h]
end Go.Proofs.Ytkcpoibhlnjldaa
