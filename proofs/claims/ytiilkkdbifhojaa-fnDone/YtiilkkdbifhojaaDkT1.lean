/- The contracts of the laws' szFile, szDOp, szFileS, szDOpS, szDisk. -/
import Derived.Test.YtiilkkdbifhojaaDkS5
namespace Go.Proofs.Ytiilkkdbifhojaa
open Go.ChangeShapes Go.WideShapes Go.ChangeAt Go.RowKit
set_option linter.unusedVariables false
set_option maxRecDepth 100000
def SzP (left : Int) (P : Prop) (w : World) (e : Ending) (w' : World) : Prop := Below w.heap.size w w' ∧ ∃ r : Int, e = .returned (.int .i64 r) ∧ -1 ≤ r ∧ r ≤ left ∧ (0 ≤ r → P)
def LimF (f : Fl) : Prop := f.nm.size ≤ maxLen ∧ f.da.size ≤ maxLen
def LimO (o : Dp) : Prop := o.nm.size ≤ maxLen ∧ o.tn.size ≤ maxLen ∧ o.da.size ≤ maxLen
def Sms {A : Type} (p : A → Prop) (l : List A) : Prop := l.length ≤ 1048576 ∧ ∀ x ∈ l, p x
def SmF1 (f : Fl) : Prop := f.nm.size ≤ 1048576 ∧ f.da.size ≤ 1048576
def SmD (live safe : List Fl) (ops : List Dp) : Prop := Sms SmF1 live ∧ Sms SmF1 safe ∧ Sms SmO ops
structure DkAt (w : World) (la sa oa : Option Addr) (live safe : List Fl) (ops : List Dp) : Prop where
  r1 : RowAt 2 flCells w la live
  r2 : RowAt 2 flCells w sa safe
  r3 : RowAt 4 dpCells w oa ops
theorem DkAt.below {w w' : World} {la sa oa : Option Addr} {live safe : List Fl} {ops : List Dp} (h : DkAt w la sa oa live safe ops) (b : Below w.heap.size w w') : DkAt w' la sa oa live safe ops := ⟨h.r1.below b, h.r2.below b, h.r3.below b⟩
def LimD (live safe : List Fl) (ops : List Dp) : Prop := (live.length ≤ maxLen ∧ ∀ x ∈ live, LimF x) ∧ (safe.length ≤ maxLen ∧ ∀ x ∈ safe, LimF x) ∧ ops.length ≤ maxLen ∧ ∀ x ∈ ops, LimO x
end Go.Proofs.Ytiilkkdbifhojaa
