/- The contracts of the model's l6Parcel, and of the program's receive where there is no such peer. -/
import Derived.Test.YtkcpoibhlnjldaaBb
namespace Go.Proofs.Ytkcpoibhlnjldaa
open Go.Value renaming int → J, slice → V
open Go.IntKind renaming i64 → Z
open Go.ChangeShapes Go.WideShapes Go.ChangeAt Go.RowKit
set_option linter.unusedVariables false
set_option maxRecDepth 100000
set_option maxHeartbeats 2000000 in
theorem l6Parcel_any (id has spent earned : Int) (sa : Option Addr) (sl sc : Nat) (pa : Option Addr) (pl pc : Nat) (to seq amt : Int) (w : World) :
  Calls Try.prog 22 #[.agg #[J Z id, J Z has, J Z spent, J Z earned, V sa sl sc, V pa pl pc], J Z to, .agg #[J Z seq, J Z amt]] w fun e w' => e = .returned (.agg #[J Z id, J Z to, J Z 1, J Z seq, J Z amt]) ∧ Below w.heap.size w w' := by
 go_enter Try.func22, Try.ntmps22
 go_wp2
 exact bodyPost_ret (v := .agg #[J Z id, J Z to, J Z 1, J Z seq, J Z amt]) (by simp [results, Try.results22, go_sem]) rfl ⟨rfl, below_alloc (below_alloc (below_alloc (Below.refl _ _) _) _) _⟩
set_option maxHeartbeats 4000000 in
theorem rcv_none (B : Nat) (v0 v1 v2 v3 v4 : Value) (pa : Option Addr) (l : List Pr) (pc : Nat) (fr seq amt : Int) (w : World) (K : Blk B [v0, v1, v2, v3, v4, V pa l.length pc] w) (hl : l.length ≤ 1048576) (h : RowAt 4 prCells w pa l) (hf : fi (l.map Pr.id) fr = none) :
  Calls Try.prog 44 #[.pointer (some ⟨B, 0, none⟩), J Z fr, .agg #[J Z seq, J Z amt]] w fun e w' => NoEnd 3 w e w' := by
 have HB0 : Hid (Below w.heap.size w (w.alloc (.cells #[J Z seq, J Z amt] 61))) := hide (below_alloc (Below.refl _ _) _)
 have HK : Hid _ := hide (K.below HB0.out)
 have HC : Hid _ := hide (h.below HB0.out)
 have HF : Hid _ := hide hf
 clear K h hf
 go_enter Try.func44, Try.ntmps44
 go_wp2_with fail
 refine (endTo_any B v0 v1 v2 v3 v4 pa l pc fr _ HK.out hl HC.out).mono ?_
 rw [endPtr_miss HF.out]
 rintro e w1 ⟨rfl, hb1⟩
 have HB1 : Hid (Below w.heap.size w w1) := hide (below_trans HB0.out hb1)
 clear hb1
 go_wp2
 exact bodyPost_ret (v := .tuple #[V none 0 0, J Z 3]) (by simp [results, Try.results44, go_sem]) rfl ⟨rfl, HB1.out⟩
end Go.Proofs.Ytkcpoibhlnjldaa
