/- The contract of the model's l6Form: is an act right? -/
import Derived.Test.YtkcpoibhlnjldaaAcS1
namespace Go.Proofs.Ytkcpoibhlnjldaa
open Go.Value renaming int → J, slice → V
open Go.IntKind renaming i64 → Z
open Go.ChangeShapes Go.WideShapes Go.ChangeAt Go.RowKit
set_option linter.unusedVariables false
set_option maxRecDepth 100000
set_option linter.unusedSimpArgs false

set_option maxHeartbeats 20000000 in
theorem l6Form_spend (own has spent earned : Int) (sa : Option Addr) (sl sc : Nat) (pa : Option Addr) (pl pc : Nat) (id to amt fr mto mk seq mamt : Int) (w : World) :
  Calls Try.prog 19 #[.agg #[J Z own, J Z has, J Z spent, J Z earned, V sa sl sc, V pa pl pc], .agg #[J Z 1, J Z id, J Z to, J Z amt, J Z fr, J Z mto, J Z mk, J Z seq, J Z mamt]] w fun e w' => e = .returned (.bool (actB own (⟨1, id, to, amt, ⟨fr, mto, mk, seq, mamt⟩⟩ : Ac))) ∧ Below w.heap.size w w' := by
 cases p0 : inB 1 1000000000 id
 ·skip
  have HR : Hid (actB own (⟨1, id, to, amt, ⟨fr, mto, mk, seq, mamt⟩⟩ : Ac) = false) := hide (by simp [actB, p0])
  go_enter Try.func19, Try.ntmps19
  go_wp2_with (first | (go_at_call 47; refine (l1In_any _ _ _ _).mono ?_; rintro e w' ⟨rfl, hw'⟩; have hw'' := hw'.symm; subst hw'') | (go_at_call 50; refine (l6None_any _ _ _ _ _ _).mono ?_; rintro e w7 ⟨rfl, hb7⟩))
  go_ret
  exact ⟨by rw [HR.out]; rfl, below_alloc (below_alloc (Below.refl _ _) _) _⟩
 ·skip
  cases p1 : (to == 0)
  ·skip
   have HR : Hid (actB own (⟨1, id, to, amt, ⟨fr, mto, mk, seq, mamt⟩⟩ : Ac) = false) := hide (by simp [actB, p0, p1])
   go_enter Try.func19, Try.ntmps19
   go_wp2_with (first | (go_at_call 47; refine (l1In_any _ _ _ _).mono ?_; rintro e w' ⟨rfl, hw'⟩; have hw'' := hw'.symm; subst hw'') | (go_at_call 50; refine (l6None_any _ _ _ _ _ _).mono ?_; rintro e w7 ⟨rfl, hb7⟩))
   go_ret
   exact ⟨by rw [HR.out]; rfl, below_alloc (below_alloc (Below.refl _ _) _) _⟩
  ·skip
   cases p2 : inB 1 1000000000000 amt
   ·skip
    have HR : Hid (actB own (⟨1, id, to, amt, ⟨fr, mto, mk, seq, mamt⟩⟩ : Ac) = false) := hide (by simp [actB, p0, p1, p2])
    go_enter Try.func19, Try.ntmps19
    go_wp2_with (first | (go_at_call 47; refine (l1In_any _ _ _ _).mono ?_; rintro e w' ⟨rfl, hw'⟩; have hw'' := hw'.symm; subst hw'') | (go_at_call 50; refine (l6None_any _ _ _ _ _ _).mono ?_; rintro e w7 ⟨rfl, hb7⟩))
    go_ret
    exact ⟨by rw [HR.out]; rfl, below_alloc (below_alloc (Below.refl _ _) _) _⟩
   ·skip
    cases p3 : noneB (⟨fr, mto, mk, seq, mamt⟩ : Mg)
    ·skip
     have HR : Hid (actB own (⟨1, id, to, amt, ⟨fr, mto, mk, seq, mamt⟩⟩ : Ac) = false) := hide (by simp [actB, p0, p1, p2, p3])
     go_enter Try.func19, Try.ntmps19
     go_wp2_with (first | (go_at_call 47; refine (l1In_any _ _ _ _).mono ?_; rintro e w' ⟨rfl, hw'⟩; have hw'' := hw'.symm; subst hw'') | (go_at_call 50; refine (l6None_any _ _ _ _ _ _).mono ?_; rintro e w7 ⟨rfl, hb7⟩))
     go_ret
     exact ⟨by rw [HR.out]; rfl, below_trans (below_alloc (below_alloc (Below.refl _ _) _) _) hb7⟩
    ·skip
     have HR : Hid (actB own (⟨1, id, to, amt, ⟨fr, mto, mk, seq, mamt⟩⟩ : Ac) = true) := hide (by simp [actB, p0, p1, p2, p3])
     go_enter Try.func19, Try.ntmps19
     go_wp2_with (first | (go_at_call 47; refine (l1In_any _ _ _ _).mono ?_; rintro e w' ⟨rfl, hw'⟩; have hw'' := hw'.symm; subst hw'') | (go_at_call 50; refine (l6None_any _ _ _ _ _ _).mono ?_; rintro e w7 ⟨rfl, hb7⟩))
     go_ret
     exact ⟨by rw [HR.out]; rfl, below_trans (below_alloc (below_alloc (Below.refl _ _) _) _) hb7⟩
set_option maxHeartbeats 20000000 in
theorem l6Form_earn (own has spent earned : Int) (sa : Option Addr) (sl sc : Nat) (pa : Option Addr) (pl pc : Nat) (id to amt fr mto mk seq mamt : Int) (w : World) :
  Calls Try.prog 19 #[.agg #[J Z own, J Z has, J Z spent, J Z earned, V sa sl sc, V pa pl pc], .agg #[J Z 2, J Z id, J Z to, J Z amt, J Z fr, J Z mto, J Z mk, J Z seq, J Z mamt]] w fun e w' => e = .returned (.bool (actB own (⟨2, id, to, amt, ⟨fr, mto, mk, seq, mamt⟩⟩ : Ac))) ∧ Below w.heap.size w w' := by
 cases p0 : inB 1 1000000000 id
 ·skip
  have HR : Hid (actB own (⟨2, id, to, amt, ⟨fr, mto, mk, seq, mamt⟩⟩ : Ac) = false) := hide (by simp [actB, p0])
  go_enter Try.func19, Try.ntmps19
  go_wp2_with (first | (go_at_call 47; refine (l1In_any _ _ _ _).mono ?_; rintro e w' ⟨rfl, hw'⟩; have hw'' := hw'.symm; subst hw'') | (go_at_call 50; refine (l6None_any _ _ _ _ _ _).mono ?_; rintro e w7 ⟨rfl, hb7⟩))
  go_ret
  exact ⟨by rw [HR.out]; rfl, below_alloc (below_alloc (Below.refl _ _) _) _⟩
 ·skip
  cases p1 : (to == 0)
  ·skip
   have HR : Hid (actB own (⟨2, id, to, amt, ⟨fr, mto, mk, seq, mamt⟩⟩ : Ac) = false) := hide (by simp [actB, p0, p1])
   go_enter Try.func19, Try.ntmps19
   go_wp2_with (first | (go_at_call 47; refine (l1In_any _ _ _ _).mono ?_; rintro e w' ⟨rfl, hw'⟩; have hw'' := hw'.symm; subst hw'') | (go_at_call 50; refine (l6None_any _ _ _ _ _ _).mono ?_; rintro e w7 ⟨rfl, hb7⟩))
   go_ret
   exact ⟨by rw [HR.out]; rfl, below_alloc (below_alloc (Below.refl _ _) _) _⟩
  ·skip
   cases p2 : inB 1 1000000000000 amt
   ·skip
    have HR : Hid (actB own (⟨2, id, to, amt, ⟨fr, mto, mk, seq, mamt⟩⟩ : Ac) = false) := hide (by simp [actB, p0, p1, p2])
    go_enter Try.func19, Try.ntmps19
    go_wp2_with (first | (go_at_call 47; refine (l1In_any _ _ _ _).mono ?_; rintro e w' ⟨rfl, hw'⟩; have hw'' := hw'.symm; subst hw'') | (go_at_call 50; refine (l6None_any _ _ _ _ _ _).mono ?_; rintro e w7 ⟨rfl, hb7⟩))
    go_ret
    exact ⟨by rw [HR.out]; rfl, below_alloc (below_alloc (Below.refl _ _) _) _⟩
   ·skip
    cases p3 : noneB (⟨fr, mto, mk, seq, mamt⟩ : Mg)
    ·skip
     have HR : Hid (actB own (⟨2, id, to, amt, ⟨fr, mto, mk, seq, mamt⟩⟩ : Ac) = false) := hide (by simp [actB, p0, p1, p2, p3])
     go_enter Try.func19, Try.ntmps19
     go_wp2_with (first | (go_at_call 47; refine (l1In_any _ _ _ _).mono ?_; rintro e w' ⟨rfl, hw'⟩; have hw'' := hw'.symm; subst hw'') | (go_at_call 50; refine (l6None_any _ _ _ _ _ _).mono ?_; rintro e w7 ⟨rfl, hb7⟩))
     go_ret
     exact ⟨by rw [HR.out]; rfl, below_trans (below_alloc (below_alloc (Below.refl _ _) _) _) hb7⟩
    ·skip
     have HR : Hid (actB own (⟨2, id, to, amt, ⟨fr, mto, mk, seq, mamt⟩⟩ : Ac) = true) := hide (by simp [actB, p0, p1, p2, p3])
     go_enter Try.func19, Try.ntmps19
     go_wp2_with (first | (go_at_call 47; refine (l1In_any _ _ _ _).mono ?_; rintro e w' ⟨rfl, hw'⟩; have hw'' := hw'.symm; subst hw'') | (go_at_call 50; refine (l6None_any _ _ _ _ _ _).mono ?_; rintro e w7 ⟨rfl, hb7⟩))
     go_ret
     exact ⟨by rw [HR.out]; rfl, below_trans (below_alloc (below_alloc (Below.refl _ _) _) _) hb7⟩
set_option maxHeartbeats 20000000 in
theorem l6Form_give (own has spent earned : Int) (sa : Option Addr) (sl sc : Nat) (pa : Option Addr) (pl pc : Nat) (id to amt fr mto mk seq mamt : Int) (w : World) :
  Calls Try.prog 19 #[.agg #[J Z own, J Z has, J Z spent, J Z earned, V sa sl sc, V pa pl pc], .agg #[J Z 3, J Z id, J Z to, J Z amt, J Z fr, J Z mto, J Z mk, J Z seq, J Z mamt]] w fun e w' => e = .returned (.bool (actB own (⟨3, id, to, amt, ⟨fr, mto, mk, seq, mamt⟩⟩ : Ac))) ∧ Below w.heap.size w w' := by
 cases p0 : (id == 0)
 ·skip
  have HR : Hid (actB own (⟨3, id, to, amt, ⟨fr, mto, mk, seq, mamt⟩⟩ : Ac) = false) := hide (by simp [actB, p0])
  go_enter Try.func19, Try.ntmps19
  go_wp2_with (first | (go_at_call 47; refine (l1In_any _ _ _ _).mono ?_; rintro e w' ⟨rfl, hw'⟩; have hw'' := hw'.symm; subst hw'') | (go_at_call 50; refine (l6None_any _ _ _ _ _ _).mono ?_; rintro e w7 ⟨rfl, hb7⟩))
  go_ret
  exact ⟨by rw [HR.out]; rfl, below_alloc (below_alloc (Below.refl _ _) _) _⟩
 ·skip
  cases p1 : inB 1 1000000000 to
  ·skip
   have HR : Hid (actB own (⟨3, id, to, amt, ⟨fr, mto, mk, seq, mamt⟩⟩ : Ac) = false) := hide (by simp [actB, p0, p1])
   go_enter Try.func19, Try.ntmps19
   go_wp2_with (first | (go_at_call 47; refine (l1In_any _ _ _ _).mono ?_; rintro e w' ⟨rfl, hw'⟩; have hw'' := hw'.symm; subst hw'') | (go_at_call 50; refine (l6None_any _ _ _ _ _ _).mono ?_; rintro e w7 ⟨rfl, hb7⟩))
   go_ret
   exact ⟨by rw [HR.out]; rfl, below_alloc (below_alloc (Below.refl _ _) _) _⟩
  ·skip
   cases p2 : inB 1 1000000000000 amt
   ·skip
    have HR : Hid (actB own (⟨3, id, to, amt, ⟨fr, mto, mk, seq, mamt⟩⟩ : Ac) = false) := hide (by simp [actB, p0, p1, p2])
    go_enter Try.func19, Try.ntmps19
    go_wp2_with (first | (go_at_call 47; refine (l1In_any _ _ _ _).mono ?_; rintro e w' ⟨rfl, hw'⟩; have hw'' := hw'.symm; subst hw'') | (go_at_call 50; refine (l6None_any _ _ _ _ _ _).mono ?_; rintro e w7 ⟨rfl, hb7⟩))
    go_ret
    exact ⟨by rw [HR.out]; rfl, below_alloc (below_alloc (Below.refl _ _) _) _⟩
   ·skip
    cases p3 : noneB (⟨fr, mto, mk, seq, mamt⟩ : Mg)
    ·skip
     have HR : Hid (actB own (⟨3, id, to, amt, ⟨fr, mto, mk, seq, mamt⟩⟩ : Ac) = false) := hide (by simp [actB, p0, p1, p2, p3])
     go_enter Try.func19, Try.ntmps19
     go_wp2_with (first | (go_at_call 47; refine (l1In_any _ _ _ _).mono ?_; rintro e w' ⟨rfl, hw'⟩; have hw'' := hw'.symm; subst hw'') | (go_at_call 50; refine (l6None_any _ _ _ _ _ _).mono ?_; rintro e w7 ⟨rfl, hb7⟩))
     go_ret
     exact ⟨by rw [HR.out]; rfl, below_trans (below_alloc (below_alloc (Below.refl _ _) _) _) hb7⟩
    ·skip
     have HR : Hid (actB own (⟨3, id, to, amt, ⟨fr, mto, mk, seq, mamt⟩⟩ : Ac) = true) := hide (by simp [actB, p0, p1, p2, p3])
     go_enter Try.func19, Try.ntmps19
     go_wp2_with (first | (go_at_call 47; refine (l1In_any _ _ _ _).mono ?_; rintro e w' ⟨rfl, hw'⟩; have hw'' := hw'.symm; subst hw'') | (go_at_call 50; refine (l6None_any _ _ _ _ _ _).mono ?_; rintro e w7 ⟨rfl, hb7⟩))
     go_ret
     exact ⟨by rw [HR.out]; rfl, below_trans (below_alloc (below_alloc (Below.refl _ _) _) _) hb7⟩
set_option maxHeartbeats 20000000 in
theorem l6Form_tick (own has spent earned : Int) (sa : Option Addr) (sl sc : Nat) (pa : Option Addr) (pl pc : Nat) (id to amt fr mto mk seq mamt : Int) (w : World) :
  Calls Try.prog 19 #[.agg #[J Z own, J Z has, J Z spent, J Z earned, V sa sl sc, V pa pl pc], .agg #[J Z 5, J Z id, J Z to, J Z amt, J Z fr, J Z mto, J Z mk, J Z seq, J Z mamt]] w fun e w' => e = .returned (.bool (actB own (⟨5, id, to, amt, ⟨fr, mto, mk, seq, mamt⟩⟩ : Ac))) ∧ Below w.heap.size w w' := by
 cases p0 : (id == 0)
 ·skip
  have HR : Hid (actB own (⟨5, id, to, amt, ⟨fr, mto, mk, seq, mamt⟩⟩ : Ac) = false) := hide (by simp [actB, p0])
  go_enter Try.func19, Try.ntmps19
  go_wp2_with (first | (go_at_call 47; refine (l1In_any _ _ _ _).mono ?_; rintro e w' ⟨rfl, hw'⟩; have hw'' := hw'.symm; subst hw'') | (go_at_call 50; refine (l6None_any _ _ _ _ _ _).mono ?_; rintro e w7 ⟨rfl, hb7⟩))
  go_ret
  exact ⟨by rw [HR.out]; rfl, below_alloc (below_alloc (Below.refl _ _) _) _⟩
 ·skip
  cases p1 : (to == 0)
  ·skip
   have HR : Hid (actB own (⟨5, id, to, amt, ⟨fr, mto, mk, seq, mamt⟩⟩ : Ac) = false) := hide (by simp [actB, p0, p1])
   go_enter Try.func19, Try.ntmps19
   go_wp2_with (first | (go_at_call 47; refine (l1In_any _ _ _ _).mono ?_; rintro e w' ⟨rfl, hw'⟩; have hw'' := hw'.symm; subst hw'') | (go_at_call 50; refine (l6None_any _ _ _ _ _ _).mono ?_; rintro e w7 ⟨rfl, hb7⟩))
   go_ret
   exact ⟨by rw [HR.out]; rfl, below_alloc (below_alloc (Below.refl _ _) _) _⟩
  ·skip
   cases p2 : (amt == 0)
   ·skip
    have HR : Hid (actB own (⟨5, id, to, amt, ⟨fr, mto, mk, seq, mamt⟩⟩ : Ac) = false) := hide (by simp [actB, p0, p1, p2])
    go_enter Try.func19, Try.ntmps19
    go_wp2_with (first | (go_at_call 47; refine (l1In_any _ _ _ _).mono ?_; rintro e w' ⟨rfl, hw'⟩; have hw'' := hw'.symm; subst hw'') | (go_at_call 50; refine (l6None_any _ _ _ _ _ _).mono ?_; rintro e w7 ⟨rfl, hb7⟩))
    go_ret
    exact ⟨by rw [HR.out]; rfl, below_alloc (below_alloc (Below.refl _ _) _) _⟩
   ·skip
    cases p3 : noneB (⟨fr, mto, mk, seq, mamt⟩ : Mg)
    ·skip
     have HR : Hid (actB own (⟨5, id, to, amt, ⟨fr, mto, mk, seq, mamt⟩⟩ : Ac) = false) := hide (by simp [actB, p0, p1, p2, p3])
     go_enter Try.func19, Try.ntmps19
     go_wp2_with (first | (go_at_call 47; refine (l1In_any _ _ _ _).mono ?_; rintro e w' ⟨rfl, hw'⟩; have hw'' := hw'.symm; subst hw'') | (go_at_call 50; refine (l6None_any _ _ _ _ _ _).mono ?_; rintro e w7 ⟨rfl, hb7⟩))
     go_ret
     exact ⟨by rw [HR.out]; rfl, below_trans (below_alloc (below_alloc (Below.refl _ _) _) _) hb7⟩
    ·skip
     have HR : Hid (actB own (⟨5, id, to, amt, ⟨fr, mto, mk, seq, mamt⟩⟩ : Ac) = true) := hide (by simp [actB, p0, p1, p2, p3])
     go_enter Try.func19, Try.ntmps19
     go_wp2_with (first | (go_at_call 47; refine (l1In_any _ _ _ _).mono ?_; rintro e w' ⟨rfl, hw'⟩; have hw'' := hw'.symm; subst hw'') | (go_at_call 50; refine (l6None_any _ _ _ _ _ _).mono ?_; rintro e w7 ⟨rfl, hb7⟩))
     go_ret
     exact ⟨by rw [HR.out]; rfl, below_trans (below_alloc (below_alloc (Below.refl _ _) _) _) hb7⟩
set_option maxHeartbeats 20000000 in
theorem l6Form_other (own has spent earned : Int) (sa : Option Addr) (sl sc : Nat) (pa : Option Addr) (pl pc : Nat) (kind id to amt fr mto mk seq mamt : Int) (h1 : (kind == 1) = false) (h2 : (kind == 2) = false) (h3 : (kind == 3) = false) (h4 : (kind == 4) = false) (h5 : (kind == 5) = false) (w : World) :
  Calls Try.prog 19 #[.agg #[J Z own, J Z has, J Z spent, J Z earned, V sa sl sc, V pa pl pc], .agg #[J Z kind, J Z id, J Z to, J Z amt, J Z fr, J Z mto, J Z mk, J Z seq, J Z mamt]] w fun e w' => e = .returned (.bool (actB own (⟨kind, id, to, amt, ⟨fr, mto, mk, seq, mamt⟩⟩ : Ac))) ∧ Below w.heap.size w w' := by
 have HR : Hid (actB own (⟨kind, id, to, amt, ⟨fr, mto, mk, seq, mamt⟩⟩ : Ac) = false) := hide (by simp at h1 h2 h3 h4 h5; simp [actB, h1, h2, h3, h4, h5])
 go_enter Try.func19, Try.ntmps19
 go_wp2
 go_ret
 exact ⟨by rw [HR.out]; rfl, below_alloc (below_alloc (Below.refl _ _) _) _⟩
set_option maxHeartbeats 20000000 in
theorem l6Form_take (own has spent earned : Int) (sa : Option Addr) (sl sc : Nat) (pa : Option Addr) (pl pc : Nat) (id to amt fr mto mk seq mamt : Int) (w : World) :
  Calls Try.prog 19 #[.agg #[J Z own, J Z has, J Z spent, J Z earned, V sa sl sc, V pa pl pc], .agg #[J Z 4, J Z id, J Z to, J Z amt, J Z fr, J Z mto, J Z mk, J Z seq, J Z mamt]] w fun e w' => e = .returned (.bool (actB own (⟨4, id, to, amt, ⟨fr, mto, mk, seq, mamt⟩⟩ : Ac))) ∧ Below w.heap.size w w' := by
 cases p0 : (id == 0)
 ·skip
  by_cases m1 : mk = 1
  ·subst m1
   cases n1 : inB 1 1000000000 seq
   ·skip
    have HR : Hid (actB own (⟨4, id, to, amt, ⟨fr, mto, 1, seq, mamt⟩⟩ : Ac) = false) := hide (by simp [actB, takeB, p0, n1])
    go_enter Try.func19, Try.ntmps19
    go_wp2_with (first | (go_at_call 47; refine (l1In_any _ _ _ _).mono ?_; rintro e w' ⟨rfl, hw'⟩; have hw'' := hw'.symm; subst hw''))
    go_ret
    exact ⟨by rw [HR.out]; rfl, by first | exact below_alloc (below_alloc (below_alloc (Below.refl _ _) _) _) _⟩
   ·cases n2 : inB 1 1000000000000 mamt
    ·skip
     have HR : Hid (actB own (⟨4, id, to, amt, ⟨fr, mto, 1, seq, mamt⟩⟩ : Ac) = false) := hide (by simp [actB, takeB, p0, n1, n2])
     go_enter Try.func19, Try.ntmps19
     go_wp2_with (first | (go_at_call 47; refine (l1In_any _ _ _ _).mono ?_; rintro e w' ⟨rfl, hw'⟩; have hw'' := hw'.symm; subst hw''))
     go_ret
     exact ⟨by rw [HR.out]; rfl, by first | exact below_alloc (below_alloc (below_alloc (Below.refl _ _) _) _) _⟩
    ·skip
     have HR : Hid (actB own (⟨4, id, to, amt, ⟨fr, mto, 1, seq, mamt⟩⟩ : Ac) = false) := hide (by simp [actB, takeB, p0, n1, n2])
     go_enter Try.func19, Try.ntmps19
     go_wp2_with (first | (go_at_call 47; refine (l1In_any _ _ _ _).mono ?_; rintro e w' ⟨rfl, hw'⟩; have hw'' := hw'.symm; subst hw''))
     go_ret
     exact ⟨by rw [HR.out]; rfl, by first | exact below_alloc (below_alloc (below_alloc (Below.refl _ _) _) _) _⟩
  ·by_cases m2 : mk = 2
   ·subst m2
    clear m1
    cases n1 : inB 0 1000000000 seq
    ·skip
     have HR : Hid (actB own (⟨4, id, to, amt, ⟨fr, mto, 2, seq, mamt⟩⟩ : Ac) = false) := hide (by simp [actB, takeB, p0, n1])
     go_enter Try.func19, Try.ntmps19
     go_wp2_with (first | (go_at_call 47; refine (l1In_any _ _ _ _).mono ?_; rintro e w' ⟨rfl, hw'⟩; have hw'' := hw'.symm; subst hw''))
     go_ret
     exact ⟨by rw [HR.out]; rfl, by first | exact below_alloc (below_alloc (below_alloc (Below.refl _ _) _) _) _⟩
    ·cases n2 : (mamt == 0)
     ·skip
      have HR : Hid (actB own (⟨4, id, to, amt, ⟨fr, mto, 2, seq, mamt⟩⟩ : Ac) = false) := hide (by simp [actB, takeB, p0, n1, n2])
      go_enter Try.func19, Try.ntmps19
      go_wp2_with (first | (go_at_call 47; refine (l1In_any _ _ _ _).mono ?_; rintro e w' ⟨rfl, hw'⟩; have hw'' := hw'.symm; subst hw''))
      go_ret
      exact ⟨by rw [HR.out]; rfl, by first | exact below_alloc (below_alloc (below_alloc (Below.refl _ _) _) _) _⟩
     ·skip
      have HR : Hid (actB own (⟨4, id, to, amt, ⟨fr, mto, 2, seq, mamt⟩⟩ : Ac) = false) := hide (by simp [actB, takeB, p0, n1, n2])
      go_enter Try.func19, Try.ntmps19
      go_wp2_with (first | (go_at_call 47; refine (l1In_any _ _ _ _).mono ?_; rintro e w' ⟨rfl, hw'⟩; have hw'' := hw'.symm; subst hw''))
      go_ret
      exact ⟨by rw [HR.out]; rfl, by first | exact below_alloc (below_alloc (below_alloc (Below.refl _ _) _) _) _⟩
   ·have m1b : (mk == 1) = false := by simpa using m1
    have m2b : (mk == 2) = false := by simpa using m2
    have HR : Hid (actB own (⟨4, id, to, amt, ⟨fr, mto, mk, seq, mamt⟩⟩ : Ac) = false) := hide (by simp [actB, takeB, p0, m1, m2])
    go_enter Try.func19, Try.ntmps19
    go_wp2_with (first | (go_at_call 47; refine (l1In_any _ _ _ _).mono ?_; rintro e w' ⟨rfl, hw'⟩; have hw'' := hw'.symm; subst hw''))
    go_ret
    exact ⟨by rw [HR.out]; rfl, by first | exact below_alloc (below_alloc (below_alloc (Below.refl _ _) _) _) _⟩
 ·skip
  cases p1 : (to == 0)
  ·skip
   by_cases m1 : mk = 1
   ·subst m1
    cases n1 : inB 1 1000000000 seq
    ·skip
     have HR : Hid (actB own (⟨4, id, to, amt, ⟨fr, mto, 1, seq, mamt⟩⟩ : Ac) = false) := hide (by simp [actB, takeB, p0, p1, n1])
     go_enter Try.func19, Try.ntmps19
     go_wp2_with (first | (go_at_call 47; refine (l1In_any _ _ _ _).mono ?_; rintro e w' ⟨rfl, hw'⟩; have hw'' := hw'.symm; subst hw''))
     go_ret
     exact ⟨by rw [HR.out]; rfl, by first | exact below_alloc (below_alloc (below_alloc (Below.refl _ _) _) _) _⟩
    ·cases n2 : inB 1 1000000000000 mamt
     ·skip
      have HR : Hid (actB own (⟨4, id, to, amt, ⟨fr, mto, 1, seq, mamt⟩⟩ : Ac) = false) := hide (by simp [actB, takeB, p0, p1, n1, n2])
      go_enter Try.func19, Try.ntmps19
      go_wp2_with (first | (go_at_call 47; refine (l1In_any _ _ _ _).mono ?_; rintro e w' ⟨rfl, hw'⟩; have hw'' := hw'.symm; subst hw''))
      go_ret
      exact ⟨by rw [HR.out]; rfl, by first | exact below_alloc (below_alloc (below_alloc (Below.refl _ _) _) _) _⟩
     ·skip
      have HR : Hid (actB own (⟨4, id, to, amt, ⟨fr, mto, 1, seq, mamt⟩⟩ : Ac) = false) := hide (by simp [actB, takeB, p0, p1, n1, n2])
      go_enter Try.func19, Try.ntmps19
      go_wp2_with (first | (go_at_call 47; refine (l1In_any _ _ _ _).mono ?_; rintro e w' ⟨rfl, hw'⟩; have hw'' := hw'.symm; subst hw''))
      go_ret
      exact ⟨by rw [HR.out]; rfl, by first | exact below_alloc (below_alloc (below_alloc (Below.refl _ _) _) _) _⟩
   ·by_cases m2 : mk = 2
    ·subst m2
     clear m1
     cases n1 : inB 0 1000000000 seq
     ·skip
      have HR : Hid (actB own (⟨4, id, to, amt, ⟨fr, mto, 2, seq, mamt⟩⟩ : Ac) = false) := hide (by simp [actB, takeB, p0, p1, n1])
      go_enter Try.func19, Try.ntmps19
      go_wp2_with (first | (go_at_call 47; refine (l1In_any _ _ _ _).mono ?_; rintro e w' ⟨rfl, hw'⟩; have hw'' := hw'.symm; subst hw''))
      go_ret
      exact ⟨by rw [HR.out]; rfl, by first | exact below_alloc (below_alloc (below_alloc (Below.refl _ _) _) _) _⟩
     ·cases n2 : (mamt == 0)
      ·skip
       have HR : Hid (actB own (⟨4, id, to, amt, ⟨fr, mto, 2, seq, mamt⟩⟩ : Ac) = false) := hide (by simp [actB, takeB, p0, p1, n1, n2])
       go_enter Try.func19, Try.ntmps19
       go_wp2_with (first | (go_at_call 47; refine (l1In_any _ _ _ _).mono ?_; rintro e w' ⟨rfl, hw'⟩; have hw'' := hw'.symm; subst hw''))
       go_ret
       exact ⟨by rw [HR.out]; rfl, by first | exact below_alloc (below_alloc (below_alloc (Below.refl _ _) _) _) _⟩
      ·skip
       have HR : Hid (actB own (⟨4, id, to, amt, ⟨fr, mto, 2, seq, mamt⟩⟩ : Ac) = false) := hide (by simp [actB, takeB, p0, p1, n1, n2])
       go_enter Try.func19, Try.ntmps19
       go_wp2_with (first | (go_at_call 47; refine (l1In_any _ _ _ _).mono ?_; rintro e w' ⟨rfl, hw'⟩; have hw'' := hw'.symm; subst hw''))
       go_ret
       exact ⟨by rw [HR.out]; rfl, by first | exact below_alloc (below_alloc (below_alloc (Below.refl _ _) _) _) _⟩
    ·have m1b : (mk == 1) = false := by simpa using m1
     have m2b : (mk == 2) = false := by simpa using m2
     have HR : Hid (actB own (⟨4, id, to, amt, ⟨fr, mto, mk, seq, mamt⟩⟩ : Ac) = false) := hide (by simp [actB, takeB, p0, p1, m1, m2])
     go_enter Try.func19, Try.ntmps19
     go_wp2_with (first | (go_at_call 47; refine (l1In_any _ _ _ _).mono ?_; rintro e w' ⟨rfl, hw'⟩; have hw'' := hw'.symm; subst hw''))
     go_ret
     exact ⟨by rw [HR.out]; rfl, by first | exact below_alloc (below_alloc (below_alloc (Below.refl _ _) _) _) _⟩
  ·skip
   cases p2 : (amt == 0)
   ·skip
    by_cases m1 : mk = 1
    ·subst m1
     cases n1 : inB 1 1000000000 seq
     ·skip
      have HR : Hid (actB own (⟨4, id, to, amt, ⟨fr, mto, 1, seq, mamt⟩⟩ : Ac) = false) := hide (by simp [actB, takeB, p0, p1, p2, n1])
      go_enter Try.func19, Try.ntmps19
      go_wp2_with (first | (go_at_call 47; refine (l1In_any _ _ _ _).mono ?_; rintro e w' ⟨rfl, hw'⟩; have hw'' := hw'.symm; subst hw''))
      go_ret
      exact ⟨by rw [HR.out]; rfl, by first | exact below_alloc (below_alloc (below_alloc (Below.refl _ _) _) _) _⟩
     ·cases n2 : inB 1 1000000000000 mamt
      ·skip
       have HR : Hid (actB own (⟨4, id, to, amt, ⟨fr, mto, 1, seq, mamt⟩⟩ : Ac) = false) := hide (by simp [actB, takeB, p0, p1, p2, n1, n2])
       go_enter Try.func19, Try.ntmps19
       go_wp2_with (first | (go_at_call 47; refine (l1In_any _ _ _ _).mono ?_; rintro e w' ⟨rfl, hw'⟩; have hw'' := hw'.symm; subst hw''))
       go_ret
       exact ⟨by rw [HR.out]; rfl, by first | exact below_alloc (below_alloc (below_alloc (Below.refl _ _) _) _) _⟩
      ·skip
       have HR : Hid (actB own (⟨4, id, to, amt, ⟨fr, mto, 1, seq, mamt⟩⟩ : Ac) = false) := hide (by simp [actB, takeB, p0, p1, p2, n1, n2])
       go_enter Try.func19, Try.ntmps19
       go_wp2_with (first | (go_at_call 47; refine (l1In_any _ _ _ _).mono ?_; rintro e w' ⟨rfl, hw'⟩; have hw'' := hw'.symm; subst hw''))
       go_ret
       exact ⟨by rw [HR.out]; rfl, by first | exact below_alloc (below_alloc (below_alloc (Below.refl _ _) _) _) _⟩
    ·by_cases m2 : mk = 2
     ·subst m2
      clear m1
      cases n1 : inB 0 1000000000 seq
      ·skip
       have HR : Hid (actB own (⟨4, id, to, amt, ⟨fr, mto, 2, seq, mamt⟩⟩ : Ac) = false) := hide (by simp [actB, takeB, p0, p1, p2, n1])
       go_enter Try.func19, Try.ntmps19
       go_wp2_with (first | (go_at_call 47; refine (l1In_any _ _ _ _).mono ?_; rintro e w' ⟨rfl, hw'⟩; have hw'' := hw'.symm; subst hw''))
       go_ret
       exact ⟨by rw [HR.out]; rfl, by first | exact below_alloc (below_alloc (below_alloc (Below.refl _ _) _) _) _⟩
      ·cases n2 : (mamt == 0)
       ·skip
        have HR : Hid (actB own (⟨4, id, to, amt, ⟨fr, mto, 2, seq, mamt⟩⟩ : Ac) = false) := hide (by simp [actB, takeB, p0, p1, p2, n1, n2])
        go_enter Try.func19, Try.ntmps19
        go_wp2_with (first | (go_at_call 47; refine (l1In_any _ _ _ _).mono ?_; rintro e w' ⟨rfl, hw'⟩; have hw'' := hw'.symm; subst hw''))
        go_ret
        exact ⟨by rw [HR.out]; rfl, by first | exact below_alloc (below_alloc (below_alloc (Below.refl _ _) _) _) _⟩
       ·skip
        have HR : Hid (actB own (⟨4, id, to, amt, ⟨fr, mto, 2, seq, mamt⟩⟩ : Ac) = false) := hide (by simp [actB, takeB, p0, p1, p2, n1, n2])
        go_enter Try.func19, Try.ntmps19
        go_wp2_with (first | (go_at_call 47; refine (l1In_any _ _ _ _).mono ?_; rintro e w' ⟨rfl, hw'⟩; have hw'' := hw'.symm; subst hw''))
        go_ret
        exact ⟨by rw [HR.out]; rfl, by first | exact below_alloc (below_alloc (below_alloc (Below.refl _ _) _) _) _⟩
     ·have m1b : (mk == 1) = false := by simpa using m1
      have m2b : (mk == 2) = false := by simpa using m2
      have HR : Hid (actB own (⟨4, id, to, amt, ⟨fr, mto, mk, seq, mamt⟩⟩ : Ac) = false) := hide (by simp [actB, takeB, p0, p1, p2, m1, m2])
      go_enter Try.func19, Try.ntmps19
      go_wp2_with (first | (go_at_call 47; refine (l1In_any _ _ _ _).mono ?_; rintro e w' ⟨rfl, hw'⟩; have hw'' := hw'.symm; subst hw''))
      go_ret
      exact ⟨by rw [HR.out]; rfl, by first | exact below_alloc (below_alloc (below_alloc (Below.refl _ _) _) _) _⟩
   ·skip
    cases p3 : (mto == own)
    ·skip
     by_cases m1 : mk = 1
     ·subst m1
      cases n1 : inB 1 1000000000 seq
      ·skip
       have HR : Hid (actB own (⟨4, id, to, amt, ⟨fr, mto, 1, seq, mamt⟩⟩ : Ac) = false) := hide (by simp [actB, takeB, p0, p1, p2, p3, n1])
       go_enter Try.func19, Try.ntmps19
       go_wp2_with (first | (go_at_call 47; refine (l1In_any _ _ _ _).mono ?_; rintro e w' ⟨rfl, hw'⟩; have hw'' := hw'.symm; subst hw''))
       go_ret
       exact ⟨by rw [HR.out]; rfl, by first | exact below_alloc (below_alloc (below_alloc (Below.refl _ _) _) _) _⟩
      ·cases n2 : inB 1 1000000000000 mamt
       ·skip
        have HR : Hid (actB own (⟨4, id, to, amt, ⟨fr, mto, 1, seq, mamt⟩⟩ : Ac) = false) := hide (by simp [actB, takeB, p0, p1, p2, p3, n1, n2])
        go_enter Try.func19, Try.ntmps19
        go_wp2_with (first | (go_at_call 47; refine (l1In_any _ _ _ _).mono ?_; rintro e w' ⟨rfl, hw'⟩; have hw'' := hw'.symm; subst hw''))
        go_ret
        exact ⟨by rw [HR.out]; rfl, by first | exact below_alloc (below_alloc (below_alloc (Below.refl _ _) _) _) _⟩
       ·skip
        have HR : Hid (actB own (⟨4, id, to, amt, ⟨fr, mto, 1, seq, mamt⟩⟩ : Ac) = false) := hide (by simp [actB, takeB, p0, p1, p2, p3, n1, n2])
        go_enter Try.func19, Try.ntmps19
        go_wp2_with (first | (go_at_call 47; refine (l1In_any _ _ _ _).mono ?_; rintro e w' ⟨rfl, hw'⟩; have hw'' := hw'.symm; subst hw''))
        go_ret
        exact ⟨by rw [HR.out]; rfl, by first | exact below_alloc (below_alloc (below_alloc (Below.refl _ _) _) _) _⟩
     ·by_cases m2 : mk = 2
      ·subst m2
       clear m1
       cases n1 : inB 0 1000000000 seq
       ·skip
        have HR : Hid (actB own (⟨4, id, to, amt, ⟨fr, mto, 2, seq, mamt⟩⟩ : Ac) = false) := hide (by simp [actB, takeB, p0, p1, p2, p3, n1])
        go_enter Try.func19, Try.ntmps19
        go_wp2_with (first | (go_at_call 47; refine (l1In_any _ _ _ _).mono ?_; rintro e w' ⟨rfl, hw'⟩; have hw'' := hw'.symm; subst hw''))
        go_ret
        exact ⟨by rw [HR.out]; rfl, by first | exact below_alloc (below_alloc (below_alloc (Below.refl _ _) _) _) _⟩
       ·cases n2 : (mamt == 0)
        ·skip
         have HR : Hid (actB own (⟨4, id, to, amt, ⟨fr, mto, 2, seq, mamt⟩⟩ : Ac) = false) := hide (by simp [actB, takeB, p0, p1, p2, p3, n1, n2])
         go_enter Try.func19, Try.ntmps19
         go_wp2_with (first | (go_at_call 47; refine (l1In_any _ _ _ _).mono ?_; rintro e w' ⟨rfl, hw'⟩; have hw'' := hw'.symm; subst hw''))
         go_ret
         exact ⟨by rw [HR.out]; rfl, by first | exact below_alloc (below_alloc (below_alloc (Below.refl _ _) _) _) _⟩
        ·skip
         have HR : Hid (actB own (⟨4, id, to, amt, ⟨fr, mto, 2, seq, mamt⟩⟩ : Ac) = false) := hide (by simp [actB, takeB, p0, p1, p2, p3, n1, n2])
         go_enter Try.func19, Try.ntmps19
         go_wp2_with (first | (go_at_call 47; refine (l1In_any _ _ _ _).mono ?_; rintro e w' ⟨rfl, hw'⟩; have hw'' := hw'.symm; subst hw''))
         go_ret
         exact ⟨by rw [HR.out]; rfl, by first | exact below_alloc (below_alloc (below_alloc (Below.refl _ _) _) _) _⟩
      ·have m1b : (mk == 1) = false := by simpa using m1
       have m2b : (mk == 2) = false := by simpa using m2
       have HR : Hid (actB own (⟨4, id, to, amt, ⟨fr, mto, mk, seq, mamt⟩⟩ : Ac) = false) := hide (by simp [actB, takeB, p0, p1, p2, p3, m1, m2])
       go_enter Try.func19, Try.ntmps19
       go_wp2_with (first | (go_at_call 47; refine (l1In_any _ _ _ _).mono ?_; rintro e w' ⟨rfl, hw'⟩; have hw'' := hw'.symm; subst hw''))
       go_ret
       exact ⟨by rw [HR.out]; rfl, by first | exact below_alloc (below_alloc (below_alloc (Below.refl _ _) _) _) _⟩
    ·skip
     cases p4 : inB 1 1000000000 fr
     ·skip
      by_cases m1 : mk = 1
      ·subst m1
       cases n1 : inB 1 1000000000 seq
       ·skip
        have HR : Hid (actB own (⟨4, id, to, amt, ⟨fr, mto, 1, seq, mamt⟩⟩ : Ac) = false) := hide (by simp [actB, takeB, p0, p1, p2, p3, p4, n1])
        go_enter Try.func19, Try.ntmps19
        go_wp2_with (first | (go_at_call 47; refine (l1In_any _ _ _ _).mono ?_; rintro e w' ⟨rfl, hw'⟩; have hw'' := hw'.symm; subst hw''))
        go_ret
        exact ⟨by rw [HR.out]; rfl, by first | exact below_alloc (below_alloc (below_alloc (Below.refl _ _) _) _) _⟩
       ·cases n2 : inB 1 1000000000000 mamt
        ·skip
         have HR : Hid (actB own (⟨4, id, to, amt, ⟨fr, mto, 1, seq, mamt⟩⟩ : Ac) = false) := hide (by simp [actB, takeB, p0, p1, p2, p3, p4, n1, n2])
         go_enter Try.func19, Try.ntmps19
         go_wp2_with (first | (go_at_call 47; refine (l1In_any _ _ _ _).mono ?_; rintro e w' ⟨rfl, hw'⟩; have hw'' := hw'.symm; subst hw''))
         go_ret
         exact ⟨by rw [HR.out]; rfl, by first | exact below_alloc (below_alloc (below_alloc (Below.refl _ _) _) _) _⟩
        ·skip
         have HR : Hid (actB own (⟨4, id, to, amt, ⟨fr, mto, 1, seq, mamt⟩⟩ : Ac) = false) := hide (by simp [actB, takeB, p0, p1, p2, p3, p4, n1, n2])
         go_enter Try.func19, Try.ntmps19
         go_wp2_with (first | (go_at_call 47; refine (l1In_any _ _ _ _).mono ?_; rintro e w' ⟨rfl, hw'⟩; have hw'' := hw'.symm; subst hw''))
         go_ret
         exact ⟨by rw [HR.out]; rfl, by first | exact below_alloc (below_alloc (below_alloc (Below.refl _ _) _) _) _⟩
      ·by_cases m2 : mk = 2
       ·subst m2
        clear m1
        cases n1 : inB 0 1000000000 seq
        ·skip
         have HR : Hid (actB own (⟨4, id, to, amt, ⟨fr, mto, 2, seq, mamt⟩⟩ : Ac) = false) := hide (by simp [actB, takeB, p0, p1, p2, p3, p4, n1])
         go_enter Try.func19, Try.ntmps19
         go_wp2_with (first | (go_at_call 47; refine (l1In_any _ _ _ _).mono ?_; rintro e w' ⟨rfl, hw'⟩; have hw'' := hw'.symm; subst hw''))
         go_ret
         exact ⟨by rw [HR.out]; rfl, by first | exact below_alloc (below_alloc (below_alloc (Below.refl _ _) _) _) _⟩
        ·cases n2 : (mamt == 0)
         ·skip
          have HR : Hid (actB own (⟨4, id, to, amt, ⟨fr, mto, 2, seq, mamt⟩⟩ : Ac) = false) := hide (by simp [actB, takeB, p0, p1, p2, p3, p4, n1, n2])
          go_enter Try.func19, Try.ntmps19
          go_wp2_with (first | (go_at_call 47; refine (l1In_any _ _ _ _).mono ?_; rintro e w' ⟨rfl, hw'⟩; have hw'' := hw'.symm; subst hw''))
          go_ret
          exact ⟨by rw [HR.out]; rfl, by first | exact below_alloc (below_alloc (below_alloc (Below.refl _ _) _) _) _⟩
         ·skip
          have HR : Hid (actB own (⟨4, id, to, amt, ⟨fr, mto, 2, seq, mamt⟩⟩ : Ac) = false) := hide (by simp [actB, takeB, p0, p1, p2, p3, p4, n1, n2])
          go_enter Try.func19, Try.ntmps19
          go_wp2_with (first | (go_at_call 47; refine (l1In_any _ _ _ _).mono ?_; rintro e w' ⟨rfl, hw'⟩; have hw'' := hw'.symm; subst hw''))
          go_ret
          exact ⟨by rw [HR.out]; rfl, by first | exact below_alloc (below_alloc (below_alloc (Below.refl _ _) _) _) _⟩
       ·have m1b : (mk == 1) = false := by simpa using m1
        have m2b : (mk == 2) = false := by simpa using m2
        have HR : Hid (actB own (⟨4, id, to, amt, ⟨fr, mto, mk, seq, mamt⟩⟩ : Ac) = false) := hide (by simp [actB, takeB, p0, p1, p2, p3, p4, m1, m2])
        go_enter Try.func19, Try.ntmps19
        go_wp2_with (first | (go_at_call 47; refine (l1In_any _ _ _ _).mono ?_; rintro e w' ⟨rfl, hw'⟩; have hw'' := hw'.symm; subst hw''))
        go_ret
        exact ⟨by rw [HR.out]; rfl, by first | exact below_alloc (below_alloc (below_alloc (Below.refl _ _) _) _) _⟩
     ·skip
      by_cases m1 : mk = 1
      ·subst m1
       cases n1 : inB 1 1000000000 seq
       ·skip
        have HR : Hid (actB own (⟨4, id, to, amt, ⟨fr, mto, 1, seq, mamt⟩⟩ : Ac) = false) := hide (by simp [actB, takeB, p0, p1, p2, p3, p4, n1])
        go_enter Try.func19, Try.ntmps19
        go_wp2_with (first | (go_at_call 47; refine (l1In_any _ _ _ _).mono ?_; rintro e w' ⟨rfl, hw'⟩; have hw'' := hw'.symm; subst hw''))
        go_ret
        exact ⟨by rw [HR.out]; rfl, by first | exact below_alloc (below_alloc (below_alloc (Below.refl _ _) _) _) _⟩
       ·cases n2 : inB 1 1000000000000 mamt
        ·skip
         have HR : Hid (actB own (⟨4, id, to, amt, ⟨fr, mto, 1, seq, mamt⟩⟩ : Ac) = false) := hide (by simp [actB, takeB, p0, p1, p2, p3, p4, n1, n2])
         go_enter Try.func19, Try.ntmps19
         go_wp2_with (first | (go_at_call 47; refine (l1In_any _ _ _ _).mono ?_; rintro e w' ⟨rfl, hw'⟩; have hw'' := hw'.symm; subst hw''))
         go_ret
         exact ⟨by rw [HR.out]; rfl, by first | exact below_alloc (below_alloc (below_alloc (Below.refl _ _) _) _) _⟩
        ·skip
         have HR : Hid (actB own (⟨4, id, to, amt, ⟨fr, mto, 1, seq, mamt⟩⟩ : Ac) = true) := hide (by simp [actB, takeB, p0, p1, p2, p3, p4, n1, n2])
         go_enter Try.func19, Try.ntmps19
         go_wp2_with (first | (go_at_call 47; refine (l1In_any _ _ _ _).mono ?_; rintro e w' ⟨rfl, hw'⟩; have hw'' := hw'.symm; subst hw''))
         go_ret
         exact ⟨by rw [HR.out]; rfl, by first | exact below_alloc (below_alloc (below_alloc (Below.refl _ _) _) _) _⟩
      ·by_cases m2 : mk = 2
       ·subst m2
        clear m1
        cases n1 : inB 0 1000000000 seq
        ·skip
         have HR : Hid (actB own (⟨4, id, to, amt, ⟨fr, mto, 2, seq, mamt⟩⟩ : Ac) = false) := hide (by simp [actB, takeB, p0, p1, p2, p3, p4, n1])
         go_enter Try.func19, Try.ntmps19
         go_wp2_with (first | (go_at_call 47; refine (l1In_any _ _ _ _).mono ?_; rintro e w' ⟨rfl, hw'⟩; have hw'' := hw'.symm; subst hw''))
         go_ret
         exact ⟨by rw [HR.out]; rfl, by first | exact below_alloc (below_alloc (below_alloc (Below.refl _ _) _) _) _⟩
        ·cases n2 : (mamt == 0)
         ·skip
          have HR : Hid (actB own (⟨4, id, to, amt, ⟨fr, mto, 2, seq, mamt⟩⟩ : Ac) = false) := hide (by simp [actB, takeB, p0, p1, p2, p3, p4, n1, n2])
          go_enter Try.func19, Try.ntmps19
          go_wp2_with (first | (go_at_call 47; refine (l1In_any _ _ _ _).mono ?_; rintro e w' ⟨rfl, hw'⟩; have hw'' := hw'.symm; subst hw''))
          go_ret
          exact ⟨by rw [HR.out]; rfl, by first | exact below_alloc (below_alloc (below_alloc (Below.refl _ _) _) _) _⟩
         ·skip
          have HR : Hid (actB own (⟨4, id, to, amt, ⟨fr, mto, 2, seq, mamt⟩⟩ : Ac) = true) := hide (by simp [actB, takeB, p0, p1, p2, p3, p4, n1, n2])
          go_enter Try.func19, Try.ntmps19
          go_wp2_with (first | (go_at_call 47; refine (l1In_any _ _ _ _).mono ?_; rintro e w' ⟨rfl, hw'⟩; have hw'' := hw'.symm; subst hw''))
          go_ret
          exact ⟨by rw [HR.out]; rfl, by first | exact below_alloc (below_alloc (below_alloc (Below.refl _ _) _) _) _⟩
       ·have m1b : (mk == 1) = false := by simpa using m1
        have m2b : (mk == 2) = false := by simpa using m2
        have HR : Hid (actB own (⟨4, id, to, amt, ⟨fr, mto, mk, seq, mamt⟩⟩ : Ac) = false) := hide (by simp [actB, takeB, p0, p1, p2, p3, p4, m1, m2])
        go_enter Try.func19, Try.ntmps19
        go_wp2_with (first | (go_at_call 47; refine (l1In_any _ _ _ _).mono ?_; rintro e w' ⟨rfl, hw'⟩; have hw'' := hw'.symm; subst hw''))
        go_ret
        exact ⟨by rw [HR.out]; rfl, by first | exact below_alloc (below_alloc (below_alloc (Below.refl _ _) _) _) _⟩
set_option maxHeartbeats 20000000 in
theorem l6Form_any (own has spent earned : Int) (sa : Option Addr) (sl sc : Nat) (pa : Option Addr) (pl pc : Nat) (kind id to amt fr mto mk seq mamt : Int) (w : World) :
  Calls Try.prog 19 #[.agg #[J Z own, J Z has, J Z spent, J Z earned, V sa sl sc, V pa pl pc], .agg #[J Z kind, J Z id, J Z to, J Z amt, J Z fr, J Z mto, J Z mk, J Z seq, J Z mamt]] w fun e w' => e = .returned (.bool (actB own (⟨kind, id, to, amt, ⟨fr, mto, mk, seq, mamt⟩⟩ : Ac))) ∧ Below w.heap.size w w' := by
 by_cases k1 : kind = 1
 ·subst k1; exact l6Form_spend _ _ _ _ _ _ _ _ _ _ _ _ _ _ _ _ _ _ _
 by_cases k2 : kind = 2
 ·subst k2; exact l6Form_earn _ _ _ _ _ _ _ _ _ _ _ _ _ _ _ _ _ _ _
 by_cases k3 : kind = 3
 ·subst k3; exact l6Form_give _ _ _ _ _ _ _ _ _ _ _ _ _ _ _ _ _ _ _
 by_cases k4 : kind = 4
 ·subst k4; exact l6Form_take _ _ _ _ _ _ _ _ _ _ _ _ _ _ _ _ _ _ _
 by_cases k5 : kind = 5
 ·subst k5; exact l6Form_tick _ _ _ _ _ _ _ _ _ _ _ _ _ _ _ _ _ _ _
 exact l6Form_other _ _ _ _ _ _ _ _ _ _ _ _ _ _ _ _ _ _ _ (by simpa using k1) (by simpa using k2) (by simpa using k3) (by simpa using k4) (by simpa using k5) _
end Go.Proofs.Ytkcpoibhlnjldaa
