/- The contracts of the program's small functions over acts and messages, and of the model's l6Parcel. -/
import Derived.Test.YtkcpoibhlnjldaaAcD
import Derived.Test.YtkcpoibhlnjldaaBa
import Derived.Test.YtkcpoibhlnjldaaRcv
import Derived.Test.YtkcpoibhlnjldaaAcC
namespace Go.Proofs.Ytkcpoibhlnjldaa
open Go.Value renaming int → J, slice → V
open Go.IntKind renaming i64 → Z
open Go.ChangeShapes Go.WideShapes Go.ChangeAt Go.RowKit
set_option linter.unusedVariables false
set_option maxRecDepth 100000
set_option linter.unusedSimpArgs false
set_option maxHeartbeats 2000000 in
theorem parcelMsg_any (fr to seq amt : Int) (w : World) :
  Calls Try.prog 64 #[J Z fr, J Z to, .agg #[J Z seq, J Z amt]] w fun e w' => e = .returned (.agg #[J Z fr, J Z to, J Z 1, J Z seq, J Z amt]) ∧ Below w.heap.size w w' := by
 go_enter Try.func64, Try.ntmps64
 go_wp2
 exact bodyPost_ret (v := .agg #[J Z fr, J Z to, J Z 1, J Z seq, J Z amt]) (by simp [results, Try.results64, go_sem]) rfl ⟨rfl, below_alloc (below_alloc (Below.refl _ _) _) _⟩
set_option maxHeartbeats 2000000 in
theorem ackMsg_any (fr to seq : Int) (w : World) :
  Calls Try.prog 66 #[J Z fr, J Z to, J Z seq] w fun e w' => e = .returned (.agg #[J Z fr, J Z to, J Z 2, J Z seq, J Z 0]) ∧ Below w.heap.size w w' := by
 go_enter Try.func66, Try.ntmps66
 go_wp2
 exact bodyPost_ret (v := .agg #[J Z fr, J Z to, J Z 2, J Z seq, J Z 0]) (by simp [results, Try.results66, go_sem]) rfl ⟨rfl, below_alloc (Below.refl _ _) _⟩
set_option maxHeartbeats 2000000 in
theorem askSpend_any (id amt own : Int) (w : World) :
  Calls Try.prog 96 #[.agg #[J Z id, J Z amt], J Z own] w fun e w' => e = .returned (.agg #[J Z 1, J Z id, J Z 0, J Z amt, J Z 0, J Z 0, J Z 0, J Z 0, J Z 0]) ∧ Below w.heap.size w w' := by
 go_enter Try.func96, Try.ntmps96
 go_wp2
 exact bodyPost_ret (v := .agg #[J Z 1, J Z id, J Z 0, J Z amt, J Z 0, J Z 0, J Z 0, J Z 0, J Z 0]) (by simp [results, Try.results96, go_sem]) rfl ⟨rfl, below_alloc (below_alloc (Below.refl _ _) _) _⟩
set_option maxHeartbeats 2000000 in
theorem askEarn_any (id amt own : Int) (w : World) :
  Calls Try.prog 98 #[.agg #[J Z id, J Z amt], J Z own] w fun e w' => e = .returned (.agg #[J Z 2, J Z id, J Z 0, J Z amt, J Z 0, J Z 0, J Z 0, J Z 0, J Z 0]) ∧ Below w.heap.size w w' := by
 go_enter Try.func98, Try.ntmps98
 go_wp2
 exact bodyPost_ret (v := .agg #[J Z 2, J Z id, J Z 0, J Z amt, J Z 0, J Z 0, J Z 0, J Z 0, J Z 0]) (by simp [results, Try.results98, go_sem]) rfl ⟨rfl, below_alloc (below_alloc (Below.refl _ _) _) _⟩
set_option maxHeartbeats 2000000 in
theorem askGive_any (to amt own : Int) (w : World) :
  Calls Try.prog 100 #[.agg #[J Z to, J Z amt], J Z own] w fun e w' => e = .returned (.agg #[J Z 3, J Z 0, J Z to, J Z amt, J Z 0, J Z 0, J Z 0, J Z 0, J Z 0]) ∧ Below w.heap.size w w' := by
 go_enter Try.func100, Try.ntmps100
 go_wp2
 exact bodyPost_ret (v := .agg #[J Z 3, J Z 0, J Z to, J Z amt, J Z 0, J Z 0, J Z 0, J Z 0, J Z 0]) (by simp [results, Try.results100, go_sem]) rfl ⟨rfl, below_alloc (below_alloc (Below.refl _ _) _) _⟩
set_option maxHeartbeats 2000000 in
theorem okSpend_any (id amt : Int) (w : World) :
  Calls Try.prog 97 #[.agg #[J Z id, J Z amt]] w fun e w' => e = .returned (.bool (inB 1 1000000000 id && inB 1 1000000000000 amt)) ∧ Below w.heap.size w w' := by
 cases q1 : inB 1 1000000000 id
 ·go_enter Try.func97, Try.ntmps97
  go_wp2_with (first | (go_at_call 25; refine (numberOk_any _ _).mono ?_; rintro e w' ⟨rfl, hw'⟩; have hw'' := hw'.symm; subst hw'') | (go_at_call 26; refine (within_any _ _ _ _).mono ?_; rintro e w' ⟨rfl, hw'⟩; have hw'' := hw'.symm; subst hw''))
  go_ret
  exact ⟨rfl, below_alloc (Below.refl _ _) _⟩
 ·cases q2 : inB 1 1000000000000 amt
  ·go_enter Try.func97, Try.ntmps97
   go_wp2_with (first | (go_at_call 25; refine (numberOk_any _ _).mono ?_; rintro e w' ⟨rfl, hw'⟩; have hw'' := hw'.symm; subst hw'') | (go_at_call 26; refine (within_any _ _ _ _).mono ?_; rintro e w' ⟨rfl, hw'⟩; have hw'' := hw'.symm; subst hw''))
   go_ret
   exact ⟨rfl, below_alloc (Below.refl _ _) _⟩
  ·go_enter Try.func97, Try.ntmps97
   go_wp2_with (first | (go_at_call 25; refine (numberOk_any _ _).mono ?_; rintro e w' ⟨rfl, hw'⟩; have hw'' := hw'.symm; subst hw'') | (go_at_call 26; refine (within_any _ _ _ _).mono ?_; rintro e w' ⟨rfl, hw'⟩; have hw'' := hw'.symm; subst hw''))
   go_ret
   exact ⟨rfl, below_alloc (Below.refl _ _) _⟩
set_option maxHeartbeats 2000000 in
theorem okEarn_any (id amt : Int) (w : World) :
  Calls Try.prog 99 #[.agg #[J Z id, J Z amt]] w fun e w' => e = .returned (.bool (inB 1 1000000000 id && inB 1 1000000000000 amt)) ∧ Below w.heap.size w w' := by
 cases q1 : inB 1 1000000000 id
 ·go_enter Try.func99, Try.ntmps99
  go_wp2_with (first | (go_at_call 25; refine (numberOk_any _ _).mono ?_; rintro e w' ⟨rfl, hw'⟩; have hw'' := hw'.symm; subst hw'') | (go_at_call 26; refine (within_any _ _ _ _).mono ?_; rintro e w' ⟨rfl, hw'⟩; have hw'' := hw'.symm; subst hw''))
  go_ret
  exact ⟨rfl, below_alloc (Below.refl _ _) _⟩
 ·cases q2 : inB 1 1000000000000 amt
  ·go_enter Try.func99, Try.ntmps99
   go_wp2_with (first | (go_at_call 25; refine (numberOk_any _ _).mono ?_; rintro e w' ⟨rfl, hw'⟩; have hw'' := hw'.symm; subst hw'') | (go_at_call 26; refine (within_any _ _ _ _).mono ?_; rintro e w' ⟨rfl, hw'⟩; have hw'' := hw'.symm; subst hw''))
   go_ret
   exact ⟨rfl, below_alloc (Below.refl _ _) _⟩
  ·go_enter Try.func99, Try.ntmps99
   go_wp2_with (first | (go_at_call 25; refine (numberOk_any _ _).mono ?_; rintro e w' ⟨rfl, hw'⟩; have hw'' := hw'.symm; subst hw'') | (go_at_call 26; refine (within_any _ _ _ _).mono ?_; rintro e w' ⟨rfl, hw'⟩; have hw'' := hw'.symm; subst hw''))
   go_ret
   exact ⟨rfl, below_alloc (Below.refl _ _) _⟩
set_option maxHeartbeats 2000000 in
theorem okGive_any (to amt : Int) (w : World) :
  Calls Try.prog 101 #[.agg #[J Z to, J Z amt]] w fun e w' => e = .returned (.bool (inB 1 1000000000 to && inB 1 1000000000000 amt)) ∧ Below w.heap.size w w' := by
 cases q1 : inB 1 1000000000 to
 ·go_enter Try.func101, Try.ntmps101
  go_wp2_with (first | (go_at_call 25; refine (numberOk_any _ _).mono ?_; rintro e w' ⟨rfl, hw'⟩; have hw'' := hw'.symm; subst hw'') | (go_at_call 26; refine (within_any _ _ _ _).mono ?_; rintro e w' ⟨rfl, hw'⟩; have hw'' := hw'.symm; subst hw''))
  go_ret
  exact ⟨rfl, below_alloc (Below.refl _ _) _⟩
 ·cases q2 : inB 1 1000000000000 amt
  ·go_enter Try.func101, Try.ntmps101
   go_wp2_with (first | (go_at_call 25; refine (numberOk_any _ _).mono ?_; rintro e w' ⟨rfl, hw'⟩; have hw'' := hw'.symm; subst hw'') | (go_at_call 26; refine (within_any _ _ _ _).mono ?_; rintro e w' ⟨rfl, hw'⟩; have hw'' := hw'.symm; subst hw''))
   go_ret
   exact ⟨rfl, below_alloc (Below.refl _ _) _⟩
  ·go_enter Try.func101, Try.ntmps101
   go_wp2_with (first | (go_at_call 25; refine (numberOk_any _ _).mono ?_; rintro e w' ⟨rfl, hw'⟩; have hw'' := hw'.symm; subst hw'') | (go_at_call 26; refine (within_any _ _ _ _).mono ?_; rintro e w' ⟨rfl, hw'⟩; have hw'' := hw'.symm; subst hw''))
   go_ret
   exact ⟨rfl, below_alloc (Below.refl _ _) _⟩
set_option maxHeartbeats 2000000 in
theorem okAck_any (fr seq : Int) (w : World) :
  Calls Try.prog 107 #[.agg #[J Z fr, J Z seq]] w fun e w' => e = .returned (.bool (inB 1 1000000000 fr && inB 0 1000000000 seq)) ∧ Below w.heap.size w w' := by
 cases q1 : inB 1 1000000000 fr
 ·go_enter Try.func107, Try.ntmps107
  go_wp2_with (first | (go_at_call 25; refine (numberOk_any _ _).mono ?_; rintro e w' ⟨rfl, hw'⟩; have hw'' := hw'.symm; subst hw'') | (go_at_call 26; refine (within_any _ _ _ _).mono ?_; rintro e w' ⟨rfl, hw'⟩; have hw'' := hw'.symm; subst hw''))
  go_ret
  exact ⟨rfl, below_alloc (Below.refl _ _) _⟩
 ·cases q2 : inB 0 1000000000 seq
  ·go_enter Try.func107, Try.ntmps107
   go_wp2_with (first | (go_at_call 25; refine (numberOk_any _ _).mono ?_; rintro e w' ⟨rfl, hw'⟩; have hw'' := hw'.symm; subst hw'') | (go_at_call 26; refine (within_any _ _ _ _).mono ?_; rintro e w' ⟨rfl, hw'⟩; have hw'' := hw'.symm; subst hw''))
   go_ret
   exact ⟨rfl, below_alloc (Below.refl _ _) _⟩
  ·go_enter Try.func107, Try.ntmps107
   go_wp2_with (first | (go_at_call 25; refine (numberOk_any _ _).mono ?_; rintro e w' ⟨rfl, hw'⟩; have hw'' := hw'.symm; subst hw'') | (go_at_call 26; refine (within_any _ _ _ _).mono ?_; rintro e w' ⟨rfl, hw'⟩; have hw'' := hw'.symm; subst hw''))
   go_ret
   exact ⟨rfl, below_alloc (Below.refl _ _) _⟩
set_option maxHeartbeats 2000000 in
theorem okParcel_any (fr seq amt : Int) (w : World) :
  Calls Try.prog 105 #[.agg #[J Z fr, J Z seq, J Z amt]] w fun e w' => e = .returned (.bool (inB 1 1000000000 fr && pOkB (⟨seq, amt⟩ : Prc))) ∧ Below w.heap.size w w' := by
 cases q1 : inB 1 1000000000 fr
 ·go_enter Try.func105, Try.ntmps105
  go_wp2_with (first | (go_at_call 25; refine (numberOk_any _ _).mono ?_; rintro e w' ⟨rfl, hw'⟩; have hw'' := hw'.symm; subst hw'') | (go_at_call 69; refine (parcelOk_any _ _ _).mono ?_; rintro e w7 ⟨rfl, hb7⟩))
  go_ret
  exact ⟨rfl, below_alloc (Below.refl _ _) _⟩
 ·cases q2 : pOkB (⟨seq, amt⟩ : Prc)
  ·go_enter Try.func105, Try.ntmps105
   go_wp2_with (first | (go_at_call 25; refine (numberOk_any _ _).mono ?_; rintro e w' ⟨rfl, hw'⟩; have hw'' := hw'.symm; subst hw'') | (go_at_call 69; refine (parcelOk_any _ _ _).mono ?_; rintro e w7 ⟨rfl, hb7⟩))
   go_ret
   exact ⟨rfl, below_trans (below_alloc (Below.refl _ _) _) hb7⟩
  ·go_enter Try.func105, Try.ntmps105
   go_wp2_with (first | (go_at_call 25; refine (numberOk_any _ _).mono ?_; rintro e w' ⟨rfl, hw'⟩; have hw'' := hw'.symm; subst hw'') | (go_at_call 69; refine (parcelOk_any _ _ _).mono ?_; rintro e w7 ⟨rfl, hb7⟩))
   go_ret
   exact ⟨rfl, below_trans (below_alloc (Below.refl _ _) _) hb7⟩
end Go.Proofs.Ytkcpoibhlnjldaa
/- The contracts of the program's asked (parcels, acknowledgements, ticks), takeOf, spend and earn. -/
namespace Go.Proofs.Ytkcpoibhlnjldaa
open Go.Value renaming int → J, slice → V
open Go.IntKind renaming i64 → Z
open Go.ChangeShapes Go.WideShapes Go.ChangeAt Go.RowKit
set_option linter.unusedVariables false
set_option maxRecDepth 100000
set_option linter.unusedSimpArgs false
set_option maxHeartbeats 4000000 in
theorem askParcel_any (fr seq amt own : Int) (w : World) :
  Calls Try.prog 104 #[.agg #[J Z fr, J Z seq, J Z amt], J Z own] w fun e w' => e = .returned (.agg #[J Z 4, J Z 0, J Z 0, J Z 0, J Z fr, J Z own, J Z 1, J Z seq, J Z amt]) ∧ Below w.heap.size w w' := by
 have HK0 : Hid (Blk (w.heap.size + 1) [J Z 0, J Z 0, J Z 0, J Z 0, J Z 0, J Z 0, J Z 0, J Z 0, J Z 0] ((w.alloc (.cells #[J Z fr, J Z seq, J Z amt] 95)).alloc (.cells #[J Z 0, J Z 0, J Z 0, J Z 0, J Z 0, J Z 0, J Z 0, J Z 0, J Z 0] 31))) := hide (by have := Blk.new (w := (w.alloc (.cells #[J Z fr, J Z seq, J Z amt] 95))) (cur := [J Z 0, J Z 0, J Z 0, J Z 0, J Z 0, J Z 0, J Z 0, J Z 0, J Z 0]) (T := 31); simpa using this)
 have HB0 : Hid (Below w.heap.size w ((w.alloc (.cells #[J Z fr, J Z seq, J Z amt] 95)).alloc (.cells #[J Z 0, J Z 0, J Z 0, J Z 0, J Z 0, J Z 0, J Z 0, J Z 0, J Z 0] 31))) := hide (below_alloc (below_alloc (Below.refl _ _) _) _)
 go_enter Try.func104, Try.ntmps104
 go_wp2_with fail
 refine (parcelMsg_any _ _ _ _ _).mono ?_
 rintro e w7 ⟨rfl, hb7⟩
 have HB7 : Hid (Below w.heap.size w w7) := hide (below_trans HB0.out hb7)
 have HK7 : Hid (Blk (w.heap.size + 1) [J Z 0, J Z 0, J Z 0, J Z 0, J Z 0, J Z 0, J Z 0, J Z 0, J Z 0] w7) := hide (HK0.out.below hb7)
 clear hb7 HB0 HK0
 have c0 := HK7.out.c 0 _ rfl
 have f0 := HK7.out.f 0
 have c1 := HK7.out.c 1 _ rfl
 have f1 := HK7.out.f 1
 have c2 := HK7.out.c 2 _ rfl
 have f2 := HK7.out.f 2
 have c3 := HK7.out.c 3 _ rfl
 have f3 := HK7.out.f 3
 have c4 := HK7.out.c 4 _ rfl
 have f4 := HK7.out.f 4
 have c5 := HK7.out.c 5 _ rfl
 have f5 := HK7.out.f 5
 have c6 := HK7.out.c 6 _ rfl
 have f6 := HK7.out.f 6
 have c7 := HK7.out.c 7 _ rfl
 have f7 := HK7.out.f 7
 have c8 := HK7.out.c 8 _ rfl
 have f8 := HK7.out.f 8
 go_wp2
 have HKE : Hid _ := hide (((((((((HK7.out.set 0 (J Z 4) (by simp)).set 1 (J Z 0) (by simp)).set 2 (J Z 0) (by simp)).set 3 (J Z 0) (by simp)).set 4 (J Z fr) (by simp)).set 5 (J Z own) (by simp)).set 6 (J Z 1) (by simp)).set 7 (J Z seq) (by simp)).set 8 (J Z amt) (by simp))
 have y0 := HKE.out.c 0 _ rfl
 have y1 := HKE.out.c 1 _ rfl
 have y2 := HKE.out.c 2 _ rfl
 have y3 := HKE.out.c 3 _ rfl
 have y4 := HKE.out.c 4 _ rfl
 have y5 := HKE.out.c 5 _ rfl
 have y6 := HKE.out.c 6 _ rfl
 have y7 := HKE.out.c 7 _ rfl
 have y8 := HKE.out.c 8 _ rfl
 exact bodyPost_ret (v := .agg #[J Z 4, J Z 0, J Z 0, J Z 0, J Z fr, J Z own, J Z 1, J Z seq, J Z amt]) (by simp [results, Try.results104, go_sem, y0, y1, y2, y3, y4, y5, y6, y7, y8]) rfl ⟨rfl, (((((((((HB7.out.setCell (p := ⟨w.heap.size + 1, 0, none⟩) (Nat.le_succ _) _).setCell (p := ⟨w.heap.size + 1, 1, none⟩) (Nat.le_succ _) _).setCell (p := ⟨w.heap.size + 1, 2, none⟩) (Nat.le_succ _) _).setCell (p := ⟨w.heap.size + 1, 3, none⟩) (Nat.le_succ _) _).setCell (p := ⟨w.heap.size + 1, 4, none⟩) (Nat.le_succ _) _).setCell (p := ⟨w.heap.size + 1, 5, none⟩) (Nat.le_succ _) _).setCell (p := ⟨w.heap.size + 1, 6, none⟩) (Nat.le_succ _) _).setCell (p := ⟨w.heap.size + 1, 7, none⟩) (Nat.le_succ _) _).setCell (p := ⟨w.heap.size + 1, 8, none⟩) (Nat.le_succ _) _)⟩
set_option maxHeartbeats 4000000 in
theorem askAck_any (fr seq own : Int) (w : World) :
  Calls Try.prog 106 #[.agg #[J Z fr, J Z seq], J Z own] w fun e w' => e = .returned (.agg #[J Z 4, J Z 0, J Z 0, J Z 0, J Z fr, J Z own, J Z 2, J Z seq, J Z 0]) ∧ Below w.heap.size w w' := by
 have HK0 : Hid (Blk (w.heap.size + 1) [J Z 0, J Z 0, J Z 0, J Z 0, J Z 0, J Z 0, J Z 0, J Z 0, J Z 0] ((w.alloc (.cells #[J Z fr, J Z seq] 98)).alloc (.cells #[J Z 0, J Z 0, J Z 0, J Z 0, J Z 0, J Z 0, J Z 0, J Z 0, J Z 0] 31))) := hide (by have := Blk.new (w := (w.alloc (.cells #[J Z fr, J Z seq] 98))) (cur := [J Z 0, J Z 0, J Z 0, J Z 0, J Z 0, J Z 0, J Z 0, J Z 0, J Z 0]) (T := 31); simpa using this)
 have HB0 : Hid (Below w.heap.size w ((w.alloc (.cells #[J Z fr, J Z seq] 98)).alloc (.cells #[J Z 0, J Z 0, J Z 0, J Z 0, J Z 0, J Z 0, J Z 0, J Z 0, J Z 0] 31))) := hide (below_alloc (below_alloc (Below.refl _ _) _) _)
 go_enter Try.func106, Try.ntmps106
 go_wp2_with fail
 refine (ackMsg_any _ _ _ _).mono ?_
 rintro e w7 ⟨rfl, hb7⟩
 have HB7 : Hid (Below w.heap.size w w7) := hide (below_trans HB0.out hb7)
 have HK7 : Hid (Blk (w.heap.size + 1) [J Z 0, J Z 0, J Z 0, J Z 0, J Z 0, J Z 0, J Z 0, J Z 0, J Z 0] w7) := hide (HK0.out.below hb7)
 clear hb7 HB0 HK0
 have c0 := HK7.out.c 0 _ rfl
 have f0 := HK7.out.f 0
 have c1 := HK7.out.c 1 _ rfl
 have f1 := HK7.out.f 1
 have c2 := HK7.out.c 2 _ rfl
 have f2 := HK7.out.f 2
 have c3 := HK7.out.c 3 _ rfl
 have f3 := HK7.out.f 3
 have c4 := HK7.out.c 4 _ rfl
 have f4 := HK7.out.f 4
 have c5 := HK7.out.c 5 _ rfl
 have f5 := HK7.out.f 5
 have c6 := HK7.out.c 6 _ rfl
 have f6 := HK7.out.f 6
 have c7 := HK7.out.c 7 _ rfl
 have f7 := HK7.out.f 7
 have c8 := HK7.out.c 8 _ rfl
 have f8 := HK7.out.f 8
 go_wp2
 have HKE : Hid _ := hide (((((((((HK7.out.set 0 (J Z 4) (by simp)).set 1 (J Z 0) (by simp)).set 2 (J Z 0) (by simp)).set 3 (J Z 0) (by simp)).set 4 (J Z fr) (by simp)).set 5 (J Z own) (by simp)).set 6 (J Z 2) (by simp)).set 7 (J Z seq) (by simp)).set 8 (J Z 0) (by simp))
 have y0 := HKE.out.c 0 _ rfl
 have y1 := HKE.out.c 1 _ rfl
 have y2 := HKE.out.c 2 _ rfl
 have y3 := HKE.out.c 3 _ rfl
 have y4 := HKE.out.c 4 _ rfl
 have y5 := HKE.out.c 5 _ rfl
 have y6 := HKE.out.c 6 _ rfl
 have y7 := HKE.out.c 7 _ rfl
 have y8 := HKE.out.c 8 _ rfl
 exact bodyPost_ret (v := .agg #[J Z 4, J Z 0, J Z 0, J Z 0, J Z fr, J Z own, J Z 2, J Z seq, J Z 0]) (by simp [results, Try.results106, go_sem, y0, y1, y2, y3, y4, y5, y6, y7, y8]) rfl ⟨rfl, (((((((((HB7.out.setCell (p := ⟨w.heap.size + 1, 0, none⟩) (Nat.le_succ _) _).setCell (p := ⟨w.heap.size + 1, 1, none⟩) (Nat.le_succ _) _).setCell (p := ⟨w.heap.size + 1, 2, none⟩) (Nat.le_succ _) _).setCell (p := ⟨w.heap.size + 1, 3, none⟩) (Nat.le_succ _) _).setCell (p := ⟨w.heap.size + 1, 4, none⟩) (Nat.le_succ _) _).setCell (p := ⟨w.heap.size + 1, 5, none⟩) (Nat.le_succ _) _).setCell (p := ⟨w.heap.size + 1, 6, none⟩) (Nat.le_succ _) _).setCell (p := ⟨w.heap.size + 1, 7, none⟩) (Nat.le_succ _) _).setCell (p := ⟨w.heap.size + 1, 8, none⟩) (Nat.le_succ _) _)⟩
set_option maxHeartbeats 2000000 in
theorem askTick_any (own : Int) (w : World) :
  Calls Try.prog 102 #[.agg #[], J Z own] w fun e w' => e = .returned (.agg #[J Z 5, J Z 0, J Z 0, J Z 0, J Z 0, J Z 0, J Z 0, J Z 0, J Z 0]) ∧ Below w.heap.size w w' := by
 go_enter Try.func102, Try.ntmps102
 go_wp2
 exact bodyPost_ret (v := .agg #[J Z 5, J Z 0, J Z 0, J Z 0, J Z 0, J Z 0, J Z 0, J Z 0, J Z 0]) (by simp [results, Try.results102, go_sem]) rfl ⟨rfl, below_alloc (below_alloc (Below.refl _ _) _) _⟩
set_option maxHeartbeats 2000000 in
theorem okTick_any (w : World) :
  Calls Try.prog 103 #[.agg #[]] w fun e w' => e = .returned (.bool true) ∧ Below w.heap.size w w' := by
 go_enter Try.func103, Try.ntmps103
 go_wp2
 go_ret
 exact ⟨rfl, below_alloc (Below.refl _ _) _⟩
set_option maxHeartbeats 2000000 in
theorem takeOf_any (fr to kind seq amt : Int) (w : World) :
  Calls Try.prog 37 #[.agg #[J Z fr, J Z to, J Z kind, J Z seq, J Z amt]] w fun e w' => e = .returned (if kind = 2 then .iface 98 (.agg #[J Z fr, J Z seq]) else .iface 95 (.agg #[J Z fr, J Z seq, J Z amt])) ∧ Below w.heap.size w w' := by
 by_cases h : kind = 2
 ·subst h
  go_enter Try.func37, Try.ntmps37
  go_wp2
  go_ret
  exact ⟨rfl, below_alloc (Below.refl _ _) _⟩
 ·have h' : (kind == 2) = false := by simpa using h
  have HR : Hid _ := hide h
  clear h
  go_enter Try.func37, Try.ntmps37
  go_wp2
  go_ret
  exact ⟨by first | rfl | (rw [if_neg HR.out]; rfl), below_alloc (Below.refl _ _) _⟩

end Go.Proofs.Ytkcpoibhlnjldaa
/- The contracts of the program's spend, earn and endTo, at a node that lies in a block. -/
namespace Go.Proofs.Ytkcpoibhlnjldaa
open Go.Value renaming int → J, slice → V
open Go.IntKind renaming i64 → Z
open Go.ChangeShapes Go.WideShapes Go.ChangeAt Go.RowKit
set_option linter.unusedVariables false
set_option maxRecDepth 100000
/-- what spending gives: the code, what it has, what it has spent -/
def spendM (has spent amt : Int) : Int × Int × Int := if has < amt then (4, has, spent) else if 1000000000000 < spent + amt then (6, has, spent) else (0, has - amt, spent + amt)
/-- what earning gives: the code, what it has, what it has earned -/
def earnM (has earned amt : Int) : Int × Int × Int := if 10000000000000 < has + amt ∨ 1000000000000 < earned + amt then (6, has, earned) else (0, has + amt, earned + amt)
def SpEnd (B : Nat) (id has spent earned amt : Int) (sv pv : Value) (w : World) (e : Ending) (w' : World) : Prop := e = .returned (J Z (spendM has spent amt).1) ∧ Turned B w w' ∧ Blk B [J Z id, J Z (spendM has spent amt).2.1, J Z (spendM has spent amt).2.2, J Z earned, sv, pv] w'
def EaEnd (B : Nat) (id has spent earned amt : Int) (sv pv : Value) (w : World) (e : Ending) (w' : World) : Prop := e = .returned (J Z (earnM has earned amt).1) ∧ Turned B w w' ∧ Blk B [J Z id, J Z (earnM has earned amt).2.1, J Z spent, J Z (earnM has earned amt).2.2, sv, pv] w'
theorem wrap_in {n : Int} (h1 : -9223372036854775808 ≤ n) (h2 : n ≤ 9223372036854775807) : IntKind.i64.wrap n = n := by simp only [IntKind.wrap, IntKind.signed, IntKind.bits]; simp; omega
set_option maxHeartbeats 4000000 in
theorem spend_any (B : Nat) (id has spent earned amt : Int) (sv pv : Value) (w : World) (K : Blk B [J Z id, J Z has, J Z spent, J Z earned, sv, pv] w) (h1 : 0 ≤ has ∧ has ≤ 10000000000000) (h2 : 0 ≤ spent ∧ spent ≤ 1000000000000) (h3 : 0 ≤ amt ∧ amt ≤ 1000000000000) :
  Calls Try.prog 40 #[.pointer (some ⟨B, 0, none⟩), J Z amt] w fun e w' => SpEnd B id has spent earned amt sv pv w e w' := by
 have HK : Hid _ := hide K
 have hB := K.lt
 have c1 : w.cell? ⟨B, 1, none⟩ = some (J Z has) := K.c 1 _ rfl
 have c2 : w.cell? ⟨B, 2, none⟩ = some (J Z spent) := K.c 2 _ rfl
 have f1 := K.f 1
 have f2 := K.f 2
 have e1 : IntKind.i64.wrap (has - amt) = has - amt := wrap_in (by omega) (by omega)
 have e2 : IntKind.i64.wrap (spent + amt) = spent + amt := wrap_in (by omega) (by omega)
 clear K
 by_cases q1 : has < amt
 ·have HM : Hid (spendM has spent amt = (4, has, spent)) := hide (by simp [spendM, q1])
  go_enter Try.func40, Try.ntmps40
  go_wp2
  go_ret
  unfold SpEnd
  rw [HM.out]
  exact ⟨rfl, Turned.refl _ _, HK.out⟩
 ·by_cases q2 : 1000000000000 < spent + amt
  ·have HM : Hid (spendM has spent amt = (6, has, spent)) := hide (by simp [spendM, q1, q2])
   go_enter Try.func40, Try.ntmps40
   go_wp2
   go_ret
   unfold SpEnd
   rw [HM.out]
   exact ⟨rfl, Turned.refl _ _, HK.out⟩
  ·have HM : Hid (spendM has spent amt = (0, has - amt, spent + amt)) := hide (by simp [spendM, q1, q2])
   have c2' : (w.setCell ⟨B, 1, none⟩ (J Z (has - amt))).cell? ⟨B, 2, none⟩ = some (J Z spent) := by rw [cell_set_other (.inr (by simp))]; exact c2
   go_enter Try.func40, Try.ntmps40
   go_wp2
   go_ret
   unfold SpEnd
   rw [HM.out]
   exact ⟨rfl, ((Turned.refl _ _).setCell _).setCell _, (HK.out.set 1 _ (by simp)).set 2 _ (by simp)⟩
set_option maxHeartbeats 4000000 in
theorem earn_any (B : Nat) (id has spent earned amt : Int) (sv pv : Value) (w : World) (K : Blk B [J Z id, J Z has, J Z spent, J Z earned, sv, pv] w) (h1 : 0 ≤ has ∧ has ≤ 10000000000000) (h2 : 0 ≤ earned ∧ earned ≤ 1000000000000) (h3 : 0 ≤ amt ∧ amt ≤ 1000000000000) :
  Calls Try.prog 42 #[.pointer (some ⟨B, 0, none⟩), J Z amt] w fun e w' => EaEnd B id has spent earned amt sv pv w e w' := by
 have HK : Hid _ := hide K
 have hB := K.lt
 have c1 : w.cell? ⟨B, 1, none⟩ = some (J Z has) := K.c 1 _ rfl
 have c3 : w.cell? ⟨B, 3, none⟩ = some (J Z earned) := K.c 3 _ rfl
 have f1 := K.f 1
 have f3 := K.f 3
 have e1 : IntKind.i64.wrap (has + amt) = has + amt := wrap_in (by omega) (by omega)
 have e2 : IntKind.i64.wrap (earned + amt) = earned + amt := wrap_in (by omega) (by omega)
 clear K
 by_cases q1 : 10000000000000 < has + amt
 ·have HM : Hid (earnM has earned amt = (6, has, earned)) := hide (by simp [earnM, q1])
  go_enter Try.func42, Try.ntmps42
  go_wp2
  go_ret
  unfold EaEnd
  rw [HM.out]
  exact ⟨rfl, Turned.refl _ _, HK.out⟩
 ·by_cases q2 : 1000000000000 < earned + amt
  ·have HM : Hid (earnM has earned amt = (6, has, earned)) := hide (by simp [earnM, q2])
   go_enter Try.func42, Try.ntmps42
   go_wp2
   go_ret
   unfold EaEnd
   rw [HM.out]
   exact ⟨rfl, Turned.refl _ _, HK.out⟩
  ·have HM : Hid (earnM has earned amt = (0, has + amt, earned + amt)) := hide (by simp [earnM]; omega)
   have c3' : (w.setCell ⟨B, 1, none⟩ (J Z (has + amt))).cell? ⟨B, 3, none⟩ = some (J Z earned) := by rw [cell_set_other (.inr (by simp))]; exact c3
   go_enter Try.func42, Try.ntmps42
   go_wp2
   go_ret
   unfold EaEnd
   rw [HM.out]
   exact ⟨rfl, ((Turned.refl _ _).setCell _).setCell _, (HK.out.set 1 _ (by simp)).set 3 _ (by simp)⟩
end Go.Proofs.Ytkcpoibhlnjldaa
/- The contract of the program's endTo. -/
namespace Go.Proofs.Ytkcpoibhlnjldaa
open Go.Value renaming int → J, slice → V
open Go.IntKind renaming i64 → Z
open Go.ChangeShapes Go.WideShapes Go.ChangeAt Go.RowKit
set_option linter.unusedVariables false
set_option maxRecDepth 100000
/-- where the end to a peer lies -/
def endPtr (pa : Option Addr) (l : List Pr) (to : Int) : Option Addr := match pa, fi (l.map Pr.id) to with
 | some a, some i => some ⟨a.block, a.off + i * 4 + 1, none⟩
 | _, _ => none
theorem endPtr_miss {pa : Option Addr} {l : List Pr} {to : Int} (h : fi (l.map Pr.id) to = none) : endPtr pa l to = none := by
 unfold endPtr
 rw [h]
 cases pa <;> rfl
theorem endPtr_hit {l : List Pr} {to : Int} {i b off : Nat} (h : fi (l.map Pr.id) to = some i) : endPtr (some ⟨b, off, none⟩) l to = some ⟨b, off + i * 4 + 1, none⟩ := by
 unfold endPtr
 rw [h]
set_option maxHeartbeats 4000000 in
theorem endTo_any (B : Nat) (v0 v1 v2 v3 v4 : Value) (pa : Option Addr) (l : List Pr) (pc : Nat) (to : Int) (w : World) (K : Blk B [v0, v1, v2, v3, v4, V pa l.length pc] w) (hl : l.length ≤ 1048576) (h : RowAt 4 prCells w pa l) :
  Calls Try.prog 62 #[.pointer (some ⟨B, 0, none⟩), J Z to] w fun e w' => e = .returned (.pointer (endPtr pa l to)) ∧ Below w.heap.size w w' := by
 have HK : Hid _ := hide K
 have HC : Hid _ := hide h
 have hB := K.lt
 have k5 : w.cell? ⟨B, 5, none⟩ = some (V pa l.length pc) := K.c 5 _ rfl
 clear K h
 go_enter Try.func62, Try.ntmps62
 go_wp2
 go_loopw [12] (fun i wr => ∃ k : Nat, k ≤ l.length ∧ i = J Z (k : Int) ∧ Below w.heap.size w wr ∧ Hid (∀ j (hj : j < l.length), j < k → l[j].id ≠ to)) (fun i wr => l.length - (intOf i).toNat)
 case atStart => exact ⟨0, Nat.zero_le _, rfl, Below.refl _ _, hide (fun j _ hj => by omega)⟩
 case round =>
  obtain ⟨k, hk, rfl, HB, HN⟩ := hrel
  by_cases hlt : k < l.length
  ·obtain ⟨b, off, hpa, hb, c0, c1, c2, c3⟩ := pr_row (HC.out.below HB) k hlt
   have hlt' : (k : Int) < (l.length : Int) := by omega
   subst hpa
   have k5' : (wr.alloc (.cells #[J Z (l[k]).id, V (l[k]).a (l[k]).E.out.length (l[k]).cap, J Z (l[k]).E.sent, J Z (l[k]).E.got] 41)).cell? ⟨B, 5, none⟩ = some (V (some ⟨b, off, none⟩) l.length pc) := (World.cell?_alloc_past _ _ _ (Nat.lt_of_lt_of_le hB HB.size)).trans ((HB.cell hB).trans k5)
   have HBN : Hid (Below w.heap.size w (wr.alloc (.cells #[J Z (l[k]).id, V (l[k]).a (l[k]).E.out.length (l[k]).cap, J Z (l[k]).E.sent, J Z (l[k]).E.got] 41))) := hide (below_alloc HB _)
   cases hq : ((l[k]).id == to)
   ·have HS : Hid (∀ j (hj : j < l.length), j < k + 1 → l[j].id ≠ to) := hide (fun j hj hjk => by
     rcases Nat.lt_or_ge j k with h | h
     ·exact HN.out j hj h
     ·obtain rfl : j = k := by omega
      simpa using hq)
    go_wp2
    exact ⟨⟨k + 1, by omega, by go_num, HBN.out, HS⟩, by simp [intOf]; omega⟩
   ·have HE : Hid (fi (l.map Pr.id) to = some k) := hide (fi_hit (by simpa using hlt) (by simpa using hq) (fun j hj hjk => by have := HN.out j (by simpa using hj) hjk; simpa using this))
    go_wp2
    go_ret
    exact ⟨by rw [endPtr_hit HE.out]; rfl, HBN.out⟩
  ·have HE : Hid (fi (l.map Pr.id) to = none) := hide (fi_miss (fun i hi => by have := HN.out i (by simpa using hi) (by have : i < l.length := (by simpa using hi); omega); simpa using this))
   have hk' : ¬ (k : Int) < (l.length : Int) := by omega
   go_wp2
   go_ret
   exact ⟨by rw [endPtr_miss HE.out]; rfl, HB⟩
end Go.Proofs.Ytkcpoibhlnjldaa
/- The contract of the program's Acked. -/
namespace Go.Proofs.Ytkcpoibhlnjldaa
open Go.Value renaming int → J, slice → V
open Go.IntKind renaming i64 → Z
open Go.ChangeShapes Go.WideShapes Go.ChangeAt Go.RowKit
set_option linter.unusedVariables false
def ackOk (E : En) (s : Int) : Bool := endB E && inB 0 E.sent s
def ackE (E : En) (s : Int) : En := if ackOk E s then ⟨E.out.filter (fun p => decide (s < p.seq)), E.sent, E.got⟩ else ⟨[], 0, 0⟩
/-- an end, and a flag -/
def EndFlag (E : En) (b : Bool) (w : World) (e : Ending) (w' : World) : Prop := Below w.heap.size w w' ∧ ∃ v, e = .returned (.tuple #[.agg #[v, J Z E.sent, J Z E.got], .bool b]) ∧ NewRow 2 prcCells E.out w v w'
theorem filter_drop {l : List Prc} {s : Int} {d : Nat} (h1 : ∀ j (hj : j < l.length), j < d → ¬ s < l[j].seq) (h2 : ∀ j (hj : j < l.length), d ≤ j → s < l[j].seq) : l.filter (fun p => decide (s < p.seq)) = l.drop d := by
 have e := List.take_append_drop d l
 have f1 : (l.take d).filter (fun p => decide (s < p.seq)) = [] := List.filter_eq_nil_iff.2 (fun x hx => by
  obtain ⟨i, hi, rfl⟩ := List.getElem_of_mem hx
  have hi' : i < d ∧ i < l.length := by simp at hi; omega
  have : (l.take d)[i] = l[i]'hi'.2 := by simp
  rw [this]
  simpa using h1 i hi'.2 hi'.1)
 have f2 : (l.drop d).filter (fun p => decide (s < p.seq)) = l.drop d := List.filter_eq_self.2 (fun x hx => by
  obtain ⟨i, hi, rfl⟩ := List.getElem_of_mem hx
  have hi' : d + i < l.length := by simp at hi; omega
  have : (l.drop d)[i] = l[d + i] := by simp
  rw [this]
  simpa using h2 (d + i) hi' (by omega))
 exact (congrArg (List.filter (fun p => decide (s < p.seq))) e.symm).trans (by rw [List.filter_append, f1, f2, List.nil_append])
theorem outL_acked {l : List Prc} {sent got s : Int} {room : List Prc} (q : endB ⟨l, sent, got⟩ = true) (hs : s ≤ sent) (h : ∀ j (hj : j < l.length), room[plc l[j].seq]? = some l[j]) : outL (max (sent - (l.length : Int)) s) sent room = l.filter (fun p => decide (s < p.seq)) := by
 have hseq : ∀ j (hj : j < l.length), l[j].seq = sent - (l.length : Int) + 1 + (j : Int) := fun j hj => ((endB_parts q).2.2.2 j hj).1
 obtain ⟨d, hd⟩ : ∃ d : Nat, (d : Int) = max (sent - (l.length : Int)) s - (sent - (l.length : Int)) := ⟨(max (sent - (l.length : Int)) s - (sent - (l.length : Int))).toNat, by omega⟩
 have hdl : d ≤ l.length := by omega
 rw [filter_drop (d := d) (fun j hj hjd => by rw [hseq j hj]; omega) (fun j hj hjd => by rw [hseq j hj]; omega)]
 apply List.ext_getElem
 ·rw [outL_len, List.length_drop]; omega
 ·intro i h1 h2
  have hi : d + i < l.length := by simp at h2; omega
  have hh := h (d + i) hi
  rw [hseq (d + i) hi] at hh
  simp only [outL, List.getElem_map, List.getElem_range, List.getElem_drop]
  rw [show max (sent - (l.length : Int)) s + 1 + (i : Int) = sent - (l.length : Int) + 1 + ((d + i : Nat) : Int) by omega, hh]
  rfl
/-- the blocks that Acked lays first: e, the answer -/
structure AckAt (w : World) (v0 : Value) (sent got : Int) (x : World) : Prop where
 old : Below w.heap.size w x
 lt : w.heap.size + 2 ≤ x.heap.size
 e0 : x.cell? ⟨w.heap.size, 0, none⟩ = some v0
 e1 : x.cell? ⟨w.heap.size, 1, none⟩ = some (J Z sent)
 e2 : x.cell? ⟨w.heap.size, 2, none⟩ = some (J Z got)
 res : ResMid (w.heap.size + 1) x
theorem ack_start (w : World) (v0 : Value) (sent got : Int) : AckAt w v0 sent got ((w.alloc (.cells #[v0, J Z sent, J Z got] 39)).alloc (.cells #[V none 0 0, J Z 0, J Z 0] 39)) := by
 obtain ⟨wa, hwa⟩ : ∃ wa, wa = w.alloc (.cells #[v0, J Z sent, J Z got] 39) := ⟨_, rfl⟩
 have sa : wa.heap.size = w.heap.size + 1 := by rw [hwa]; simp
 have b1 : Below (w.heap.size + 1) (w.alloc (.cells #[v0, J Z sent, J Z got] 39)) (wa.alloc (.cells #[V none 0 0, J Z 0, J Z 0] 39)) := by
  rw [← hwa]; exact (Below.refl _ _).alloc (by omega) _
 rw [← hwa]
 obtain ⟨⟨x0, x1, x2⟩, _⟩ := new_block b1
 obtain ⟨⟨y0, y1, y2⟩, fy⟩ := new_block (w := wa) (v0 := V none 0 0) (v1 := J Z 0) (v2 := J Z 0) (T := 39) (Below.refl _ _)
 rw [sa] at y0 y1 y2 fy
 refine ⟨box_old b1, by simp [sa], x0, x1, x2, ⟨by simp [sa], fun j hj => ?_, fy⟩⟩
 match j, hj with
 | 0, _ => exact ⟨_, y0⟩
 | 1, _ => exact ⟨_, y1⟩
 | 2, _ => exact ⟨_, y2⟩
theorem AckAt.on {w x y : World} {v0 : Value} {sent got : Int} (h : AckAt w v0 sent got x) {B : Nat} (hB : w.heap.size + 2 ≤ B) (b : Below B x y) : AckAt w v0 sent got y :=
 ⟨h.old.trans (b.mono (by omega)), Nat.le_trans h.lt b.size, (b.cell (by show w.heap.size < B; omega)).trans h.e0, (b.cell (by show w.heap.size < B; omega)).trans h.e1, (b.cell (by show w.heap.size < B; omega)).trans h.e2, h.res.keep (b.block _ (by omega)) b.size⟩
theorem AckAt.next {w x y : World} {v0 : Value} {sent got : Int} (h : AckAt w v0 sent got x) (b : Below x.heap.size x y) : AckAt w v0 sent got y := h.on h.lt b
theorem flag_set {w x : World} {E : En} {v : Value} {fl : Bool} (hold : Below w.heap.size w x) (b : Nat) (hb : w.heap.size ≤ b) (g : Nat) (a : Option Addr) (cap : Nat) (hg : b < g) (hv : v = V a E.out.length cap) (ho : OwnRow 2 prcCells x g a cap E.out) :
  EndFlag E fl w (.returned (.tuple #[.agg #[v, J Z E.sent, J Z E.got], .bool fl])) (((x.setCell ⟨b, 0, none⟩ v).setCell ⟨b, 1, none⟩ (J Z E.sent)).setCell ⟨b, 2, none⟩ (J Z E.got)) :=
 ⟨((hold.setCell (p := ⟨b, 0, none⟩) hb _).setCell (p := ⟨b, 1, none⟩) hb _).setCell (p := ⟨b, 2, none⟩) hb _, v, rfl, g, a, cap, by omega, hv, ho.turned ((((Turned.refl b x).setCell _).setCell _).setCell _) (fun _ => by omega)⟩
theorem flag_zero {w x : World} {fl : Bool} (hold : Below w.heap.size w x) (b : Nat) (hb : w.heap.size ≤ b) :
  EndFlag ⟨[], 0, 0⟩ fl w (.returned (.tuple #[.agg #[V none 0 0, J Z 0, J Z 0], .bool fl])) (((x.setCell ⟨b, 0, none⟩ (V none 0 0)).setCell ⟨b, 1, none⟩ (J Z 0)).setCell ⟨b, 2, none⟩ (J Z 0)) :=
 flag_set (E := ⟨[], 0, 0⟩) hold b hb (b + 1) none 0 (by omega) rfl (OwnRow.nil (fun _ => rfl))
set_option maxRecDepth 100000 in
set_option maxHeartbeats 8000000 in
theorem implAcked_any (a : Option Addr) (l : List Prc) (cap : Nat) (sent got s : Int) (w : World) (hl : l.length ≤ 1048576) (h : RowAt 2 prcCells w a l) :
  Calls Try.prog 67 #[.agg #[V a l.length cap, J Z sent, J Z got], J Z s] w fun e w' => EndFlag (ackE ⟨l, sent, got⟩ s) (ackOk ⟨l, sent, got⟩ s) w e w' := by
 have HC : Hid _ := hide h
 clear h
 have HW : Hid _ := hide (ack_start w (V a l.length cap) sent got)
 go_enter Try.func67, Try.ntmps67
 go_wp2_with fail
 refine (implEndOk_any a l cap sent got _ hl (HC.out.below HW.out.old)).mono ?_
 rintro e w1 ⟨rfl, hb1⟩
 have HA1 : Hid _ := hide (HW.out.next hb1)
 clear hb1 HW
 obtain ⟨⟨t0, r0⟩, ⟨t1, r1⟩, ⟨t2, r2⟩⟩ := And.intro (HA1.out.res.c 0 (by omega)) (And.intro (HA1.out.res.c 1 (by omega)) (HA1.out.res.c 2 (by omega)))
 have f0 := HA1.out.res.f 0
 have f1 := HA1.out.res.f 1
 have f2 := HA1.out.res.f 2
 have y1 := HA1.out.e1
 cases q : endB ⟨l, sent, got⟩
 ·have HO : Hid (ackOk ⟨l, sent, got⟩ s = false) := hide (by simp [ackOk, q])
  have HE : Hid _ := hide (flag_zero (fl := false) HA1.out.old (w.heap.size + 1) (by omega))
  go_wp2
  refine bodyPost_ret (v := .tuple #[.agg #[V none 0 0, J Z 0, J Z 0], .bool false]) (by simp [results, Try.results67, go_sem, r0, r1, r2]) rfl ?_
  simp only [ackE, HO.out]
  exact HE.out
 ·cases q2 : inB 0 sent s
  ·have HO : Hid (ackOk ⟨l, sent, got⟩ s = false) := hide (by simp [ackOk, q2])
   have HE : Hid _ := hide (flag_zero (fl := false) HA1.out.old (w.heap.size + 1) (by omega))
   go_wp2_with (first | (go_at_call 26; refine (within_any _ _ _ _).mono ?_; rintro e w' ⟨rfl, hw'⟩; have hw'' := hw'.symm; subst hw''))
   refine bodyPost_ret (v := .tuple #[.agg #[V none 0 0, J Z 0, J Z 0], .bool false]) (by simp [results, Try.results67, go_sem, r0, r1, r2]) rfl ?_
   simp only [ackE, HO.out]
   exact HE.out
  ·have HO : Hid (ackOk ⟨l, sent, got⟩ s = true) := hide (by simp [ackOk, q, q2])
   have HQ : Hid _ := hide q
   have hs0 : 0 ≤ sent := (endB_parts q).2.1.1
   have hs1 : sent ≤ 1000000000 := (endB_parts q).2.1.2
   have h8 : l.length ≤ 8 := (endB_parts q).1
   have hsn : (l.length : Int) ≤ sent := by
    by_cases h0 : 0 < l.length
    ·have := (endB_parts q).2.2.2 0 h0
     simp only at this
     omega
    ·omega
   have hss : 0 ≤ s ∧ s ≤ sent := by simpa only [inB, decide_eq_true_eq] using q2
   obtain ⟨hss0, hss1⟩ := hss
   have y0 := HA1.out.e0
   have y2 := HA1.out.e2
   clear q r0 r1 r2 f0 f1 f2
   go_wp2_with (first | (go_at_call 26; refine (within_any _ _ _ _).mono ?_; rintro e w' ⟨rfl, hw'⟩; have hw'' := hw'.symm; subst hw'') | fail)
   refine (ringOf_any a l cap sent got w1 HQ.out (HC.out.below HA1.out.old)).mono ?_
   rintro e w3 ⟨hb3, R, room, hR, rfl, hring, hroom⟩
   have HA3 : Hid _ := hide (HA1.out.next hb3)
   have HRING : Hid _ := hide hring
   have HOUT : Hid _ := hide (outL_acked HQ.out hss1 hroom)
   have HR : Hid (w.heap.size + 2 ≤ R) := hide (Nat.le_trans HA1.out.lt hR)
   clear hb3 hR hring hroom y0 y1 y2 q2
   go_wp2_with fail
   refine (drop_any R _ _ s _ w3 HRING.out).mono ?_
   rintro e w4 ⟨rfl, hb4, hsz4, hring4⟩
   have HA4 : Hid _ := hide (HA3.out.on HR.out hb4)
   have HRING4 : Hid _ := hide hring4
   clear hb4 hsz4 hring4
   have z2 := HA4.out.e2
   go_wp2_with fail
   refine (end_any R _ _ got _ w4 HRING4.out (by omega) (And.intro (by omega) (by omega)) (by omega)).mono ?_
   rw [HOUT.out]
   rintro e w5 ⟨hb5, v5, rfl, g5, a5, c5, hg5, rfl, ho5⟩
   have HA5 : Hid _ := hide (HA4.out.next hb5)
   have HE : Hid _ := hide (flag_set (E := ⟨l.filter (fun p => decide (s < p.seq)), sent, got⟩) (fl := true) HA5.out.old (w.heap.size + 1) (by omega) g5 a5 c5 (by have := HA4.out.lt; omega) rfl ho5)
   obtain ⟨⟨t0, r0⟩, ⟨t1, r1⟩, ⟨t2, r2⟩⟩ := And.intro (HA5.out.res.c 0 (by omega)) (And.intro (HA5.out.res.c 1 (by omega)) (HA5.out.res.c 2 (by omega)))
   have f0 := HA5.out.res.f 0
   have f1 := HA5.out.res.f 1
   have f2 := HA5.out.res.f 2
   clear hb5 hg5 ho5 z2
   go_wp2
   refine bodyPost_ret (v := .tuple #[.agg #[V a5 (l.filter (fun p => decide (s < p.seq))).length c5, J Z sent, J Z got], .bool true]) (by simp [results, Try.results67, go_sem, r0, r1, r2]) rfl ?_
   have e1 : ackE ⟨l, sent, got⟩ s = ⟨l.filter (fun p => decide (s < p.seq)), sent, got⟩ := if_pos HO.out
   rw [e1, HO.out]
   exact HE.out
end Go.Proofs.Ytkcpoibhlnjldaa
/- The contract of the program's acknowledge. -/
namespace Go.Proofs.Ytkcpoibhlnjldaa
open Go.Value renaming int → J, slice → V
open Go.IntKind renaming i64 → Z
open Go.ChangeShapes Go.WideShapes Go.ChangeAt Go.RowKit
set_option linter.unusedVariables false
set_option maxRecDepth 100000
/-- an end written anew, in a row of peers -/
def setEnd (w : World) (b o : Nat) (v : Value) (E : En) : World := ((w.setCell ⟨b, o + 1, none⟩ v).setCell ⟨b, o + 1 + 1, none⟩ (J Z E.sent)).setCell ⟨b, o + 1 + 2, none⟩ (J Z E.got)
/-- where there is no such peer -/
def CodeEnd (c : Int) (w : World) (e : Ending) (w' : World) : Prop := e = .returned (J Z c) ∧ Below w.heap.size w w'
/-- acknowledged: a new row, and the end written anew -/
def AckEnd (b o : Nat) (E : En) (w : World) (e : Ending) (w' : World) : Prop := e = .returned (J Z 0) ∧ ∃ w1 v ob, Below w.heap.size w w1 ∧ NewRow 2 prcCells E.out w v w1 ∧ w' = (setEnd w1 b o v E).alloc ob
set_option maxHeartbeats 4000000 in
theorem ack_none (B : Nat) (v0 v1 v2 v3 v4 : Value) (pa : Option Addr) (l : List Pr) (pc : Nat) (to s : Int) (w : World) (K : Blk B [v0, v1, v2, v3, v4, V pa l.length pc] w) (hl : l.length ≤ 1048576) (h : RowAt 4 prCells w pa l) (hf : fi (l.map Pr.id) to = none) :
  Calls Try.prog 45 #[.pointer (some ⟨B, 0, none⟩), J Z to, J Z s] w fun e w' => CodeEnd 3 w e w' := by
 have HK : Hid _ := hide K
 have HC : Hid _ := hide h
 have HF : Hid _ := hide hf
 clear K h hf
 go_enter Try.func45, Try.ntmps45
 go_wp2_with fail
 refine (endTo_any B v0 v1 v2 v3 v4 pa l pc to w HK.out hl HC.out).mono ?_
 rw [endPtr_miss HF.out]
 rintro e w1 ⟨rfl, hb1⟩
 have HB1 : Hid _ := hide hb1
 clear hb1
 go_wp2
 go_ret
 exact ⟨rfl, HB1.out⟩
set_option maxHeartbeats 4000000 in
theorem ack_some (B b off k : Nat) (v0 v1 v2 v3 v4 : Value) (l : List Pr) (pc : Nat) (to s : Int) (w : World) (K : Blk B [v0, v1, v2, v3, v4, V (some ⟨b, off, none⟩) l.length pc] w) (hl : l.length ≤ 1048576) (h : RowAt 4 prCells w (some ⟨b, off, none⟩) l) (hfz : ∀ j, w.frozen? ⟨b, j, none⟩ = false) (hk : k < l.length) (hf : fi (l.map Pr.id) to = some k) (hsm : (l[k]).E.out.length ≤ 1048576) (hr : RowAt 2 prcCells w (l[k]).a (l[k]).E.out) :
  Calls Try.prog 45 #[.pointer (some ⟨B, 0, none⟩), J Z to, J Z s] w fun e w' => (ackOk (l[k]).E s = false → CodeEnd 2 w e w') ∧ (ackOk (l[k]).E s = true → AckEnd b (off + k * 4) (ackE (l[k]).E s) w e w') := by
 have HK : Hid _ := hide K
 have HC : Hid _ := hide h
 have HF : Hid _ := hide hf
 have HZ : Hid _ := hide hfz
 have HR : Hid _ := hide hr
 obtain ⟨b', off', hpa, hb, c0, c1, c2, c3⟩ := pr_row h k hk
 simp only [Option.some.injEq, Addr.mk.injEq, and_true] at hpa
 obtain ⟨rfl, rfl⟩ := hpa
 clear K h hf hfz hr c0
 cases q : ackOk (l[k]).E s
 ·go_enter Try.func45, Try.ntmps45
  go_wp2_with fail
  refine (endTo_any B v0 v1 v2 v3 v4 _ l pc to w HK.out hl HC.out).mono ?_
  rw [endPtr_hit HF.out]
  rintro e w1 ⟨rfl, hb1⟩
  have HB1 : Hid _ := hide hb1
  have d1 := (hb1.cell (p := ⟨b, off + k * 4 + 1, none⟩) hb).trans c1
  have d2 := (hb1.cell (p := ⟨b, off + k * 4 + 2, none⟩) hb).trans c2
  have d3 := (hb1.cell (p := ⟨b, off + k * 4 + 3, none⟩) hb).trans c3
  clear hb1
  go_wp2_with fail
  refine (implAcked_any _ (l[k]).E.out _ _ _ s w1 hsm (HR.out.below HB1.out)).mono ?_
  rintro e w2 ⟨hb2, v, rfl, hn2⟩
  obtain ⟨g4, a4, cap4, hg4, rfl, ho4⟩ := hn2
  have HB2 : Hid (Below w.heap.size w w2) := hide (below_trans HB1.out hb2)
  clear hb2 ho4 hg4
  have q' : ackOk ⟨(l[k]).E.out, (l[k]).E.sent, (l[k]).E.got⟩ s = false := q
  go_wp2
  go_ret
  exact ⟨fun _ => ⟨rfl, below_alloc HB2.out _⟩, fun h => by cases h⟩
 ·go_enter Try.func45, Try.ntmps45
  go_wp2_with fail
  refine (endTo_any B v0 v1 v2 v3 v4 _ l pc to w HK.out hl HC.out).mono ?_
  rw [endPtr_hit HF.out]
  rintro e w1 ⟨rfl, hb1⟩
  have HB1 : Hid _ := hide hb1
  have d1 := (hb1.cell (p := ⟨b, off + k * 4 + 1, none⟩) hb).trans c1
  have d2 := (hb1.cell (p := ⟨b, off + k * 4 + 2, none⟩) hb).trans c2
  have d3 := (hb1.cell (p := ⟨b, off + k * 4 + 3, none⟩) hb).trans c3
  clear hb1
  go_wp2_with fail
  refine (implAcked_any _ (l[k]).E.out _ _ _ s w1 hsm (HR.out.below HB1.out)).mono ?_
  rintro e w2 ⟨hb2, v, rfl, hn2⟩
  obtain ⟨g4, a4, cap4, hg4, rfl, ho4⟩ := hn2
  have HB2 : Hid (Below w.heap.size w w2) := hide (below_trans HB1.out hb2)
  have hsz : w.heap.size ≤ w1.heap.size := HB1.out.size
  have HN2 : Hid (NewRow 2 prcCells (ackE (l[k]).E s).out w (V a4 (ackE (l[k]).E s).out.length cap4) w2) := hide ⟨g4, a4, cap4, by omega, rfl, ho4⟩
  have hb3 : b < w2.heap.size := Nat.lt_of_lt_of_le hb HB2.out.size
  have g1 : w2.cell? ⟨b, off + k * 4 + 1, none⟩ = _ := (HB2.out.cell (p := ⟨b, off + k * 4 + 1, none⟩) hb).trans c1
  have z1 : w2.frozen? ⟨b, off + k * 4 + 1, none⟩ = false := (HB2.out.frozen (p := ⟨b, off + k * 4 + 1, none⟩) hb).trans (HZ.out _)
  have g2 : w2.cell? ⟨b, off + k * 4 + 1 + 1, none⟩ = _ := (HB2.out.cell (p := ⟨b, off + k * 4 + 2, none⟩) hb).trans c2
  have z2 : w2.frozen? ⟨b, off + k * 4 + 1 + 1, none⟩ = false := (HB2.out.frozen (p := ⟨b, off + k * 4 + 2, none⟩) hb).trans (HZ.out _)
  have g3 : w2.cell? ⟨b, off + k * 4 + 1 + 2, none⟩ = _ := (HB2.out.cell (p := ⟨b, off + k * 4 + 3, none⟩) hb).trans c3
  have z3 : w2.frozen? ⟨b, off + k * 4 + 1 + 2, none⟩ = false := (HB2.out.frozen (p := ⟨b, off + k * 4 + 3, none⟩) hb).trans (HZ.out _)
  clear hb2 ho4 hg4
  have q' : ackOk ⟨(l[k]).E.out, (l[k]).E.sent, (l[k]).E.got⟩ s = true := q
  have eE : (⟨(l[k]).E.out, (l[k]).E.sent, (l[k]).E.got⟩ : En) = (l[k]).E := rfl
  rw [eE]
  go_wp2
  go_ret
  exact ⟨fun h => (by cases h), fun _ => ⟨rfl, _, _, _, HB2.out, HN2.out, rfl⟩⟩
end Go.Proofs.Ytkcpoibhlnjldaa
/- What is packed, as data; the contract of the program's Packed. -/
namespace Go.Proofs.Ytkcpoibhlnjldaa
open Go.Value renaming int → J, slice → V
open Go.IntKind renaming i64 → Z
open Go.ChangeShapes Go.WideShapes Go.ChangeAt Go.RowKit
set_option linter.unusedVariables false
def pkOk (E : En) (amt : Int) : Bool := endB E && inB 1 1000000000000 amt && !(E.out.length == 8) && !(E.sent == 1000000000)
def pkE (E : En) (amt : Int) : En := if pkOk E amt then ⟨E.out ++ [⟨E.sent + 1, amt⟩], E.sent + 1, E.got⟩ else ⟨[], 0, 0⟩
def pkP (E : En) (amt : Int) : Prc := if pkOk E amt then ⟨E.sent + 1, amt⟩ else ⟨0, 0⟩
/-- an end, a parcel and a flag -/
def EndPrc (E : En) (p : Prc) (b : Bool) (w : World) (e : Ending) (w' : World) : Prop := Below w.heap.size w w' ∧ ∃ v, e = .returned (.tuple #[.agg #[v, J Z E.sent, J Z E.got], .agg #[J Z p.seq, J Z p.amt], .bool b]) ∧ NewRow 2 prcCells E.out w v w'
theorem outL_put {l : List Prc} {sent got amt : Int} {room : List Prc} (q : endB ⟨l, sent, got⟩ = true) (h8 : l.length < 8) (hr : room.length = 8) (h : ∀ j (hj : j < l.length), room[plc l[j].seq]? = some l[j]) : outL (sent - (l.length : Int)) (sent + 1) (room.set (plc (sent + 1)) ⟨sent + 1, amt⟩) = l ++ [⟨sent + 1, amt⟩] := by
 have hn : (sent + 1 - (sent - (l.length : Int))).toNat = l.length + 1 := by omega
 apply List.ext_getElem
 ·rw [outL_len, hn]; simp
 ·intro i h1 h2
  have hi : i < l.length + 1 := by simpa using h2
  simp only [outL, List.getElem_map, List.getElem_range]
  by_cases hil : i < l.length
  ·have e := ((endB_parts q).2.2.2 i hil).1
   simp only at e
   have hh := h i hil
   rw [e] at hh
   have hne : plc (sent + 1) ≠ plc (sent - (l.length : Int) + 1 + (i : Int)) := by unfold plc; omega
   rw [List.getElem?_set_ne hne, hh, List.getElem_append_left hil]
   rfl
  ·have hie : i = l.length := by omega
   subst hie
   have e : sent - (l.length : Int) + 1 + (l.length : Int) = sent + 1 := by omega
   rw [e, List.getElem?_set_self (by rw [hr]; exact plc_lt _)]
   simp
structure PkAt (w : World) (v0 : Value) (sent got : Int) (x : World) : Prop where
 old : Below w.heap.size w x
 lt : w.heap.size + 3 ≤ x.heap.size
 e0 : x.cell? ⟨w.heap.size, 0, none⟩ = some v0
 e1 : x.cell? ⟨w.heap.size, 1, none⟩ = some (J Z sent)
 e2 : x.cell? ⟨w.heap.size, 2, none⟩ = some (J Z got)
 res : ResMid (w.heap.size + 1) x
 p0 : ∃ v, x.cell? ⟨w.heap.size + 2, 0, none⟩ = some v
 p1 : ∃ v, x.cell? ⟨w.heap.size + 2, 1, none⟩ = some v
 pf : ∀ j, x.frozen? ⟨w.heap.size + 2, j, none⟩ = false
theorem pk_start (w : World) (v0 : Value) (sent got : Int) : PkAt w v0 sent got (((w.alloc (.cells #[v0, J Z sent, J Z got] 39)).alloc (.cells #[V none 0 0, J Z 0, J Z 0] 39)).alloc (.cells #[J Z 0, J Z 0] 61)) := by
 have h := ack_start w v0 sent got
 obtain ⟨x, hx⟩ : ∃ x, x = (w.alloc (.cells #[v0, J Z sent, J Z got] 39)).alloc (.cells #[V none 0 0, J Z 0, J Z 0] 39) := ⟨_, rfl⟩
 have sx : x.heap.size = w.heap.size + 2 := by rw [hx]; simp
 rw [← hx] at h ⊢
 have b : Below x.heap.size x (x.alloc (.cells #[J Z 0, J Z 0] 61)) := (Below.refl _ _).alloc (Nat.le_refl _) _
 have k := h.next b
 have c0 : (x.alloc (.cells #[J Z 0, J Z 0] 61)).cell? ⟨x.heap.size, 0, none⟩ = some (J Z 0) := World.cell?_alloc_at _ _ _ _ rfl
 have c1 : (x.alloc (.cells #[J Z 0, J Z 0] 61)).cell? ⟨x.heap.size, 1, none⟩ = some (J Z 0) := World.cell?_alloc_at _ _ _ _ rfl
 have fz : ∀ j, (x.alloc (.cells #[J Z 0, J Z 0] 61)).frozen? ⟨x.heap.size, j, none⟩ = false := fun j => frozen_of_block (cur := #[J Z 0, J Z 0]) (e := 61) (by show (x.heap.push _)[x.heap.size]? = _; simp) j
 rw [sx] at c0 c1 fz
 exact ⟨k.old, by simp [sx], k.e0, k.e1, k.e2, k.res, ⟨_, c0⟩, ⟨_, c1⟩, fz⟩
theorem PkAt.on {w x y : World} {v0 : Value} {sent got : Int} (h : PkAt w v0 sent got x) {B : Nat} (hB : w.heap.size + 3 ≤ B) (b : Below B x y) : PkAt w v0 sent got y :=
 ⟨h.old.trans (b.mono (by omega)), Nat.le_trans h.lt b.size, (b.cell (by show w.heap.size < B; omega)).trans h.e0, (b.cell (by show w.heap.size < B; omega)).trans h.e1, (b.cell (by show w.heap.size < B; omega)).trans h.e2, h.res.keep (b.block _ (by omega)) b.size,
  by obtain ⟨v, hv⟩ := h.p0; exact ⟨v, (b.cell (by show w.heap.size + 2 < B; omega)).trans hv⟩, by obtain ⟨v, hv⟩ := h.p1; exact ⟨v, (b.cell (by show w.heap.size + 2 < B; omega)).trans hv⟩, fun j => (b.frozen (by show w.heap.size + 2 < B; omega)).trans (h.pf j)⟩
theorem PkAt.next {w x y : World} {v0 : Value} {sent got : Int} (h : PkAt w v0 sent got x) (b : Below x.heap.size x y) : PkAt w v0 sent got y := h.on h.lt b
theorem pk_set {w x : World} {E : En} {p : Prc} {v : Value} {fl : Bool} (hold : Below w.heap.size w x) (g : Nat) (a : Option Addr) (cap : Nat) (hg : w.heap.size + 3 ≤ g) (hv : v = V a E.out.length cap) (ho : OwnRow 2 prcCells x g a cap E.out) :
  EndPrc E p fl w (.returned (.tuple #[.agg #[v, J Z E.sent, J Z E.got], .agg #[J Z p.seq, J Z p.amt], .bool fl])) (((((x.setCell ⟨w.heap.size + 1, 0, none⟩ v).setCell ⟨w.heap.size + 1, 1, none⟩ (J Z E.sent)).setCell ⟨w.heap.size + 1, 2, none⟩ (J Z E.got)).setCell ⟨w.heap.size + 2, 0, none⟩ (J Z p.seq)).setCell ⟨w.heap.size + 2, 1, none⟩ (J Z p.amt)) := by
 have h1 : w.heap.size ≤ w.heap.size + 1 := by omega
 have h2 : w.heap.size ≤ w.heap.size + 2 := by omega
 exact ⟨((((hold.setCell (p := ⟨w.heap.size + 1, 0, none⟩) h1 _).setCell (p := ⟨w.heap.size + 1, 1, none⟩) h1 _).setCell (p := ⟨w.heap.size + 1, 2, none⟩) h1 _).setCell (p := ⟨w.heap.size + 2, 0, none⟩) h2 _).setCell (p := ⟨w.heap.size + 2, 1, none⟩) h2 _, v, rfl, g, a, cap, by omega, hv,
  (ho.turned ((((Turned.refl (w.heap.size + 1) x).setCell _).setCell _).setCell _) (fun _ => by omega)).turned (((Turned.refl (w.heap.size + 2) _).setCell _).setCell _) (fun _ => by omega)⟩
theorem pk_zero {w x : World} {fl : Bool} (hold : Below w.heap.size w x) :
  EndPrc ⟨[], 0, 0⟩ ⟨0, 0⟩ fl w (.returned (.tuple #[.agg #[V none 0 0, J Z 0, J Z 0], .agg #[J Z 0, J Z 0], .bool fl])) (((((x.setCell ⟨w.heap.size + 1, 0, none⟩ (V none 0 0)).setCell ⟨w.heap.size + 1, 1, none⟩ (J Z 0)).setCell ⟨w.heap.size + 1, 2, none⟩ (J Z 0)).setCell ⟨w.heap.size + 2, 0, none⟩ (J Z 0)).setCell ⟨w.heap.size + 2, 1, none⟩ (J Z 0)) :=
 pk_set (E := ⟨[], 0, 0⟩) (p := ⟨0, 0⟩) hold (w.heap.size + 3) none 0 (Nat.le_refl _) rfl (OwnRow.nil (fun _ => rfl))
/-- cells that the last region reads -/
abbrev SPk (s p : Nat) (got sq amt : Int) (x : World) : Prop := x.cell? ⟨s, 2, none⟩ = some (J Z got) ∧ x.cell? ⟨p, 0, none⟩ = some (J Z sq) ∧ x.cell? ⟨p, 1, none⟩ = some (J Z amt)
theorem SPk.on {s p : Nat} {got sq amt : Int} {x y : World} (h : SPk s p got sq amt x) (hp : s + 3 ≤ p) (hx : p < x.heap.size) (b : Below x.heap.size x y) : SPk s p got sq amt y :=
 ⟨(b.cell (by show s < _; omega)).trans h.1, (b.cell (by show p < _; omega)).trans h.2.1, (b.cell (by show p < _; omega)).trans h.2.2⟩
theorem SPk.set {s p : Nat} {got sq amt : Int} {x : World} (h : SPk s p got sq amt x) (hp : s + 3 ≤ p) {a b c : Value} : SPk s p got sq amt (((x.setCell ⟨s + 1, 0, none⟩ a).setCell ⟨s + 1, 1, none⟩ b).setCell ⟨s + 1, 2, none⟩ c) := by
 refine ⟨?_, ?_, ?_⟩ <;> rw [cell_set_other (.inl (by omega)), cell_set_other (.inl (by omega)), cell_set_other (.inl (by omega))]
 ·exact h.1
 ·exact h.2.1
 ·exact h.2.2
theorem SPk.set2 {s p : Nat} {got sq amt : Int} {x : World} (h : SPk s p got sq amt x) (hp : s + 3 ≤ p) {a b : Value} : SPk s p got sq amt ((x.setCell ⟨s + 1 + 1, 0, none⟩ a).setCell ⟨s + 1 + 1, 1, none⟩ b) := by
 refine ⟨?_, ?_, ?_⟩ <;> rw [cell_set_other (.inl (by omega)), cell_set_other (.inl (by omega))]
 ·exact h.1
 ·exact h.2.1
 ·exact h.2.2
theorem pkE_no {E : En} {amt : Int} (h : pkOk E amt = false) : pkE E amt = ⟨[], 0, 0⟩ := by simp [pkE, h]
theorem pkP_no {E : En} {amt : Int} (h : pkOk E amt = false) : pkP E amt = ⟨0, 0⟩ := by simp [pkP, h]
end Go.Proofs.Ytkcpoibhlnjldaa
/- The contract of the program's Packed. -/
namespace Go.Proofs.Ytkcpoibhlnjldaa
open Go.Value renaming int → J, slice → V
open Go.IntKind renaming i64 → Z
open Go.ChangeShapes Go.WideShapes Go.ChangeAt Go.RowKit
set_option linter.unusedVariables false
set_option maxRecDepth 100000
set_option maxRecDepth 100000 in
set_option maxHeartbeats 4000000 in
theorem put_any (R : Nat) (acked sent amt : Int) (room : List Prc) (w : World) (h : RingAt w R acked sent room) (hs : 0 ≤ sent ∧ sent ≤ 1000000000) :
  Calls Try.prog 76 #[.pointer (some ⟨R, 0, none⟩), J Z amt] w fun e w' => PutEnd R acked sent room amt w e w' := by
 obtain ⟨s0, s1⟩ := hs
 have HR : Hid _ := hide h
 have hlt := h.lt
 have c2 := h.snt
 have f2 := h.free 17
 have hqe := plc_eq (s := sent + 1) (by omega)
 have hq8 := plc_lt (sent + 1)
 obtain ⟨⟨u0, r0⟩, ⟨u1, r1⟩⟩ := h.there (plc (sent + 1)) hq8
 have z0 := h.free (plc (sent + 1) * 2)
 have z1 := h.free (plc (sent + 1) * 2 + 1)
 have HP : Hid _ := hide ((h.sent (sent + 1)).put (plc (sent + 1)) hq8 ⟨sent + 1, amt⟩)
 have HQN : Hid (∀ x, PutEnd R acked sent room amt w (.returned (.agg #[J Z (sent + 1), J Z amt])) x ↔ Below R w x ∧ RingAt x R acked (sent + 1) (room.set (plc (sent + 1)) ⟨sent + 1, amt⟩)) := hide (fun x => ⟨fun g => g.2, fun g => ⟨rfl, g⟩⟩)
 clear h
 generalize plc (sent + 1) = qn at *
 have hn0 : ¬ (17 = qn * 2) := by omega
 have hn1 : ¬ (17 = qn * 2 + 1) := by omega
 go_enter Try.func76, Try.ntmps76
 go_wp2_with fail
 go_region
 go_wp2
 refine bodyPost_ret (v := .agg #[J Z (sent + 1), J Z amt]) (by simp [results, Try.results76, go_sem]) rfl ((HQN.out _).2 ⟨?_, ?_⟩)
 ·exact (((((((Below.refl R w).setCell (Nat.le_refl _) _).setCell (Nat.le_refl _) _).setCell (Nat.le_refl _) _).alloc (by simp; omega) _).alloc (by simp; omega) _)).drew
 ·exact HP.out.below ((below_alloc (below_alloc (Below.refl _ _) _) _).drew)
set_option maxRecDepth 100000 in
set_option maxHeartbeats 2000000 in
theorem full_any (R : Nat) (acked sent : Int) (room : List Prc) (w : World) (h : RingAt w R acked sent room) (hs : 0 ≤ sent ∧ sent ≤ 1000000000) (ha : 0 ≤ acked ∧ acked ≤ 1000000000) :
  Calls Try.prog 75 #[.pointer (some ⟨R, 0, none⟩)] w fun e w' => e = .returned (.bool (fullB acked sent)) ∧ Below w.heap.size w w' := by
 have c1 := h.ack
 have c2 := h.snt
 obtain ⟨s0, s1⟩ := hs
 obtain ⟨a0, a1⟩ := ha
 clear h
 go_enter Try.func75, Try.ntmps75
 go_wp2_with fail
 go_quiet (fail)
 go_wp2
 go_ret
 exact ⟨rfl, below_drewN (Below.refl _ _) _⟩
set_option maxRecDepth 100000 in
set_option maxHeartbeats 1500000 in
theorem implPacked_any (a : Option Addr) (l : List Prc) (cap : Nat) (sent got amt : Int) (w : World) (hl : l.length ≤ 1048576) (h : RowAt 2 prcCells w a l) :
  Calls Try.prog 63 #[.agg #[V a l.length cap, J Z sent, J Z got], J Z amt] w fun e w' => EndPrc (pkE ⟨l, sent, got⟩ amt) (pkP ⟨l, sent, got⟩ amt) (pkOk ⟨l, sent, got⟩ amt) w e w' := by
 have HC : Hid _ := hide h
 clear h
 have HW : Hid _ := hide (pk_start w (V a l.length cap) sent got)
 go_enter Try.func63, Try.ntmps63
 go_wp2_with fail
 refine (implEndOk_any a l cap sent got _ hl (HC.out.below HW.out.old)).mono ?_
 rintro e w1 ⟨rfl, hb1⟩
 have HA1 : Hid _ := hide (HW.out.next hb1)
 clear hb1 HW
 obtain ⟨⟨t0, r0⟩, ⟨t1, r1⟩, ⟨t2, r2⟩⟩ := And.intro (HA1.out.res.c 0 (by omega)) (And.intro (HA1.out.res.c 1 (by omega)) (HA1.out.res.c 2 (by omega)))
 obtain ⟨⟨t3, r3⟩, ⟨t4, r4⟩⟩ := And.intro HA1.out.p0 HA1.out.p1
 have f0 := HA1.out.res.f 0
 have f1 := HA1.out.res.f 1
 have f2 := HA1.out.res.f 2
 have f3 := HA1.out.pf 0
 have f4 := HA1.out.pf 1
 cases q : endB ⟨l, sent, got⟩
 ·have HO : Hid (pkOk ⟨l, sent, got⟩ amt = false) := hide (by simp [pkOk, q])
  have HE : Hid _ := hide (pk_zero (fl := false) HA1.out.old)
  go_wp2
  refine bodyPost_ret (v := .tuple #[.agg #[V none 0 0, J Z 0, J Z 0], .agg #[J Z 0, J Z 0], .bool false]) (by simp [results, Try.results63, go_sem, r0, r1, r2, r3, r4]) rfl ?_
  rw [pkE_no HO.out, pkP_no HO.out, HO.out]
  exact HE.out
 ·cases q2 : inB 1 1000000000000 amt
  ·have HO : Hid (pkOk ⟨l, sent, got⟩ amt = false) := hide (by simp [pkOk, q2])
   have HE : Hid _ := hide (pk_zero (fl := false) HA1.out.old)
   go_wp2_with (first | (go_at_call 26; refine (within_any _ _ _ _).mono ?_; rintro e w' ⟨rfl, hw'⟩; have hw'' := hw'.symm; subst hw''))
   refine bodyPost_ret (v := .tuple #[.agg #[V none 0 0, J Z 0, J Z 0], .agg #[J Z 0, J Z 0], .bool false]) (by simp [results, Try.results63, go_sem, r0, r1, r2, r3, r4]) rfl ?_
   rw [pkE_no HO.out, pkP_no HO.out, HO.out]
   exact HE.out
  ·have HQ : Hid _ := hide q
   have HQ2 : Hid _ := hide q2
   have hs0 : 0 ≤ sent := (endB_parts q).2.1.1
   have hs1 : sent ≤ 1000000000 := (endB_parts q).2.1.2
   have h8 : l.length ≤ 8 := (endB_parts q).1
   have hsn : (l.length : Int) ≤ sent := by
    by_cases h0 : 0 < l.length
    ·have := (endB_parts q).2.2.2 0 h0
     simp only at this
     omega
    ·omega
   have y0 := HA1.out.e0
   have y1 := HA1.out.e1
   have y2 := HA1.out.e2
   clear q r0 r1 r2 r3 r4 f0 f1 f2 f3 f4
   go_wp2_with (first | (go_at_call 26; refine (within_any _ _ _ _).mono ?_; rintro e w' ⟨rfl, hw'⟩; have hw'' := hw'.symm; subst hw'') | fail)
   refine (ringOf_any a l cap sent got w1 HQ.out (HC.out.below HA1.out.old)).mono ?_
   rintro e w3 ⟨hb3, R, room, hR, rfl, hring, hroom⟩
   have HA3 : Hid _ := hide (HA1.out.next hb3)
   have HRING : Hid _ := hide hring
   have HROOM : Hid _ := hide hroom
   have HR : Hid (w.heap.size + 3 ≤ R) := hide (Nat.le_trans HA1.out.lt hR)
   clear hb3 hR hring hroom y0 y1 y2 q2
   go_wp2_with fail
   refine (full_any R _ _ _ w3 HRING.out (And.intro hs0 hs1) (And.intro (by omega) (by omega))).mono ?_
   rintro e w4 ⟨rfl, hb4⟩
   have HA4 : Hid _ := hide (HA3.out.next hb4)
   have HRING4 : Hid _ := hide (HRING.out.below hb4)
   clear hb4 HRING HA3
   have y1 := HA4.out.e1
   obtain ⟨⟨t0, r0⟩, ⟨t1, r1⟩, ⟨t2, r2⟩⟩ := And.intro (HA4.out.res.c 0 (by omega)) (And.intro (HA4.out.res.c 1 (by omega)) (HA4.out.res.c 2 (by omega)))
   obtain ⟨⟨t3, r3⟩, ⟨t4, r4⟩⟩ := And.intro HA4.out.p0 HA4.out.p1
   have f0 := HA4.out.res.f 0
   have f1 := HA4.out.res.f 1
   have f2 := HA4.out.res.f 2
   have f3 := HA4.out.pf 0
   have f4 := HA4.out.pf 1
   have HFU : Hid (fullB (sent - (l.length : Int)) sent = (l.length == 8)) := hide (by unfold fullB; rw [Bool.eq_iff_iff]; simp; omega)
   cases q3 : fullB (sent - (l.length : Int)) sent
   ·cases q4 : (sent == 1000000000)
    ·have HO : Hid (pkOk ⟨l, sent, got⟩ amt = true) := hide (by have e := HFU.out; rw [q3] at e; simp only [pkOk, HQ.out, HQ2.out, ← e, q4]; rfl)
     have h7 : l.length < 8 := by have e := HFU.out; rw [q3] at e; have := e.symm; simp at this; omega
     have hs2 : sent < 1000000000 := by simp at q4; omega
     clear r0 r1 r2 r3 r4 f0 f1 f2 f3 f4
     go_wp2_with fail
     refine (put_any R _ _ amt _ w4 HRING4.out (And.intro hs0 hs1)).mono ?_
     rintro e w5 ⟨rfl, hb5, hring5⟩
     have HA5 : Hid _ := hide (HA4.out.on HR.out hb5)
     have HRING5 : Hid _ := hide hring5
     have HOUT : Hid _ := hide (outL_put (amt := amt) HQ.out h7 HRING4.out.len HROOM.out)
     clear hb5 hring5
     go_wp2_with fail
     obtain ⟨w6, hw6⟩ : ∃ w6, w6 = w5.alloc (.cells #[J Z (sent + 1), J Z amt] 61) := ⟨_, rfl⟩
     rw [← hw6]
     have hb6 : Below w5.heap.size w5 w6 := by rw [hw6]; exact (Below.refl _ _).alloc (Nat.le_refl _) _
     have HA6 : Hid _ := hide (HA5.out.next hb6)
     have HRING6 : Hid _ := hide (HRING5.out.below hb6)
     have HS6 : Hid (SPk w.heap.size w5.heap.size got (sent + 1) amt w6) := hide ⟨HA6.out.e2, by rw [hw6]; exact World.cell?_alloc_at _ _ _ _ rfl, by rw [hw6]; exact World.cell?_alloc_at _ _ _ _ rfl⟩
     have hp5 : w.heap.size + 3 ≤ w5.heap.size := HA5.out.lt
     have hp6 : w5.heap.size < w6.heap.size := by rw [hw6]; simp
     clear hw6 hb6
     obtain ⟨P, hP⟩ : ∃ P, P = w5.heap.size := ⟨_, rfl⟩
     rw [← hP] at HS6 hp5 hp6 ⊢
     clear hP
     have HS6d : Hid (SPk w.heap.size P got (sent + 1) amt w6.drew) := hide HS6.out
     go_region_held (fun x => x.cell? ⟨w.heap.size, 2, none⟩ = some (J Z got) ∧ x.cell? ⟨P, 0, none⟩ = some (J Z (sent + 1)) ∧ x.cell? ⟨P, 1, none⟩ = some (J Z amt))
      (first | with_reducible assumption | with_reducible exact HS6.out | with_reducible exact HS6d.out | with_reducible exact HS7.out | with_reducible exact SPk.set (by with_reducible assumption) (by omega) | with_reducible exact SPk.set HS7.out (by omega) | with_reducible exact SPk.set2 (by with_reducible assumption) (by omega) | with_reducible exact SPk.set2 (SPk.set HS7.out (by omega)) (by omega))
      (first | (go_at_call 77; refine (end_any R _ _ _ _ _ (HRING6.out.below ((Below.refl _ _).drew)) (by omega) (And.intro (by omega) (by omega)) (by omega)).mono ?_; rw [HOUT.out]; rintro e w7 ⟨hb7, v7, rfl, g7, a7, c7, hg7, rfl, ho7⟩; have HA7 : Hid _ := hide ((HA6.out.next ((Below.refl w6.heap.size w6).drew)).next hb7); have HO7 : Hid _ := hide ho7; have HS7 : Hid (SPk w.heap.size P got (sent + 1) amt w7) := hide (HS6.out.on hp5 hp6 (below_trans ((Below.refl w6.heap.size w6).drew) hb7)); have HG7 : Hid (w6.heap.size ≤ g7) := hide hg7; obtain ⟨⟨t0, r0⟩, ⟨t1, r1⟩, ⟨t2, r2⟩⟩ := And.intro (HA7.out.res.c 0 (by omega)) (And.intro (HA7.out.res.c 1 (by omega)) (HA7.out.res.c 2 (by omega))); obtain ⟨⟨t3, r3⟩, ⟨t4, r4⟩⟩ := And.intro HA7.out.p0 HA7.out.p1; have f0 := HA7.out.res.f 0; have f1 := HA7.out.res.f 1; have f2 := HA7.out.res.f 2; have f3 := HA7.out.pf 0; have f4 := HA7.out.pf 1; clear hb7 ho7 hg7))
     have HE : Hid _ := hide (pk_set (v := V a7 (l.length + 1) c7) (E := ⟨l ++ [⟨sent + 1, amt⟩], sent + 1, got⟩) (p := ⟨sent + 1, amt⟩) (fl := true) HA7.out.old g7 a7 c7 (by have := HA6.out.lt; have := HG7.out; omega) (by simp) HO7.out)
     go_wp2
     refine bodyPost_ret (v := .tuple #[.agg #[V a7 (l.length + 1) c7, J Z (sent + 1), J Z got], .agg #[J Z (sent + 1), J Z amt], .bool true]) (by simp [results, Try.results63, go_sem, r0, r1, r2, r3, r4]) rfl ?_
     have e1 : pkE ⟨l, sent, got⟩ amt = ⟨l ++ [⟨sent + 1, amt⟩], sent + 1, got⟩ := if_pos HO.out
     have e2 : pkP ⟨l, sent, got⟩ amt = ⟨sent + 1, amt⟩ := if_pos HO.out
     rw [e1, e2, HO.out]
     exact HE.out
    ·have HO : Hid (pkOk ⟨l, sent, got⟩ amt = false) := hide (by simp [pkOk, q4])
     have HE : Hid _ := hide (pk_zero (fl := false) HA4.out.old)
     go_wp2
     refine bodyPost_ret (v := .tuple #[.agg #[V none 0 0, J Z 0, J Z 0], .agg #[J Z 0, J Z 0], .bool false]) (by simp [results, Try.results63, go_sem, r0, r1, r2, r3, r4]) rfl ?_
     rw [pkE_no HO.out, pkP_no HO.out, HO.out]
     exact HE.out
   ·have HO : Hid (pkOk ⟨l, sent, got⟩ amt = false) := hide (by have e := HFU.out; rw [q3] at e; simp only [pkOk, ← e]; simp)
    have HE : Hid _ := hide (pk_zero (fl := false) HA4.out.old)
    go_wp2
    refine bodyPost_ret (v := .tuple #[.agg #[V none 0 0, J Z 0, J Z 0], .agg #[J Z 0, J Z 0], .bool false]) (by simp [results, Try.results63, go_sem, r0, r1, r2, r3, r4]) rfl ?_
    rw [pkE_no HO.out, pkP_no HO.out, HO.out]
    exact HE.out
end Go.Proofs.Ytkcpoibhlnjldaa
/- The contract of the program's give, where it refuses. -/
namespace Go.Proofs.Ytkcpoibhlnjldaa
open Go.Value renaming int → J, slice → V
open Go.IntKind renaming i64 → Z
open Go.ChangeShapes Go.WideShapes Go.ChangeAt Go.RowKit
set_option linter.unusedVariables false
set_option maxRecDepth 100000
/-- refused: no message, and a code -/
def NoEnd (c : Int) (w : World) (e : Ending) (w' : World) : Prop := e = .returned (.tuple #[V none 0 0, J Z c]) ∧ Below w.heap.size w w'
set_option maxHeartbeats 4000000 in
theorem give_none (B : Nat) (v0 v1 v2 v3 v4 : Value) (pa : Option Addr) (l : List Pr) (pc : Nat) (to amt : Int) (w : World) (K : Blk B [v0, v1, v2, v3, v4, V pa l.length pc] w) (hl : l.length ≤ 1048576) (h : RowAt 4 prCells w pa l) (hf : fi (l.map Pr.id) to = none) :
  Calls Try.prog 43 #[.pointer (some ⟨B, 0, none⟩), J Z to, J Z amt] w fun e w' => NoEnd 3 w e w' := by
 have HK : Hid _ := hide K
 have HC : Hid _ := hide h
 have HF : Hid _ := hide hf
 clear K h hf
 go_enter Try.func43, Try.ntmps43
 go_wp2_with fail
 refine (endTo_any B v0 v1 v2 v3 v4 pa l pc to w HK.out hl HC.out).mono ?_
 rw [endPtr_miss HF.out]
 rintro e w1 ⟨rfl, hb1⟩
 have HB1 : Hid _ := hide hb1
 clear hb1
 go_wp2
 exact bodyPost_ret (v := .tuple #[V none 0 0, J Z 3]) (by simp [results, Try.results43, go_sem]) rfl ⟨rfl, HB1.out⟩
set_option maxHeartbeats 4000000 in
theorem give_short (B b off k : Nat) (v0 v2 v3 v4 : Value) (has : Int) (l : List Pr) (pc : Nat) (to amt : Int) (w : World) (K : Blk B [v0, J Z has, v2, v3, v4, V (some ⟨b, off, none⟩) l.length pc] w) (hl : l.length ≤ 1048576) (h : RowAt 4 prCells w (some ⟨b, off, none⟩) l) (hf : fi (l.map Pr.id) to = some k) (hq : has < amt) :
  Calls Try.prog 43 #[.pointer (some ⟨B, 0, none⟩), J Z to, J Z amt] w fun e w' => NoEnd 4 w e w' := by
 have HK : Hid _ := hide K
 have HC : Hid _ := hide h
 have HF : Hid _ := hide hf
 clear K h hf
 go_enter Try.func43, Try.ntmps43
 go_wp2_with fail
 refine (endTo_any B v0 _ v2 v3 v4 _ l pc to w HK.out hl HC.out).mono ?_
 rw [endPtr_hit HF.out]
 rintro e w1 ⟨rfl, hb1⟩
 have HB1 : Hid _ := hide hb1
 have d1 : w1.cell? ⟨B, 1, none⟩ = some (J Z has) := (hb1.cell (p := ⟨B, 1, none⟩) HK.out.lt).trans (HK.out.c 1 _ rfl)
 clear hb1
 go_wp2
 exact bodyPost_ret (v := .tuple #[V none 0 0, J Z 4]) (by simp [results, Try.results43, go_sem]) rfl ⟨rfl, HB1.out⟩
set_option maxHeartbeats 4000000 in
theorem give_full (B b off k : Nat) (v0 v2 v3 v4 : Value) (has : Int) (l : List Pr) (pc : Nat) (to amt : Int) (w : World) (K : Blk B [v0, J Z has, v2, v3, v4, V (some ⟨b, off, none⟩) l.length pc] w) (hl : l.length ≤ 1048576) (h : RowAt 4 prCells w (some ⟨b, off, none⟩) l) (hk : k < l.length) (hf : fi (l.map Pr.id) to = some k) (hq : ¬ has < amt) (hsm : (l[k]).E.out.length ≤ 1048576) (hr : RowAt 2 prcCells w (l[k]).a (l[k]).E.out) (q : pkOk (l[k]).E amt = false) :
  Calls Try.prog 43 #[.pointer (some ⟨B, 0, none⟩), J Z to, J Z amt] w fun e w' => NoEnd 5 w e w' := by
 have HK : Hid _ := hide K
 have HC : Hid _ := hide h
 have HF : Hid _ := hide hf
 have HR : Hid _ := hide hr
 obtain ⟨b', off', hpa, hb, c0, c1, c2, c3⟩ := pr_row h k hk
 simp only [Option.some.injEq, Addr.mk.injEq, and_true] at hpa
 obtain ⟨rfl, rfl⟩ := hpa
 clear K h hf hr c0
 go_enter Try.func43, Try.ntmps43
 go_wp2_with fail
 refine (endTo_any B v0 _ v2 v3 v4 _ l pc to w HK.out hl HC.out).mono ?_
 rw [endPtr_hit HF.out]
 rintro e w1 ⟨rfl, hb1⟩
 have HB1 : Hid _ := hide hb1
 have d1 : w1.cell? ⟨B, 1, none⟩ = some (J Z has) := (hb1.cell (p := ⟨B, 1, none⟩) HK.out.lt).trans (HK.out.c 1 _ rfl)
 have e1 := (hb1.cell (p := ⟨b, off + k * 4 + 1, none⟩) hb).trans c1
 have e2 := (hb1.cell (p := ⟨b, off + k * 4 + 2, none⟩) hb).trans c2
 have e3 := (hb1.cell (p := ⟨b, off + k * 4 + 3, none⟩) hb).trans c3
 clear hb1
 go_wp2_with fail
 refine (implPacked_any _ (l[k]).E.out _ _ _ amt w1 hsm (HR.out.below HB1.out)).mono ?_
 rintro e w2 ⟨hb2, v, rfl, hn2⟩
 obtain ⟨g4, a4, cap4, hg4, rfl, ho4⟩ := hn2
 have HB2 : Hid (Below w.heap.size w w2) := hide (below_trans HB1.out hb2)
 clear hb2 ho4 hg4
 have q' : pkOk ⟨(l[k]).E.out, (l[k]).E.sent, (l[k]).E.got⟩ amt = false := q
 go_wp2
 exact bodyPost_ret (v := .tuple #[V none 0 0, J Z 5]) (by simp [results, Try.results43, go_sem]) rfl ⟨rfl, below_alloc (below_alloc HB2.out _) _⟩
end Go.Proofs.Ytkcpoibhlnjldaa
/- What an act makes of a node, as data. -/
namespace Go.Proofs.Ytkcpoibhlnjldaa
open Go.ChangeShapes Go.WideShapes Go.ChangeAt Go.RowKit
set_option linter.unusedVariables false
/-- spent or earned, under a number -/
def moneyM (D : NdD) (a : Ac) : NdD × Int :=
 if 0 ≤ seenV D.seen a.id then (D, seenV D.seen a.id)
 else if D.seen.length = 40 then (D, 5)
 else if a.kind = 1 then (⟨D.id, (spendM D.has D.spent a.amt).2.1, (spendM D.has D.spent a.amt).2.2, D.earned, seeL D.seen a.id (spendM D.has D.spent a.amt).1, D.peers⟩, (spendM D.has D.spent a.amt).1)
 else (⟨D.id, (earnM D.has D.earned a.amt).2.1, D.spent, (earnM D.has D.earned a.amt).2.2, seeL D.seen a.id (earnM D.has D.earned a.amt).1, D.peers⟩, (earnM D.has D.earned a.amt).1)
/-- a message that comes -/
def takeM (D : NdD) (m : Mg) : NdD × List Mg × Int :=
 match fi (D.peers.map PD.id) m.fr with
 | none => (D, [], 3)
 | some k => match D.peers[k]? with
  | none => (D, [], 3)
  | some p =>
   if m.kind = 2 then (if ackOk p.E m.seq then (⟨D.id, D.has, D.spent, D.earned, D.seen, D.peers.set k ⟨p.id, ackE p.E m.seq⟩⟩, [], 0) else (D, [], 2))
   else if 10000000000000 < D.has + rcvX p.E ⟨m.seq, m.amt⟩ then (D, [], 6)
   else (⟨D.id, D.has + rcvX p.E ⟨m.seq, m.amt⟩, D.spent, D.earned, D.seen, D.peers.set k ⟨p.id, rcvE p.E ⟨m.seq, m.amt⟩⟩⟩, [⟨D.id, m.fr, 2, rcvY p.E ⟨m.seq, m.amt⟩, 0⟩], 0)
/-- what goes to a peer -/
def giveM (D : NdD) (to amt : Int) : NdD × List Mg × Int :=
 match fi (D.peers.map PD.id) to with
 | none => (D, [], 3)
 | some k => match D.peers[k]? with
  | none => (D, [], 3)
  | some p =>
   if D.has < amt then (D, [], 4)
   else if pkOk p.E amt then (⟨D.id, D.has - amt, D.spent, D.earned, D.seen, D.peers.set k ⟨p.id, pkE p.E amt⟩⟩, [⟨D.id, to, 1, (pkP p.E amt).seq, (pkP p.E amt).amt⟩], 0)
   else (D, [], 5)
/-- all open parcels, as messages -/
def tickM (D : NdD) : List Mg := D.peers.flatMap (fun p => p.E.out.map (fun q => ⟨D.id, p.id, 1, q.seq, q.amt⟩))
def zeroD : NdD := ⟨0, 0, 0, 0, [], []⟩
def actM (D : NdD) (a : Ac) : NdD × List Mg × Int :=
 if nodeB D = false then (zeroD, [], 1)
 else if actB D.id a = false then (D, [], 2)
 else if a.kind = 1 ∨ a.kind = 2 then ((moneyM D a).1, [], (moneyM D a).2)
 else if a.kind = 4 then takeM D a.msg
 else if a.kind = 5 then (D, tickM D, 0)
 else giveM D a.to a.amt
end Go.Proofs.Ytkcpoibhlnjldaa
