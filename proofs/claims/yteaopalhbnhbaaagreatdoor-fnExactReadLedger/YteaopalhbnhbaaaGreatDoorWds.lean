/- The words of a line, and a word as a number: the model's. -/
import Derived.Test.YteaopalhbnhbaaaGreatDoorClone
import Derived.Test.YteaopalhbnhbaaaGreatDoorBel
import Derived.Test.YteaopalhbnhbaaaGreatDoorInt
import Derived.Maps.AppendAt
import Derived.OwnWalk
import Derived.Laws.OwnMore
namespace Go.Proofs.YteaopalhbnhbaaaGreatDoor
open Go.ChangeShapes Go.WideShapes Go.ChangeAt Go.RowKit
set_option linter.unusedVariables false
set_option maxRecDepth 100000
def wordsL : List UInt8 → List (List UInt8)
  | [] => [[]]
  | c :: r => if c = 32 then [] :: wordsL r else match wordsL r with
    | [] => [[c]]
    | a :: t => (c :: a) :: t
theorem wordsL_cut (a r : List UInt8) (h : ∀ b ∈ a, b ≠ 32) : wordsL (a ++ 32 :: r) = a :: wordsL r := by
  induction a with
  | nil => simp [wordsL]
  | cons c cs ih =>
    have hc : c ≠ 32 := h c (List.mem_cons_self ..)
    rw [List.cons_append, wordsL, if_neg hc, ih (fun b hb => h b (List.mem_cons_of_mem _ hb))]
theorem wordsL_none (a : List UInt8) (h : ∀ b ∈ a, b ≠ 32) : wordsL a = [a] := by
  induction a with
  | nil => rfl
  | cons c cs ih =>
    have hc : c ≠ 32 := h c (List.mem_cons_self ..)
    rw [wordsL, if_neg hc, ih (fun b hb => h b (List.mem_cons_of_mem _ hb))]
theorem wordsL_pos (l : List UInt8) : 0 < (wordsL l).length := by
  cases l with
  | nil => simp [wordsL]
  | cons c r =>
    rw [wordsL]
    split
    · simp
    · split <;> simp
def numV (l : List UInt8) : Int := if intB l = true then intV l else -2000000000000
theorem l3Num_any (s : ByteArray) (w : World) (hs : s.size ≤ maxLen) :
    Calls Tryz.prog 39 #[.string s] w fun e w' => e = .returned (.int .i64 (numV s.data.toList)) ∧ w' = w := by
  cases h : intB s.data.toList
  · have HR : Hid (numV s.data.toList = -2000000000000) := hide (by simp [numV, h])
    go_enter Tryz.func39, Tryz.ntmps39
    go_wp2_with (first | (go_at_call 79; refine (l1Int_any _ _ hs).mono ?_; rintro e w' ⟨rfl, rfl⟩; simp only [h]))
    go_ret
    exact ⟨by rw [HR.out]; rfl, rfl⟩
  · have HR : Hid (numV s.data.toList = intV s.data.toList) := hide (by simp [numV, h])
    go_enter Tryz.func39, Tryz.ntmps39
    go_wp2_with (first | (go_at_call 79; refine (l1Int_any _ _ hs).mono ?_; rintro e w' ⟨rfl, rfl⟩; simp only [h]))
    go_ret
    exact ⟨by rw [HR.out]; rfl, rfl⟩
/-- a call that hands back a list of words of its own -/
def WordsEnd (ws : List (List UInt8)) (w : World) (e : Ending) (w' : World) : Prop := Below w.heap.size w w' ∧ ∃ g cap, e = .returned (.slice (some ⟨g, 0, none⟩) ws.length cap) ∧ w.heap.size ≤ g ∧ ∀ (j : Nat) x, ws[j]? = some x → w'.cell? ⟨g, j, none⟩ = some (.string (bs x))
def wcells (ws : List (List UInt8)) : List Value := ws.map fun x => .string (bs x)
/-- the loop's state -/
def WMid (w : World) (l : List UInt8) (ws : List (List UInt8)) (rest : List UInt8) (more : Bool) (v : Value) (x : World) : Prop :=
  Below w.heap.size w x ∧ x.ownsRow w.heap.size 9 1 v ws.length (wcells ws) ∧ v ≠ .slice none 0 0 ∧ (more = true → wordsL l = ws ++ wordsL rest) ∧ (more = false → wordsL l = ws) ∧ ws.length + rest.length ≤ l.length + 1 ∧ (more = true → ws.length + rest.length ≤ l.length)
theorem info9 : (Tryz.prog.info? 9).map (fun i => (i.zero, i.size, i.bytes)) = some (some (.string ByteArray.empty), 1, 16) := by kernel_rfl
theorem row_form {w : World} {B : Nat} {v : Value} {n : Nat} {xs : List Value} (h : w.ownsRow B 9 1 v n xs) (hn : 0 < n) : ∃ g cap, v = .slice (some ⟨g, 0, none⟩) n cap := by
  rcases h.2 with ⟨_, h0⟩ | ⟨g, cap, _, hv, _⟩
  · omega
  · exact ⟨g, cap, hv⟩
theorem one_news (w : World) (x : Value) (j : Nat) (u : Value) (hj : [x][j]? = some u) : (w.alloc (.cells #[x] 9)).cell? ((⟨w.heap.size, 0, none⟩ : Addr).add j) = some u := by
  cases j with
  | zero => simp at hj; subst hj; simp [Addr.add]
  | succ j => simp at hj
theorem own_kept {w x : World} {B : Nat} {v : Value} {n : Nat} {xs : List Value} (h : w.ownsRow B 9 1 v n xs) (k : Below w.heap.size w x) : x.ownsRow B 9 1 v n xs :=
  h.kept (row := none) ⟨k.os, k.tape, k.output, k.size, fun i hi _ => k.block i hi⟩ (by cases h : v.ownBlock with | none => exact .inl rfl | some x => exact .inr (by simp))
theorem wmid_next {w x w1 w2 : World} {l : List UInt8} {ws : List (List UInt8)} {rest a r : List UInt8} {more : Bool} {v v' : Value} {o : Obj} (hm : WMid w l ws rest true v x) (hb : Below x.heap.size x w1)
    (hc : (more = true ∧ rest = a ++ 32 :: r ∧ wordsL rest = a :: wordsL r) ∨ (more = false ∧ rest = a ∧ r = [] ∧ wordsL rest = [a]))
    (ho : w2.ownsRow w.heap.size 9 1 v' (ws.length + 1) (wcells ws ++ [.string (bs a)])) (hg : (w1.alloc o).grownBy w2 v.ownBlock) (hn : v' ≠ .slice none 0 0) : WMid w l (ws ++ [a]) r more v' w2 := by
  obtain ⟨h1, h2, h3, h4, h5, h6, h7⟩ := hm
  refine ⟨below_grown hg (below_alloc (below_trans h1 hb) _) (fun j hj => (h2.lt j hj).1), by simpa [wcells] using ho, hn, fun e => ?_, fun e => ?_, ?_, fun e => ?_⟩
  · rcases hc with ⟨_, _, h⟩ | ⟨h, _⟩
    · rw [h4 rfl, h]; simp
    · rw [e] at h; cases h
  · rcases hc with ⟨h, _⟩ | ⟨_, _, _, h⟩
    · rw [e] at h; cases h
    · rw [h4 rfl, h]
  · have := h7 rfl
    rcases hc with ⟨_, h, _⟩ | ⟨_, _, h, _⟩
    · rw [h] at this; simp at this ⊢; omega
    · rw [h]; simp; omega
  · have := h7 rfl
    rcases hc with ⟨_, h, _⟩ | ⟨h, _⟩
    · rw [h] at this; simp at this ⊢; omega
    · rw [e] at h; cases h
/-- what l1Cut says, behind a name -/
def CutEnd (l : List UInt8) (w : World) (e : Ending) (w' : World) : Prop := Below w.heap.size w w' ∧ ∃ a r more, e = .returned (.tuple #[.string (bs a), .string (bs r), .bool more]) ∧ ((more = true ∧ l = a ++ 32 :: r ∧ wordsL l = a :: wordsL r) ∨ (more = false ∧ l = a ∧ r = [] ∧ wordsL l = [a]))
theorem l1Cut_words (l : List UInt8) (w : World) (hs : l.length ≤ maxLen) : Calls Tryz.prog 37 #[.string (bs l), .int .u8 32] w fun e w' => CutEnd l w e w' := by
  refine (l1Cut_any (bs l) 32 w (by rw [bs_size]; exact hs)).mono ?_
  rintro e w' ⟨hk, h⟩
  have hne : ∀ b : UInt8, (b.toNat : Int) ≠ 32 → b ≠ 32 := fun b hb e => hb (by rw [e]; rfl)
  refine ⟨hk.below, ?_⟩
  rcases h with ⟨a, x, r, hl, hx, ha, rfl⟩ | ⟨ha, rfl⟩
  · rw [bs_list] at hl
    obtain rfl : x = 32 := UInt8.toNat_inj.1 (by show x.toNat = 32; omega)
    exact ⟨a, r, true, rfl, .inl ⟨rfl, hl, by rw [hl]; exact wordsL_cut a r (fun b hb => hne b (ha b hb))⟩⟩
  · rw [bs_list] at ha
    exact ⟨l, [], false, rfl, .inr ⟨rfl, rfl, rfl, wordsL_none l (fun b hb => hne b (ha b hb))⟩⟩
set_option maxHeartbeats 2000000 in
theorem l3Words_any (l : List UInt8) (w : World) (hs : l.length ≤ 1048576) :
    Calls Tryz.prog 38 #[.string (bs l)] w fun e w' => WordsEnd (wordsL l) w e w' := by
  obtain ⟨i0, hi, hz0, hz1, hz2⟩ := info_parts info9
  have u36 : Tryz.prog.underlying 71 = some (.slice 9) := by kernel_rfl
  go_enter Tryz.func38, Tryz.ntmps38
  go_wp2
  go_loopw [0, 3, 4] (fun s v m wr => ∃ ws rest more, s = .string (bs rest) ∧ m = .bool more ∧ Hid (WMid w l ws rest more v wr)) (fun s v m wr => match m with | .bool true => (match s with | .string b => b.size + 1 | _ => 0) | _ => 0)
  case atStart => exact ⟨[], l, true, rfl, rfl, hide ⟨below_alloc (Below.refl _ _) _, World.ownsRow_made w #[] 0 (Nat.le_refl _) (by unfold maxLen; omega) rfl, by simp, fun _ => rfl, (fun h => by cases h), by simp, fun _ => by simp⟩⟩
  case round =>
    obtain ⟨ws, rest, more, rfl, rfl, HM⟩ := hrel
    cases more
    · go_wp2
      go_ret
      obtain ⟨h1, h2, h3, _, h5, _⟩ := HM.out
      rw [h5 rfl]
      have hw := h5 rfl
      have hp : 0 < ws.length := by rw [← hw]; exact wordsL_pos l
      obtain ⟨g, cap, hv⟩ := row_form h2 hp
      subst hv
      refine ⟨h1, g, cap, rfl, (h2.lt g rfl).1, fun j x hj => ?_⟩
      have hj' : j < ws.length := (List.getElem?_eq_some_iff.1 hj).1
      rw [h2.cellAt j (by omega)]
      simp [wcells, hj]
    · go_wp2_with (first | (go_at_call 37; refine (l1Cut_words rest _ (by have := HM.out.2.2.2.2.2.1; unfold maxLen; omega)).mono ?_; rintro e w1 ⟨hb1, a, r, more, rfl, hc⟩; have HB1 : Hid _ := hide hb1; have HC : Hid _ := hide hc; clear hb1 hc) | (at_builtin; refine Shut2.mk ?_) | fail)
      refine Shut2.mk' ?_
      have hown : w1.ownsRow w.heap.size 9 1 u3 ws.length (wcells ws) := own_kept HM.out.2.1 HB1.out
      have HO : Hid _ := hide hown
      have hlen : ws.length + 1 ≤ 1048577 := by have := HM.out.2.2.2.2.2.2 rfl; omega
      clear hown
      refine wpList_append_own_at _ rfl _ _ 71 rfl w.heap.size 9 i0 _ 1 16 u36 hi hz0 hz1 hz2 rfl (by decide) u3 ws.length (wcells ws) rfl ?own ⟨w1.heap.size, 0, none⟩ 1 1 [.string (bs a)] rfl rfl ?news (fun u hu => by simp at hu; subst hu; rfl) (by unfold maxLen; omega) (by omega) ?base ?_
      case own => exact HO.out.alloc _
      case news => exact one_news w1 _
      case base => have := HM.out.1.size; have := HB1.out.size; simp; omega
      intro v' w2 hown' hgrow hnil hloc
      have HN : Hid (WMid w l (ws ++ [a]) r more v' w2) := hide (wmid_next HM.out HB1.out HC.out hown' hgrow (fun h => by have := (hnil.1 h).2; omega))
      have HR : Hid (more = true → r.length < rest.length) := hide (fun hm => by
        rcases HC.out with ⟨_, hr, _⟩ | ⟨h, _⟩
        · rw [hr]; simp; omega
        · rw [hm] at h; cases h)
      clear hown' hgrow hnil hloc HM HC HO HB1
      go_wp2
      refine ⟨⟨_, _, _, rfl, rfl, HN⟩, ?_⟩
      cases more
      · simp
      · have := HR.out rfl
        simp [bs_size]
        omega
end Go.Proofs.YteaopalhbnhbaaaGreatDoor
