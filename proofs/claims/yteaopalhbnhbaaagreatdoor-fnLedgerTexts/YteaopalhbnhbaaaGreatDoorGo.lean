/- The words of a line, and a word as a number: the model's. -/
import Derived.Test.YteaopalhbnhbaaaGreatDoorGc
import Derived.Test.YteaopalhbnhbaaaGreatDoorGb
import Derived.Test.YteaopalhbnhbaaaGreatDoorGn
import Derived.Maps.AppendAt
import Derived.OwnWalk
import Derived.Laws.OwnMore
namespace Go.Proofs.YteaopalhbnhbaaaGreatDoor
open Go.ChangeShapes Go.WideShapes Go.ChangeAt Go.RowKit
set_option linter.unusedVariables false
set_option maxRecDepth 100000
def wordsL : List UInt8 → List (List UInt8)
  | [] => [[]]
  | c :: r => if c = 32 then [] :: wordsL r else match wordsL r with
    | [] => [[c]]
    | a :: t => (c :: a) :: t
theorem wordsL_cut (a r : List UInt8) (h : ∀ b ∈ a, b ≠ 32) : wordsL (a ++ 32 :: r) = a :: wordsL r := by
  induction a with
  | nil => simp [wordsL]
  | cons c cs ih =>
    have hc : c ≠ 32 := h c (List.mem_cons_self ..)
    rw [List.cons_append, wordsL, if_neg hc, ih (fun b hb => h b (List.mem_cons_of_mem _ hb))]
theorem wordsL_none (a : List UInt8) (h : ∀ b ∈ a, b ≠ 32) : wordsL a = [a] := by
  induction a with
  | nil => rfl
  | cons c cs ih =>
    have hc : c ≠ 32 := h c (List.mem_cons_self ..)
    rw [wordsL, if_neg hc, ih (fun b hb => h b (List.mem_cons_of_mem _ hb))]
theorem wordsL_pos (l : List UInt8) : 0 < (wordsL l).length := by
  cases l with
  | nil => simp [wordsL]
  | cons c r =>
    rw [wordsL]
    split
    · simp
    · split <;> simp
def numV (l : List UInt8) : Int := if intB l = true then intV l else -2000000000000
theorem l3Num_any (s : ByteArray) (w : World) (hs : s.size ≤ maxLen) :
    Calls Tryz.prog 39 #[.string s] w fun e w' => e = .returned (.int .i64 (numV s.data.toList)) ∧ w' = w := by
  cases h : intB s.data.toList
  · have HR : Hid (numV s.data.toList = -2000000000000) := hide (by simp [numV, h])
    go_enter Tryz.func39, Tryz.ntmps39
    go_wp2_with (first | (go_at_call 79; refine (l1Int_any _ _ hs).mono ?_; rintro e w' ⟨rfl, rfl⟩; simp only [h]))
    go_ret
    exact ⟨by rw [HR.out]; rfl, rfl⟩
  · have HR : Hid (numV s.data.toList = intV s.data.toList) := hide (by simp [numV, h])
    go_enter Tryz.func39, Tryz.ntmps39
    go_wp2_with (first | (go_at_call 79; refine (l1Int_any _ _ hs).mono ?_; rintro e w' ⟨rfl, rfl⟩; simp only [h]))
    go_ret
    exact ⟨by rw [HR.out]; rfl, rfl⟩
/-- a call that hands back a list of words of its own -/
def WordsEnd (ws : List (List UInt8)) (w : World) (e : Ending) (w' : World) : Prop := Below w.heap.size w w' ∧ ∃ g cap, e = .returned (.slice (some ⟨g, 0, none⟩) ws.length cap) ∧ w.heap.size ≤ g ∧ ∀ (j : Nat) x, ws[j]? = some x → w'.cell? ⟨g, j, none⟩ = some (.string (bs x))
def wcells (ws : List (List UInt8)) : List Value := ws.map fun x => .string (bs x)
/-- the loop's state -/
def WMid (w : World) (l : List UInt8) (ws : List (List UInt8)) (rest : List UInt8) (more : Bool) (v : Value) (x : World) : Prop :=
  Below w.heap.size w x ∧ x.ownsRow w.heap.size 9 1 v ws.length (wcells ws) ∧ v ≠ .slice none 0 0 ∧ (more = true → wordsL l = ws ++ wordsL rest) ∧ (more = false → wordsL l = ws) ∧ ws.length + rest.length ≤ l.length + 1 ∧ (more = true → ws.length + rest.length ≤ l.length)
theorem info9 : (Tryz.prog.info? 9).map (fun i => (i.zero, i.size, i.bytes)) = some (some (.string ByteArray.empty), 1, 16) := by kernel_rfl
theorem row_form {w : World} {B : Nat} {v : Value} {n : Nat} {xs : List Value} (h : w.ownsRow B 9 1 v n xs) (hn : 0 < n) : ∃ g cap, v = .slice (some ⟨g, 0, none⟩) n cap := by
  rcases h.2 with ⟨_, h0⟩ | ⟨g, cap, _, hv, _⟩
  · omega
  · exact ⟨g, cap, hv⟩
theorem one_news (w : World) (x : Value) (j : Nat) (u : Value) (hj : [x][j]? = some u) : (w.alloc (.cells #[x] 9)).cell? ((⟨w.heap.size, 0, none⟩ : Addr).add j) = some u := by
  cases j with
  | zero => simp at hj; subst hj; simp [Addr.add]
  | succ j => simp at hj
theorem own_kept {w x : World} {B : Nat} {v : Value} {n : Nat} {xs : List Value} (h : w.ownsRow B 9 1 v n xs) (k : Below w.heap.size w x) : x.ownsRow B 9 1 v n xs :=
  h.kept (row := none) ⟨k.os, k.tape, k.output, k.size, fun i hi _ => k.block i hi⟩ (by cases h : v.ownBlock with | none => exact .inl rfl | some x => exact .inr (by simp))
theorem wmid_next {w x w1 w2 : World} {l : List UInt8} {ws : List (List UInt8)} {rest a r : List UInt8} {more : Bool} {v v' : Value} {o : Obj} (hm : WMid w l ws rest true v x) (hb : Below x.heap.size x w1)
    (hc : (more = true ∧ rest = a ++ 32 :: r ∧ wordsL rest = a :: wordsL r) ∨ (more = false ∧ rest = a ∧ r = [] ∧ wordsL rest = [a]))
    (ho : w2.ownsRow w.heap.size 9 1 v' (ws.length + 1) (wcells ws ++ [.string (bs a)])) (hg : (w1.alloc o).grownBy w2 v.ownBlock) (hn : v' ≠ .slice none 0 0) : WMid w l (ws ++ [a]) r more v' w2 := by
  obtain ⟨h1, h2, h3, h4, h5, h6, h7⟩ := hm
  refine ⟨below_grown hg (below_alloc (below_trans h1 hb) _) (fun j hj => (h2.lt j hj).1), by simpa [wcells] using ho, hn, fun e => ?_, fun e => ?_, ?_, fun e => ?_⟩
  · rcases hc with ⟨_, _, h⟩ | ⟨h, _⟩
    · rw [h4 rfl, h]; simp
    · rw [e] at h; cases h
  · rcases hc with ⟨h, _⟩ | ⟨_, _, _, h⟩
    · rw [e] at h; cases h
    · rw [h4 rfl, h]
  · have := h7 rfl
    rcases hc with ⟨_, h, _⟩ | ⟨_, _, h, _⟩
    · rw [h] at this; simp at this ⊢; omega
    · rw [h]; simp; omega
  · have := h7 rfl
    rcases hc with ⟨_, h, _⟩ | ⟨h, _⟩
    · rw [h] at this; simp at this ⊢; omega
    · rw [e] at h; cases h
/-- what l1Cut says, behind a name -/
def CutEnd (l : List UInt8) (w : World) (e : Ending) (w' : World) : Prop := Below w.heap.size w w' ∧ ∃ a r more, e = .returned (.tuple #[.string (bs a), .string (bs r), .bool more]) ∧ ((more = true ∧ l = a ++ 32 :: r ∧ wordsL l = a :: wordsL r) ∨ (more = false ∧ l = a ∧ r = [] ∧ wordsL l = [a]))
theorem l1Cut_words (l : List UInt8) (w : World) (hs : l.length ≤ maxLen) : Calls Tryz.prog 37 #[.string (bs l), .int .u8 32] w fun e w' => CutEnd l w e w' := by
  refine (l1Cut_any (bs l) 32 w (by rw [bs_size]; exact hs)).mono ?_
  rintro e w' ⟨hk, h⟩
  have hne : ∀ b : UInt8, (b.toNat : Int) ≠ 32 → b ≠ 32 := fun b hb e => hb (by rw [e]; rfl)
  refine ⟨hk.below, ?_⟩
  rcases h with ⟨a, x, r, hl, hx, ha, rfl⟩ | ⟨ha, rfl⟩
  · rw [bs_list] at hl
    obtain rfl : x = 32 := UInt8.toNat_inj.1 (by show x.toNat = 32; omega)
    exact ⟨a, r, true, rfl, .inl ⟨rfl, hl, by rw [hl]; exact wordsL_cut a r (fun b hb => hne b (ha b hb))⟩⟩
  · rw [bs_list] at ha
    exact ⟨l, [], false, rfl, .inr ⟨rfl, rfl, rfl, wordsL_none l (fun b hb => hne b (ha b hb))⟩⟩
set_option maxHeartbeats 2000000 in
theorem l3Words_any (l : List UInt8) (w : World) (hs : l.length ≤ 1048576) :
    Calls Tryz.prog 38 #[.string (bs l)] w fun e w' => WordsEnd (wordsL l) w e w' := by
  obtain ⟨i0, hi, hz0, hz1, hz2⟩ := info_parts info9
  have u36 : Tryz.prog.underlying 71 = some (.slice 9) := by kernel_rfl
  go_enter Tryz.func38, Tryz.ntmps38
  go_wp2
  go_loopw [0, 3, 4] (fun s v m wr => ∃ ws rest more, s = .string (bs rest) ∧ m = .bool more ∧ Hid (WMid w l ws rest more v wr)) (fun s v m wr => match m with | .bool true => (match s with | .string b => b.size + 1 | _ => 0) | _ => 0)
  case atStart => exact ⟨[], l, true, rfl, rfl, hide ⟨below_alloc (Below.refl _ _) _, World.ownsRow_made w #[] 0 (Nat.le_refl _) (by unfold maxLen; omega) rfl, by simp, fun _ => rfl, (fun h => by cases h), by simp, fun _ => by simp⟩⟩
  case round =>
    obtain ⟨ws, rest, more, rfl, rfl, HM⟩ := hrel
    cases more
    · go_wp2
      go_ret
      obtain ⟨h1, h2, h3, _, h5, _⟩ := HM.out
      rw [h5 rfl]
      have hw := h5 rfl
      have hp : 0 < ws.length := by rw [← hw]; exact wordsL_pos l
      obtain ⟨g, cap, hv⟩ := row_form h2 hp
      subst hv
      refine ⟨h1, g, cap, rfl, (h2.lt g rfl).1, fun j x hj => ?_⟩
      have hj' : j < ws.length := (List.getElem?_eq_some_iff.1 hj).1
      rw [h2.cellAt j (by omega)]
      simp [wcells, hj]
    · go_wp2_with (first | (go_at_call 37; refine (l1Cut_words rest _ (by have := HM.out.2.2.2.2.2.1; unfold maxLen; omega)).mono ?_; rintro e w1 ⟨hb1, a, r, more, rfl, hc⟩; have HB1 : Hid _ := hide hb1; have HC : Hid _ := hide hc; clear hb1 hc) | (at_builtin; refine Shut2.mk ?_) | fail)
      refine Shut2.mk' ?_
      have hown : w1.ownsRow w.heap.size 9 1 u3 ws.length (wcells ws) := own_kept HM.out.2.1 HB1.out
      have HO : Hid _ := hide hown
      have hlen : ws.length + 1 ≤ 1048577 := by have := HM.out.2.2.2.2.2.2 rfl; omega
      clear hown
      refine wpList_append_own_at _ rfl _ _ 71 rfl w.heap.size 9 i0 _ 1 16 u36 hi hz0 hz1 hz2 rfl (by decide) u3 ws.length (wcells ws) rfl ?own ⟨w1.heap.size, 0, none⟩ 1 1 [.string (bs a)] rfl rfl ?news (fun u hu => by simp at hu; subst hu; rfl) (by unfold maxLen; omega) (by omega) ?base ?_
      case own => exact HO.out.alloc _
      case news => exact one_news w1 _
      case base => have := HM.out.1.size; have := HB1.out.size; simp; omega
      intro v' w2 hown' hgrow hnil hloc
      have HN : Hid (WMid w l (ws ++ [a]) r more v' w2) := hide (wmid_next HM.out HB1.out HC.out hown' hgrow (fun h => by have := (hnil.1 h).2; omega))
      have HR : Hid (more = true → r.length < rest.length) := hide (fun hm => by
        rcases HC.out with ⟨_, hr, _⟩ | ⟨h, _⟩
        · rw [hr]; simp; omega
        · rw [hm] at h; cases h)
      clear hown' hgrow hnil hloc HM HC HO HB1
      go_wp2
      refine ⟨⟨_, _, _, rfl, rfl, HN⟩, ?_⟩
      cases more
      · simp
      · have := HR.out rfl
        simp [bs_size]
        omega
end Go.Proofs.YteaopalhbnhbaaaGreatDoor
/- The contract of the model's CommandText. -/
namespace Go.Proofs.YteaopalhbnhbaaaGreatDoor
open Go.ChangeShapes Go.WideShapes Go.ChangeAt Go.RowKit
set_option linter.unusedVariables false
set_option maxRecDepth 100000
/-- the word of a kind -/
def wordL (k : Int) : List UInt8 := if k = 1 then [111, 112, 101, 110] else if k = 2 then [112, 111, 115, 116] else if k = 3 then [104, 111, 108, 100] else if k = 4 then [116, 97, 107, 101] else [100, 114, 111, 112]
/-- the text of a command -/
def cmdT (id kind : Int) (f t : ByteArray) (am ref : Int) : List UInt8 :=
  if cmdB id kind f t am ref = true then
    (if kind = 4 ∨ kind = 5 then Lib.itoa id ++ ([32] ++ (wordL kind ++ ([32] ++ Lib.itoa ref)))
     else Lib.itoa id ++ ([32] ++ (wordL kind ++ ([32] ++ (f.data.toList ++ ([32] ++ (t.data.toList ++ ([32] ++ Lib.itoa am))))))))
  else []
def StrEnd (l : List UInt8) (w : World) (e : Ending) (w' : World) : Prop := e = .returned (.string (bs l)) ∧ Below w.heap.size w w'
theorem boxed6 {w x : World} {v0 v1 v2 v3 v4 v5 : Value} {T : TypeId} (h : Below (w.alloc (.cells #[v0, v1, v2, v3, v4, v5] T)).heap.size (w.alloc (.cells #[v0, v1, v2, v3, v4, v5] T)) x) :
    x.cell? ⟨w.heap.size, 0, none⟩ = some v0 ∧ x.cell? ⟨w.heap.size, 1, none⟩ = some v1 ∧ x.cell? ⟨w.heap.size, 2, none⟩ = some v2 ∧ x.cell? ⟨w.heap.size, 3, none⟩ = some v3 ∧ x.cell? ⟨w.heap.size, 4, none⟩ = some v4 ∧ x.cell? ⟨w.heap.size, 5, none⟩ = some v5 := by
  have hb : ∀ o, x.cell? ⟨w.heap.size, o, none⟩ = (w.alloc (.cells #[v0, v1, v2, v3, v4, v5] T)).cell? ⟨w.heap.size, o, none⟩ := fun o => h.cell (p := ⟨w.heap.size, o, none⟩) (by simp)
  refine ⟨?_, ?_, ?_, ?_, ?_, ?_⟩ <;> rw [hb] <;> simp
theorem itoa_len {n : Int} (h0 : -1000000000000000 ≤ n) (h1 : n ≤ 1000000000000000) : (Lib.itoa n).length ≤ 17 := by
  by_cases h : n < 0
  · rw [← itoa_neg h h0]; have := dec_len 15 (-n).toNat (by omega) (by omega); simp; omega
  · rw [← itoa_pos (by omega) h1]; have := dec_len 15 n.toNat (by omega) (by omega); omega
theorem name_short {s : ByteArray} (h : nameB s = true) : s.size ≤ 12 := by
  unfold nameB at h
  simp only [Bool.and_eq_true, decide_eq_true_eq] at h
  omega
theorem cur_short {s : ByteArray} (h : curB s = true) : s.size ≤ 12 := by
  unfold curB at h
  simp only [Bool.and_eq_true, decide_eq_true_eq] at h
  omega
/-- what a right command of the first three kinds has -/
theorem cmd_abc {id k : Int} {f t : ByteArray} {am ref : Int} (hk : k = 1 ∨ k = 2 ∨ k = 3) (h : cmdB id k f t am ref = true) : (1 ≤ id ∧ id ≤ 1000000000) ∧ f.size ≤ 12 ∧ t.size ≤ 12 ∧ -1 ≤ am ∧ am ≤ 1000000000000 := by
  unfold cmdB at h
  simp only [Bool.and_eq_true] at h
  obtain ⟨h0, h1⟩ := h
  refine ⟨inB_iff.1 h0, ?_⟩
  rcases hk with rfl | rfl | rfl
  · rw [if_pos rfl] at h1
    simp only [Bool.and_eq_true] at h1
    exact ⟨name_short h1.1.1.1, cur_short h1.1.1.2, inB_iff.1 h1.1.2⟩
  · rw [if_neg (by decide), if_pos (by decide)] at h1
    simp only [Bool.and_eq_true] at h1
    have := inB_iff.1 h1.1.2
    exact ⟨name_short h1.1.1.1.1, name_short h1.1.1.1.2, by omega⟩
  · rw [if_neg (by decide), if_pos (by decide)] at h1
    simp only [Bool.and_eq_true] at h1
    have := inB_iff.1 h1.1.2
    exact ⟨name_short h1.1.1.1.1, name_short h1.1.1.1.2, by omega⟩
theorem cmd_de {id k : Int} {f t : ByteArray} {am ref : Int} (hk : k = 4 ∨ k = 5) (h : cmdB id k f t am ref = true) : (1 ≤ id ∧ id ≤ 1000000000) ∧ 1 ≤ ref ∧ ref ≤ 1000000000 := by
  unfold cmdB at h
  simp only [Bool.and_eq_true] at h
  obtain ⟨h0, h1⟩ := h
  refine ⟨inB_iff.1 h0, ?_⟩
  rcases hk with rfl | rfl
  · rw [if_neg (by decide), if_neg (by decide), if_pos (by decide)] at h1
    simp only [Bool.and_eq_true] at h1
    exact inB_iff.1 h1.2
  · rw [if_neg (by decide), if_neg (by decide), if_pos (by decide)] at h1
    simp only [Bool.and_eq_true] at h1
    exact inB_iff.1 h1.2
theorem cmd_kind {id k : Int} {f t : ByteArray} {am ref : Int} (h : cmdB id k f t am ref = true) : k = 1 ∨ k = 2 ∨ k = 3 ∨ k = 4 ∨ k = 5 := by
  unfold cmdB at h
  simp only [Bool.and_eq_true] at h
  by_cases h1 : k = 1
  · exact .inl h1
  · by_cases h2 : k = 2 ∨ k = 3
    · omega
    · by_cases h3 : k = 4 ∨ k = 5
      · omega
      · rw [if_neg h1, if_neg h2, if_neg h3] at h; simp at h
end Go.Proofs.YteaopalhbnhbaaaGreatDoor
/- Reading a command: the plain mathematics. -/
namespace Go.Proofs.YteaopalhbnhbaaaGreatDoor
set_option linter.unusedVariables false
/-- a byte that parts words -/
def sepB (c : UInt8) : Bool := c == 32 || c == 10
def wordOf (l : List UInt8) : List UInt8 := l.takeWhile (fun c => !sepB c)
def restOf (l : List UInt8) : List UInt8 := l.dropWhile (fun c => !sepB c)
theorem word_rest (l : List UInt8) : wordOf l ++ restOf l = l := List.takeWhile_append_dropWhile
theorem word_app {a r : List UInt8} (ha : ∀ c ∈ a, sepB c = false) (hr : ∀ c, r.head? = some c → sepB c = true) : wordOf (a ++ r) = a ∧ restOf (a ++ r) = r := by
  induction a with
  | nil =>
    cases r with
    | nil => exact ⟨rfl, rfl⟩
    | cons c cs =>
      have := hr c rfl
      simp [wordOf, restOf, this]
  | cons x xs ih =>
    have hx := ha x (List.mem_cons_self ..)
    obtain ⟨i1, i2⟩ := ih (fun c hc => ha c (List.mem_cons_of_mem _ hc))
    simp only [wordOf, restOf] at i1 i2 ⊢
    rw [List.cons_append, List.takeWhile_cons_of_pos (by simp [hx]), List.dropWhile_cons_of_pos (by simp [hx]), i1, i2]
    exact ⟨rfl, rfl⟩
theorem decA_head (f n : Nat) (acc : List UInt8) (h : 1 ≤ n) (hn : n < 10 ^ (f + 1)) : (decA (f + 1) n acc).head? ≠ some 48 := by
  induction f generalizing n acc with
  | zero =>
    rw [decA_small _ _ _ (by simpa using hn)]
    simp only [List.head?_cons, ne_eq, Option.some.injEq]
    intro e
    have := congrArg UInt8.toNat e
    rw [dg_toNat] at this
    simp at hn
    revert this; simp; omega
  | succ f ih =>
    by_cases h1 : n < 10
    · rw [decA_small _ _ _ h1]
      simp only [List.head?_cons, ne_eq, Option.some.injEq]
      intro e
      have := congrArg UInt8.toNat e
      rw [dg_toNat] at this
      revert this; simp; omega
    · rw [decA_big _ _ _ (by omega)]
      exact ih _ _ (by omega) (by rw [Nat.pow_succ] at hn; omega)
theorem negB_dec (m : Nat) : negB (dec m) = false := by
  unfold negB
  have := head_dec m []
  rw [List.append_nil] at this
  simp [this]
theorem dec_pos (m : Nat) : 1 ≤ (dec m).length := by
  cases e : dec m with
  | nil => exact absurd e (dec_ne_nil m)
  | cons c cs => simp
theorem dec_nought {m : Nat} (h : m ≤ 99999999999999) (hp : 1 ≤ m) : (dec m).head? ≠ some 48 := by
  have := decA_head 19 m [] hp (by omega)
  rwa [show decA (19 + 1) m [] = dec m from rfl] at this
theorem digs_dec (m : Nat) : (dec m).all digB = true := by
  rw [List.all_eq_true]
  intro c hc
  have := dec_digit m c hc
  simp [digB]; omega
theorem intB_dec {m : Nat} (h : m ≤ 99999999999999) : intB (dec m) = true := by
  unfold intB bodyL
  rw [negB_dec, if_neg (by simp), digs_dec, Bool.and_true]
  unfold formB
  have h1 := dec_len 13 m (by omega) (by omega)
  have h0 := dec_pos m
  have h2 : (decide ((dec m).head? = some 48) && (decide (1 < (dec m).length) || false)) = false := by
    rcases Nat.eq_zero_or_pos m with rfl | hp
    · rfl
    · simp [dec_nought h hp]
  rw [h2]
  simp [h0, h1]
theorem intV_dec {m : Nat} (h : m ≤ 99999999999999) : intV (dec m) = m := by
  unfold intV
  rw [if_pos (intB_dec h), negB_dec, if_neg (by simp)]
  unfold bodyL
  rw [negB_dec, if_neg (by simp), hundL_dec m (by omega)]
theorem negB_neg (m : Nat) : negB (45 :: dec m) = true := by
  have := dec_pos m
  simp [negB]
  omega
theorem intB_neg {m : Nat} (h : m ≤ 99999999999999) (hp : 1 ≤ m) : intB (45 :: dec m) = true := by
  unfold intB bodyL
  rw [negB_neg, if_pos rfl, List.tail_cons, digs_dec, Bool.and_true]
  unfold formB
  have h1 := dec_len 13 m (by omega) (by omega)
  have h0 := dec_pos m
  simp [h0, h1, dec_nought h hp]
theorem intV_neg {m : Nat} (h : m ≤ 99999999999999) (hp : 1 ≤ m) : intV (45 :: dec m) = -m := by
  unfold intV
  rw [if_pos (intB_neg h hp), negB_neg, if_pos rfl]
  unfold bodyL
  rw [negB_neg, if_pos rfl, List.tail_cons, hundL_dec m (by omega)]
/-- a number's text is a number -/
theorem int_itoa {n : Int} (h0 : -99999999999999 ≤ n) (h1 : n ≤ 99999999999999) : intB (Lib.itoa n) = true ∧ intV (Lib.itoa n) = n := by
  by_cases h : n < 0
  · rw [← itoa_neg h (by omega)]
    refine ⟨intB_neg (by omega) (by omega), ?_⟩
    rw [intV_neg (by omega) (by omega)]
    omega
  · rw [← itoa_pos (by omega) (by omega)]
    refine ⟨intB_dec (by omega), ?_⟩
    rw [intV_dec (by omega)]
    omega
end Go.Proofs.YteaopalhbnhbaaaGreatDoor
