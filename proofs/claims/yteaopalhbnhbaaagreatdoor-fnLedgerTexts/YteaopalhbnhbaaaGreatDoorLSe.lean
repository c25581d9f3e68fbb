/- What was answered, and a number more: the model's l2Seen and l2See. -/
import Derived.Test.YteaopalhbnhbaaaGreatDoorLOp
namespace Go.Proofs.YteaopalhbnhbaaaGreatDoor
open Go.ChangeShapes Go.WideShapes Go.ChangeAt Go.RowKit
set_option linter.unusedVariables false
set_option maxRecDepth 100000
theorem fi_hit {ids : List Int} {x : Int} {k : Nat} (hk : k < ids.length) (h1 : ids[k] = x) (h2 : ∀ j (hj : j < ids.length), j < k → ids[j] ≠ x) : fi ids x = some k := by
  unfold fi
  rw [List.findIdx?_eq_some_iff_getElem]
  exact ⟨hk, by simpa using h1, fun j hj => by have := h2 j (by omega) hj; simpa using this⟩
theorem fi_miss {ids : List Int} {x : Int} (h : ∀ j (hj : j < ids.length), ids[j] ≠ x) : fi ids x = none := by
  unfold fi
  rw [List.findIdx?_eq_none_iff]
  intro y hy
  obtain ⟨j, hj, rfl⟩ := List.mem_iff_getElem.1 hy
  have := h j hj
  simpa using this
theorem fi_some {ids : List Int} {x : Int} {k : Nat} (h : fi ids x = some k) : ∃ hk : k < ids.length, ids[k] = x := by
  unfold fi at h
  rw [List.findIdx?_eq_some_iff_getElem] at h
  obtain ⟨hk, h1, _⟩ := h
  exact ⟨hk, by simpa using h1⟩
theorem fi_none {ids : List Int} {x : Int} (h : fi ids x = none) : ∀ y ∈ ids, y ≠ x := by
  unfold fi at h
  rw [List.findIdx?_eq_none_iff] at h
  intro y hy
  have := h y hy
  simpa using this
theorem seenV_hit {l : List Sn} {id : Int} {k : Nat} (hk : k < l.length) (h : fi (l.map Sn.id) id = some k) : seenV l id = (l[k]).code := by
  unfold seenV; rw [h]; simp only [List.getElem?_eq_getElem hk]
theorem seenV_miss {l : List Sn} {id : Int} (h : fi (l.map Sn.id) id = none) : seenV l id = -1 := by
  unfold seenV; rw [h]
set_option maxHeartbeats 2000000 in
theorem l2Seen_any (sa : Option Addr) (l : List Sn) (sc : Nat) (id : Int) (w : World) (hl : l.length ≤ 1048576) (h : RowAt 2 snCells w sa l) :
    Calls Tryz.prog 101 #[.slice sa l.length sc, .int .i64 id] w fun e w' => e = .returned (.int .i64 (seenV l id)) ∧ w' = w := by
  have HC : Hid _ := hide h
  clear h
  go_enter Tryz.func101, Tryz.ntmps101
  go_wp2
  go_loopw [5] (fun i wr => ∃ k : Nat, k ≤ l.length ∧ i = .int .i64 (k : Int) ∧ wr = w ∧ Hid (∀ j (hj : j < l.length), j < k → l[j].id ≠ id)) (fun i wr => l.length - (intOf i).toNat)
  case atStart => exact ⟨0, Nat.zero_le _, rfl, rfl, hide (fun j _ hj => by omega)⟩
  case round =>
    obtain ⟨k, hk, rfl, rfl, HN⟩ := hrel
    by_cases hlt : k < l.length
    · obtain ⟨b, off, hpa, hb, c0, c1⟩ := sn_row HC.out k hlt
      subst hpa
      have hlt' : (k : Int) < (l.length : Int) := by omega
      cases hq : ((l[k]).id == id)
      · have HS : Hid (∀ j (hj : j < l.length), j < k + 1 → l[j].id ≠ id) := hide (fun j hj hjk => by
          rcases Nat.lt_or_ge j k with h | h
          · exact HN.out j hj h
          · obtain rfl : j = k := by omega
            simpa using hq)
        go_wp2
        exact ⟨⟨k + 1, by omega, by go_num, by trivial, HS⟩, by simp [intOf]; omega⟩
      · have HE : Hid (fi (l.map Sn.id) id = some k) := hide (fi_hit (by simpa using hlt) (by simpa using hq) (fun j hj hjk => by have := HN.out j (by simpa using hj) hjk; simpa using this))
        go_wp2
        go_ret
        exact ⟨by rw [seenV_hit hlt HE.out]; rfl, rfl⟩
    · have HE : Hid (fi (l.map Sn.id) id = none) := hide (fi_miss (fun i hi => by have := HN.out i (by simpa using hi) (by have : i < l.length := (by simpa using hi); omega); simpa using this))
      have hk' : ¬ (k : Int) < (l.length : Int) := by omega
      go_wp2
      go_ret
      exact ⟨by rw [seenV_miss HE.out]; rfl, rfl⟩
theorem sn_one (l : List Sn) : ∀ u ∈ l.flatMap snCells, u.oneCell' = true := by
  intro u hu
  obtain ⟨x, _, hx⟩ := List.mem_flatMap.1 hu
  simp only [snCells, List.mem_cons, List.not_mem_nil, or_false] at hx
  rcases hx with rfl | rfl <;> rfl
theorem wpList_append_any {P : Program} {w : World} {ops : Array Oper} {rest : List Oper} {o : Oper} {a : Act} {Q : Exit → Act → World → Prop} (hgd : o.guard = none) (s x : Operand) (t : TypeId)
    (ho : o.op = .call { callee := .builtin .append, args := #[s, x], argTypes := #[t, t] })
    (base : Nat) (e : TypeId) (i : TypeInfo) (z : Value) (size bytes : Nat) (ht : P.underlying t = some (.slice e)) (hi : P.info? e = some i) (hz : i.zero = some z)
    (hsize : i.size = size) (hby : i.bytes = bytes) (hzs : z.cells.size = size) (hsz : 0 < size)
    (v : Value) (n : Nat) (xs : List Value) (hs : a.eval s = v) (hown : w.ownsRow base e size v n xs)
    (ao : Option Addr) (m c : Nat) (news : List Value) (hx : a.eval x = .slice ao m c) (hl : news.length = m * size) (hnone : ao = none → m = 0 ∧ c = 0) (hnews : ∀ ad, ao = some ad → ∀ j u, news[j]? = some u → w.cell? (ad.add j) = some u) (h1 : ∀ u ∈ news, u.oneCell' = true)
    (h63 : n + m ≤ maxLen) (hbytes : (n + m) * bytes ≤ 140737488355328) (hbase : base ≤ w.heap.size)
    (h : ∀ v' w', w'.ownsRow base e size v' (n + m) (xs ++ news) → w.grownBy w' v.ownBlock → (v'.ownBlock = v.ownBlock ∨ v'.ownBlock = some w.heap.size) → wpList P ops Q rest (a.put o.dst v') w') :
    wpList P ops Q (o :: rest) a w := by
  refine wpList_plain hgd fun K hK => ?_
  obtain ⟨v', w', hr, h2, h3, h4⟩ := run_append_any (P := P) (w := w) base t o.type e i z size bytes ht hi hz hsize hby hzs hsz v n xs hown ao m c news hl hnone hnews h1 h63 hbytes hbase
  unfold Oper.wp
  rw [exec_append ho hs hx hr]
  exact hK _ _ (h v' w' h2 h3 h4)
theorem see_is {l : List Sn} {id code : Int} {k : Nat} (hk : k ≤ l.length) (h1 : ∀ j (hj : j < l.length), j < k → l[j].id < id) (h2 : ∀ hj : k < l.length, ¬ l[k].id < id) : seeL l id code = l.take k ++ ([⟨id, code⟩] ++ l.drop k) := by
  unfold seeL
  induction l generalizing k with
  | nil => simp at hk; subst hk; simp
  | cons x l ih =>
    cases k with
    | zero =>
      have := h2 (by simp)
      simp only [List.getElem_cons_zero] at this
      simp [this]
    | succ k =>
      have h0 := h1 0 (by simp) (by omega)
      simp only [List.getElem_cons_zero] at h0
      have := ih (k := k) (by simpa using hk) (fun j hj hjk => by have := h1 (j + 1) (by simpa using hj) (by omega); simpa using this) (fun hj => by have := h2 (by simpa using hj); simpa using this)
      simp only [List.takeWhile_cons, List.dropWhile_cons, h0, decide_true, if_true, List.take_succ_cons, List.drop_succ_cons, List.cons_append]
      rw [this]
      rfl
theorem see_len (l : List Sn) (id code : Int) : (seeL l id code).length = l.length + 1 := by
  unfold seeL
  have := congrArg List.length (List.takeWhile_append_dropWhile (p := fun x : Sn => decide (x.id < id)) (l := l))
  simp only [List.length_append, List.length_cons] at this ⊢
  omega
theorem RowAt.take {A : Type} {sz : Nat} {f : A → List Value} {w : World} {a : Option Addr} {l : List A} (h : RowAt sz f w a l) (k : Nat) : RowAt sz f w a (l.take k) := by
  intro i hi
  have hi' : i < l.length := by simp at hi; omega
  obtain ⟨b, off, e, hb, hc⟩ := h i hi'
  refine ⟨b, off, e, hb, ?_⟩
  simpa using hc
theorem RowAt.drop {A : Type} {sz : Nat} {f : A → List Value} {w : World} {b off : Nat} {l : List A} (h : RowAt sz f w (some ⟨b, off, none⟩) l) (k : Nat) : RowAt sz f w (some ⟨b, off + k * sz, none⟩) (l.drop k) := by
  intro i hi
  have hi' : k + i < l.length := by simp at hi; omega
  obtain ⟨b', off', e, hb, hc⟩ := h (k + i) hi'
  simp only [Option.some.injEq, Addr.mk.injEq, and_true] at e
  obtain ⟨rfl, rfl⟩ := e
  refine ⟨b, off + k * sz, rfl, hb, ?_⟩
  intro j u hj
  have := hc j u (by simpa using hj)
  rwa [show off + k * sz + i * sz + j = off + (k + i) * sz + j by rw [Nat.add_mul]; omega]
theorem see_new {w2 : World} {id code : Int} {j : Nat} {u : Value} (hj : (snCells ⟨id, code⟩)[j]? = some u) : (w2.alloc (.cells #[.int .i64 id, .int .i64 code] 55)).cell? (Addr.add ⟨w2.heap.size, 0, none⟩ j) = some u := by
  match j, hj with
  | 0, hj => simp [snCells] at hj; subst hj; exact World.cell?_alloc_at _ _ _ _ rfl
  | 1, hj => simp [snCells] at hj; subst hj; exact World.cell?_alloc_at _ _ _ _ rfl
  | n + 2, hj => simp [snCells] at hj
/-- what l2See ends with: a row of its own -/
def SeeEnd (l : List Sn) (id code : Int) (w : World) (e : Ending) (w' : World) : Prop := Below w.heap.size w w' ∧ ∃ v, e = .returned v ∧ w'.ownsRow w.heap.size 55 2 v (l.length + 1) ((seeL l id code).flatMap snCells)
set_option maxHeartbeats 4000000 in
theorem l2See_any (b off : Nat) (l : List Sn) (sc : Nat) (id code : Int) (w : World) (hl : l.length ≤ 1048576) (hsc : l.length ≤ sc) (h : RowAt 2 snCells w (some ⟨b, off, none⟩) l) :
    Calls Tryz.prog 106 #[.slice (some ⟨b, off, none⟩) l.length sc, .int .i64 id, .int .i64 code] w fun e w' => SeeEnd l id code w e w' := by
  have HC : Hid _ := hide h
  clear h
  obtain ⟨i0, hi0, hz0, hz1, hz2⟩ := info_parts infoSn
  have hu : Tryz.prog.underlying 26 = some (.slice 55) := by kernel_rfl
  go_enter Tryz.func106, Tryz.ntmps106
  go_wp2
  go_loopw [7] (fun i wr => ∃ k : Nat, k ≤ l.length ∧ i = .int .i64 (k : Int) ∧ wr = w ∧ Hid (∀ j (hj : j < l.length), j < k → l[j].id < id)) (fun i wr => l.length - (intOf i).toNat)
  case atStart => exact ⟨0, Nat.zero_le _, rfl, rfl, hide (fun j _ hj => by omega)⟩
  case round =>
    obtain ⟨k, hk, rfl, rfl, HN⟩ := hrel
    by_cases hgo : ∃ hlt : k < l.length, l[k].id < id
    · obtain ⟨hlt, hq⟩ := hgo
      obtain ⟨b', off', hpa, hb, c0, c1⟩ := sn_row HC.out k hlt
      simp only [Option.some.injEq, Addr.mk.injEq, and_true] at hpa
      obtain ⟨rfl, rfl⟩ := hpa
      have hlt' : (k : Int) < (l.length : Int) := by omega
      have HS : Hid (∀ j (hj : j < l.length), j < k + 1 → l[j].id < id) := hide (fun j hj hjk => by
        rcases Nat.lt_or_ge j k with h | h
        · exact HN.out j hj h
        · obtain rfl : j = k := by omega
          exact hq)
      go_wp2
      exact ⟨⟨k + 1, by omega, by go_num, by trivial, HS⟩, by simp [intOf]; omega⟩
    · have HE : Hid (seeL l id code = l.take k ++ ([⟨id, code⟩] ++ l.drop k)) := hide (see_is hk HN.out (fun hj hq => hgo ⟨hj, hq⟩))
      have hksc : (k : Int) ≤ (sc : Int) := by omega
      have hkl : (k : Int) ≤ (l.length : Int) := by omega
      have HF1 : Hid (((l.take k).flatMap snCells).length = k * 2) := hide (by rw [flat_len snCells 2 snLen]; simp; omega)
      have HF2 : Hid (((l.drop k).flatMap snCells).length = (l.length - k) * 2) := hide (by rw [flat_len snCells 2 snLen]; simp)
      by_cases hlt : k < l.length
      · obtain ⟨b', off', hpa, hb, c0, c1⟩ := sn_row HC.out k hlt
        simp only [Option.some.injEq, Addr.mk.injEq, and_true] at hpa
        obtain ⟨rfl, rfl⟩ := hpa
        have hlt' : (k : Int) < (l.length : Int) := by omega
        have hq : ¬ l[k].id < id := fun hq => hgo ⟨hlt, hq⟩
        clear hgo
        go_wp2_with (first | (at_builtin; refine Shut2.mk ?_) | fail)
        refine Shut2.mk' ?_
        refine wpList_append_any rfl _ _ 26 rfl wr.heap.size 55 i0 _ 2 16 hu hi0 hz0 hz1 hz2 rfl (by decide) (.slice (some ⟨wr.heap.size, 0, none⟩) 0 0) 0 [] rfl (World.ownsRow_made wr #[] 0 (Nat.le_refl _) (by unfold maxLen; omega) rfl) (some ⟨b, off, none⟩) k sc ((l.take k).flatMap snCells) rfl HF1.out (fun e => by cases e) (RowAt.news_any snLen (by decide) ((HC.out.take k).below (below_alloc (Below.refl _ _) _))) (sn_one _) (by unfold maxLen; omega) (by omega) (by simp) ?_
        intro v2 w2 ho2 hg2 _
        have HB2 : Hid (Below wr.heap.size wr w2) := hide ((below_alloc (Below.refl _ _) _).grown hg2 (by simp) (fun j hj => by
          simp only [Value.ownBlock, Option.some.injEq] at hj
          omega))
        have HO2 : Hid (w2.ownsRow wr.heap.size 55 2 v2 k ((l.take k).flatMap snCells)) := hide (by simpa using ho2)
        clear ho2 hg2
        go_wp2_with (first | (at_builtin; refine Shut2.mk ?_) | fail)
        refine Shut2.mk' ?_
        refine wpList_append_any rfl _ _ 26 rfl wr.heap.size 55 i0 _ 2 16 hu hi0 hz0 hz1 hz2 rfl (by decide) v2 k ((l.take k).flatMap snCells) rfl (HO2.out.alloc _) (some ⟨w2.heap.size, 0, none⟩) 1 1 (snCells ⟨id, code⟩) rfl rfl (fun e => by cases e) (fun ad had j u hj => by cases had; exact see_new hj) (fun u hu => sn_one [⟨id, code⟩] u (by simpa using hu)) (by unfold maxLen; omega) (by omega) (by have := HB2.out.size; simp; omega) ?_
        intro v3 w3 ho3 hg3 _
        have HB3 : Hid (Below wr.heap.size wr w3) := hide ((below_alloc HB2.out _).grown hg3 (by have := HB2.out.size; simp; omega) (fun j hj => (HO2.out.lt j hj).1))
        have HO3 : Hid (w3.ownsRow wr.heap.size 55 2 v3 (k + 1) ((l.take k).flatMap snCells ++ snCells ⟨id, code⟩)) := hide ho3
        clear ho3 hg3
        go_wp2_with (first | (at_builtin; refine Shut2.mk ?_) | fail)
        refine Shut2.mk' ?_
        refine wpList_append_any rfl _ _ 26 rfl wr.heap.size 55 i0 _ 2 16 hu hi0 hz0 hz1 hz2 rfl (by decide) v3 (k + 1) ((l.take k).flatMap snCells ++ snCells ⟨id, code⟩) rfl HO3.out (some ⟨b, off + k * 2, none⟩) (l.length - k) (sc - k) ((l.drop k).flatMap snCells) rfl HF2.out (fun e => by cases e) (RowAt.news_any snLen (by decide) ((HC.out.drop k).below HB3.out)) (sn_one _) (by unfold maxLen; omega) (by omega) HB3.out.size ?_
        intro v4 w4 ho4 hg4 _
        have HB4 : Hid (Below wr.heap.size wr w4) := hide (HB3.out.grown hg4 HB3.out.size (fun j hj => (HO3.out.lt j hj).1))
        have HO4 : Hid (w4.ownsRow wr.heap.size 55 2 v4 (l.length + 1) ((seeL l id code).flatMap snCells)) := hide (by
          rw [HE.out]
          have e : k + 1 + (l.length - k) = l.length + 1 := by omega
          rw [e] at ho4
          simpa [List.append_assoc] using ho4)
        clear ho4 hg4
        go_wp2
        go_ret
        exact ⟨HB4.out, v4, rfl, HO4.out⟩
      · have hkl2 : k = l.length := by omega
        have hnlt : ¬ (k : Int) < (l.length : Int) := by omega
        have HZ : Hid (l.drop k = [] ∧ l.length = k) := hide ⟨List.drop_of_length_le (by omega), hkl2.symm⟩
        by_cases hsk : sc = k
        · subst hsk
          clear hgo hkl2
          go_wp2_with (first | (at_builtin; refine Shut2.mk ?_) | fail)
          refine Shut2.mk' ?_
          refine wpList_append_any rfl _ _ 26 rfl wr.heap.size 55 i0 _ 2 16 hu hi0 hz0 hz1 hz2 rfl (by decide) (.slice (some ⟨wr.heap.size, 0, none⟩) 0 0) 0 [] rfl (World.ownsRow_made wr #[] 0 (Nat.le_refl _) (by unfold maxLen; omega) rfl) (some ⟨b, off, none⟩) sc sc ((l.take sc).flatMap snCells) rfl HF1.out (fun e => by cases e) (RowAt.news_any snLen (by decide) ((HC.out.take sc).below (below_alloc (Below.refl _ _) _))) (sn_one _) (by unfold maxLen; omega) (by omega) (by simp) ?_
          intro v2 w2 ho2 hg2 _
          have HB2 : Hid (Below wr.heap.size wr w2) := hide ((below_alloc (Below.refl _ _) _).grown hg2 (by simp) (fun j hj => by
            simp only [Value.ownBlock, Option.some.injEq] at hj
            omega))
          have HO2 : Hid (w2.ownsRow wr.heap.size 55 2 v2 sc ((l.take sc).flatMap snCells)) := hide (by simpa using ho2)
          clear ho2 hg2
          go_wp2_with (first | (at_builtin; refine Shut2.mk ?_) | fail)
          refine Shut2.mk' ?_
          refine wpList_append_any rfl _ _ 26 rfl wr.heap.size 55 i0 _ 2 16 hu hi0 hz0 hz1 hz2 rfl (by decide) v2 sc ((l.take sc).flatMap snCells) rfl (HO2.out.alloc _) (some ⟨w2.heap.size, 0, none⟩) 1 1 (snCells ⟨id, code⟩) rfl rfl (fun e => by cases e) (fun ad had j u hj => by cases had; exact see_new hj) (fun u hu => sn_one [⟨id, code⟩] u (by simpa using hu)) (by unfold maxLen; omega) (by omega) (by have := HB2.out.size; simp; omega) ?_
          intro v3 w3 ho3 hg3 _
          have HB3 : Hid (Below wr.heap.size wr w3) := hide ((below_alloc HB2.out _).grown hg3 (by have := HB2.out.size; simp; omega) (fun j hj => (HO2.out.lt j hj).1))
          have HO3 : Hid (w3.ownsRow wr.heap.size 55 2 v3 (sc + 1) ((l.take sc).flatMap snCells ++ snCells ⟨id, code⟩)) := hide ho3
          clear ho3 hg3
          go_wp2_with (first | (at_builtin; refine Shut2.mk ?_) | fail)
          refine Shut2.mk' ?_
          refine wpList_append_any rfl _ _ 26 rfl wr.heap.size 55 i0 _ 2 16 hu hi0 hz0 hz1 hz2 rfl (by decide) v3 (sc + 1) ((l.take sc).flatMap snCells ++ snCells ⟨id, code⟩) rfl HO3.out (some ⟨b, off, none⟩) 0 0 [] rfl rfl (fun e => by cases e) (fun ad _ j u hj => by simp at hj) (fun u hu => by simp at hu) (by unfold maxLen; omega) (by omega) HB3.out.size ?_
          intro v4 w4 ho4 hg4 _
          have HB4 : Hid (Below wr.heap.size wr w4) := hide (HB3.out.grown hg4 HB3.out.size (fun j hj => (HO3.out.lt j hj).1))
          have HO4 : Hid (w4.ownsRow wr.heap.size 55 2 v4 (l.length + 1) ((seeL l id code).flatMap snCells)) := hide (by
            rw [HE.out, HZ.out.1, HZ.out.2]
            simpa [List.append_assoc] using ho4)
          clear ho4 hg4
          go_wp2
          go_ret
          exact ⟨HB4.out, v4, rfl, HO4.out⟩
        · clear hgo hkl2
          go_wp2_with (first | (at_builtin; refine Shut2.mk ?_) | fail)
          refine Shut2.mk' ?_
          refine wpList_append_any rfl _ _ 26 rfl wr.heap.size 55 i0 _ 2 16 hu hi0 hz0 hz1 hz2 rfl (by decide) (.slice (some ⟨wr.heap.size, 0, none⟩) 0 0) 0 [] rfl (World.ownsRow_made wr #[] 0 (Nat.le_refl _) (by unfold maxLen; omega) rfl) (some ⟨b, off, none⟩) k sc ((l.take k).flatMap snCells) rfl HF1.out (fun e => by cases e) (RowAt.news_any snLen (by decide) ((HC.out.take k).below (below_alloc (Below.refl _ _) _))) (sn_one _) (by unfold maxLen; omega) (by omega) (by simp) ?_
          intro v2 w2 ho2 hg2 _
          have HB2 : Hid (Below wr.heap.size wr w2) := hide ((below_alloc (Below.refl _ _) _).grown hg2 (by simp) (fun j hj => by
            simp only [Value.ownBlock, Option.some.injEq] at hj
            omega))
          have HO2 : Hid (w2.ownsRow wr.heap.size 55 2 v2 k ((l.take k).flatMap snCells)) := hide (by simpa using ho2)
          clear ho2 hg2
          go_wp2_with (first | (at_builtin; refine Shut2.mk ?_) | fail)
          refine Shut2.mk' ?_
          refine wpList_append_any rfl _ _ 26 rfl wr.heap.size 55 i0 _ 2 16 hu hi0 hz0 hz1 hz2 rfl (by decide) v2 k ((l.take k).flatMap snCells) rfl (HO2.out.alloc _) (some ⟨w2.heap.size, 0, none⟩) 1 1 (snCells ⟨id, code⟩) rfl rfl (fun e => by cases e) (fun ad had j u hj => by cases had; exact see_new hj) (fun u hu => sn_one [⟨id, code⟩] u (by simpa using hu)) (by unfold maxLen; omega) (by omega) (by have := HB2.out.size; simp; omega) ?_
          intro v3 w3 ho3 hg3 _
          have HB3 : Hid (Below wr.heap.size wr w3) := hide ((below_alloc HB2.out _).grown hg3 (by have := HB2.out.size; simp; omega) (fun j hj => (HO2.out.lt j hj).1))
          have HO3 : Hid (w3.ownsRow wr.heap.size 55 2 v3 (k + 1) ((l.take k).flatMap snCells ++ snCells ⟨id, code⟩)) := hide ho3
          clear ho3 hg3
          go_wp2_with (first | (at_builtin; refine Shut2.mk ?_) | fail)
          refine Shut2.mk' ?_
          refine wpList_append_any rfl _ _ 26 rfl wr.heap.size 55 i0 _ 2 16 hu hi0 hz0 hz1 hz2 rfl (by decide) v3 (k + 1) ((l.take k).flatMap snCells ++ snCells ⟨id, code⟩) rfl HO3.out (some ⟨b, off + k * 2, none⟩) (l.length - k) (sc - k) ((l.drop k).flatMap snCells) rfl HF2.out (fun e => by cases e) (RowAt.news_any snLen (by decide) ((HC.out.drop k).below HB3.out)) (sn_one _) (by unfold maxLen; omega) (by omega) HB3.out.size ?_
          intro v4 w4 ho4 hg4 _
          have HB4 : Hid (Below wr.heap.size wr w4) := hide (HB3.out.grown hg4 HB3.out.size (fun j hj => (HO3.out.lt j hj).1))
          have HO4 : Hid (w4.ownsRow wr.heap.size 55 2 v4 (l.length + 1) ((seeL l id code).flatMap snCells)) := hide (by
            rw [HE.out]
            have e : k + 1 + (l.length - k) = l.length + 1 := by omega
            rw [e] at ho4
            simpa [List.append_assoc] using ho4)
          clear ho4 hg4
          go_wp2
          go_ret
          exact ⟨HB4.out, v4, rfl, HO4.out⟩
set_option maxHeartbeats 4000000 in
theorem l2See_nil (id code : Int) (w : World) :
    Calls Tryz.prog 106 #[.slice none 0 0, .int .i64 id, .int .i64 code] w fun e w' => SeeEnd [] id code w e w' := by
  obtain ⟨i0, hi0, hz0, hz1, hz2⟩ := info_parts infoSn
  have hu : Tryz.prog.underlying 26 = some (.slice 55) := by kernel_rfl
  go_enter Tryz.func106, Tryz.ntmps106
  go_wp2
  go_loopw [7] (fun i wr => i = .int .i64 0 ∧ wr = w) (fun i wr => 0)
  case atStart => exact ⟨rfl, rfl⟩
  case round =>
    obtain ⟨rfl, rfl⟩ := hrel
    go_wp2_with (first | (at_builtin; refine Shut2.mk ?_) | fail)
    refine Shut2.mk' ?_
    refine wpList_append_any rfl _ _ 26 rfl wr.heap.size 55 i0 _ 2 16 hu hi0 hz0 hz1 hz2 rfl (by decide) (.slice (some ⟨wr.heap.size, 0, none⟩) 0 0) 0 [] rfl (World.ownsRow_made wr #[] 0 (Nat.le_refl _) (by unfold maxLen; omega) rfl) none 0 0 [] rfl rfl (fun _ => ⟨rfl, rfl⟩) (fun ad e => by cases e) (fun u hu => by simp at hu) (by unfold maxLen; omega) (by omega) (by simp) ?_
    intro v2 w2 ho2 hg2 _
    have HB2 : Hid (Below wr.heap.size wr w2) := hide ((below_alloc (Below.refl _ _) _).grown hg2 (by simp) (fun j hj => by
      simp only [Value.ownBlock, Option.some.injEq] at hj
      omega))
    have HO2 : Hid (w2.ownsRow wr.heap.size 55 2 v2 0 []) := hide (by simpa using ho2)
    clear ho2 hg2
    go_wp2_with (first | (at_builtin; refine Shut2.mk ?_) | fail)
    refine Shut2.mk' ?_
    refine wpList_append_any rfl _ _ 26 rfl wr.heap.size 55 i0 _ 2 16 hu hi0 hz0 hz1 hz2 rfl (by decide) v2 0 [] rfl (HO2.out.alloc _) (some ⟨w2.heap.size, 0, none⟩) 1 1 (snCells ⟨id, code⟩) rfl rfl (fun e => by cases e) (fun ad had j u hj => by cases had; exact see_new hj) (fun u hu => sn_one [⟨id, code⟩] u (by simpa using hu)) (by unfold maxLen; omega) (by omega) (by have := HB2.out.size; simp; omega) ?_
    intro v3 w3 ho3 hg3 _
    have HB3 : Hid (Below wr.heap.size wr w3) := hide ((below_alloc HB2.out _).grown hg3 (by have := HB2.out.size; simp; omega) (fun j hj => (HO2.out.lt j hj).1))
    have HO3 : Hid (w3.ownsRow wr.heap.size 55 2 v3 1 (snCells ⟨id, code⟩)) := hide (by simpa using ho3)
    clear ho3 hg3
    go_wp2_with (first | (at_builtin; refine Shut2.mk ?_) | fail)
    refine Shut2.mk' ?_
    refine wpList_append_any rfl _ _ 26 rfl wr.heap.size 55 i0 _ 2 16 hu hi0 hz0 hz1 hz2 rfl (by decide) v3 1 (snCells ⟨id, code⟩) rfl HO3.out none 0 0 [] rfl rfl (fun _ => ⟨rfl, rfl⟩) (fun ad e => by cases e) (fun u hu => by simp at hu) (by unfold maxLen; omega) (by omega) HB3.out.size ?_
    intro v4 w4 ho4 hg4 _
    have HB4 : Hid (Below wr.heap.size wr w4) := hide (HB3.out.grown hg4 HB3.out.size (fun j hj => (HO3.out.lt j hj).1))
    have HO4 : Hid (w4.ownsRow wr.heap.size 55 2 v4 1 ((seeL [] id code).flatMap snCells)) := hide (by simpa [seeL] using ho4)
    clear ho4 hg4
    go_wp2
    go_ret
    exact ⟨HB4.out, v4, rfl, HO4.out⟩
theorem l2See_own (g : Nat) (sa : Option Addr) (l : List Sn) (sc : Nat) (id code : Int) (w : World) (hl : l.length ≤ 1048576) (h : OwnRow 2 snCells w g sa sc l) (ha : ∀ x, sa = some x → ∃ b off, x = ⟨b, off, none⟩) :
    Calls Tryz.prog 106 #[.slice sa l.length sc, .int .i64 id, .int .i64 code] w fun e w' => SeeEnd l id code w e w' := by
  cases sa with
  | none =>
    have h0 : l = [] := by
      have := row_none h.rows rfl
      exact List.length_eq_zero_iff.1 this
    subst h0
    obtain rfl : sc = 0 := h.nocap rfl
    exact l2See_nil id code w
  | some x =>
    obtain ⟨b, off, rfl⟩ := ha x rfl
    exact l2See_any b off l sc id code w hl h.room h.rows
end Go.Proofs.YteaopalhbnhbaaaGreatDoor
