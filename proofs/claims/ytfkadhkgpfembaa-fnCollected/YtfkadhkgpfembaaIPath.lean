/- The program's way from slot to slot: the closures. -/
import Derived.Test.YtfkadhkgpfembaaSPath3
import Derived.Deep.RegionLaw
namespace Go.Proofs.Ytfkadhkgpfembaa
open Go.ChangeShapes Go.WideShapes Go.ChangeAt Go.RowKit
set_option linter.unusedVariables false
theorem step_append_own {P : Program} {ops : Array Oper} {o : Oper} {a : Act} {w : World} {K : Act → World → Prop} {Q : Exit → Act → World → Prop} {E : Prop}
    (hg : o.guard = none) (s x : Operand) (t : TypeId) (hop : o.op = Op.call { callee := Callee.builtin Builtin.append, args := #[s, x], argTypes := #[t, t] })
    (base : Nat) (e : TypeId) (i : TypeInfo) (z : Value) (size bytes : Nat) (h1 : P.underlying t = some (.slice e)) (h2 : P.info? e = some i) (h3 : i.zero = some z) (h4 : i.size = size) (h5 : i.bytes = bytes) (h6 : z.cells.size = size) (h7 : 0 < size)
    (v : Value) (n : Nat) (xs : List Value) (hs : a.eval s = v) (hown : w.ownsRow base e size v n xs)
    (ad : Addr) (m c : Nat) (news : List Value) (hx : a.eval x = .slice (some ad) m c) (hn : news.length = m * size) (hc : ∀ j u, news[j]? = some u → w.cell? (ad.add j) = some u) (h1c : ∀ u ∈ news, u.oneCell' = true)
    (b1 : n + m ≤ maxLen) (b2 : (n + m) * bytes ≤ 140737488355328) (hbase : base ≤ w.heap.size)
    (hK : ∀ v' w', w'.ownsRow base e size v' (n + m) (xs ++ news) → w.grownBy w' v.ownBlock → K (a.put o.dst v') w') :
    if Region.wanted o (yielded ops a.tmps) = true then Oper.wp P o a w K Q else E := by
  have hw : Region.wanted o (yielded ops a.tmps) = true := by simp [Region.wanted, hg]
  rw [if_pos hw]
  obtain ⟨v', w', hr, r1, r2, _, _⟩ := run_append_own_at (P := P) w base t o.type e i z size bytes h1 h2 h3 h4 h5 h6 h7 v n xs hown ad m c news hn hc h1c b1 b2 hbase
  unfold Oper.wp execOp
  simp only [hop, resolve, invoke, builtin, Sem.run_bind, Sem.run_pure, Result.andThen_ok, List.map_toArray, List.map_cons, List.map_nil, hs, hx, hr]
  exact hK v' w' r1 r2
theorem own_mono {x : World} {base b' : Nat} {e : TypeId} {sz : Nat} {v : Value} {n : Nat} {xs : List Value} (h : x.ownsRow b' e sz v n xs) (hb : base ≤ b') : x.ownsRow base e sz v n xs := by
  obtain ⟨hl, ⟨h0, h1⟩ | ⟨g, cap, cur, h1, hb', r⟩⟩ := h
  · exact ⟨hl, .inl ⟨h0, h1⟩⟩
  · exact ⟨hl, .inr ⟨g, cap, cur, h1, Nat.le_trans hb hb', r⟩⟩
def OwnEnd (l : List Int) (w : World) (e : Ending) (w' : World) : Prop := Below w.heap.size w w' ∧ ∃ v, e = .returned v ∧ w'.ownsRow w.heap.size 2 1 v l.length (l.flatMap intCells)
/-- what the closures captured -/
structure Clo (w : World) (B3 B7 B8 : Nat) (aa : Option Addr) (l : List Slt) (cap : Nat) : Prop where
  c3 : w.cell? ⟨B3, 0, none⟩ = some (.slice aa l.length cap)
  c7 : w.cell? ⟨B7, 0, none⟩ = some (.func (.func 34) #[] #[.pointer (some ⟨B3, 0, none⟩)])
  c8 : w.cell? ⟨B8, 0, none⟩ = some (.func (.func 35) #[] #[.pointer (some ⟨B8, 0, none⟩), .pointer (some ⟨B7, 0, none⟩)])
  slots : SlotAt w aa l
theorem Clo.below {w w' : World} {B3 B7 B8 : Nat} {aa : Option Addr} {l : List Slt} {cap : Nat} (h : Clo w B3 B7 B8 aa l cap) (b : Below w.heap.size w w') : Clo w' B3 B7 B8 aa l cap :=
  ⟨below_keeps b _ _ h.c3, below_keeps b _ _ h.c7, below_keeps b _ _ h.c8, h.slots.below b⟩
set_option maxRecDepth 100000 in
set_option maxHeartbeats 4000000 in
theorem up_any (B3 B7 B8 : Nat) (aa : Option Addr) (l : List Slt) (cap : Nat) (id : Int) (w : World) (hl : l.length ≤ 8) (hi : InL l id) (h : Clo w B3 B7 B8 aa l cap) :
    Calls Try.prog 34 #[.int .i64 id, .pointer (some ⟨B3, 0, none⟩)] w fun e w' => e = .returned (.int .i64 (upL l id)) ∧ Below w.heap.size w w' := by
  have HC : Hid _ := hide h.slots
  have c3 := later_cell2 h.c3
  obtain ⟨i, hil, hp, hid⟩ := hi
  have HUP : Hid _ := hide (upL_at hil hp)
  obtain ⟨b, off, rfl, hb, d0, d1, d2, _⟩ := h.slots i hil
  have d1' := later_cell2 d1
  have hil' : (i : Int) < (l.length : Int) := by omega
  have hne : Nonempty (Later w) := later_there _
  have HCL : Hid (∀ y : Later w, Calls Try.prog 19 #[.slice (some ⟨b, off, none⟩) l.length cap, .int .i64 id] y.w fun e w' => e = .returned (.int .i64 (i : Int)) ∧ Below y.w.heap.size y.w w') := hide (fun y => by
    have := slotPlace_any (some ⟨b, off, none⟩) l cap id y.w (by omega) (HC.out.below y.below)
    rwa [hp] at this)
  clear h d0 d1 d2 hp hid
  go_enter Try.func34, Try.ntmps34
  go_wp2_with fail
  refine wp_region_later w (by kernel_rfl) (by kernel_rfl) ((Below.refl _ _).drew) ?_
  repeat (go_big_quiet_step (first | (go_at_call 19; exact later_of (HCL.out _))))
  refine wpQuiet_nil ?_
  intro _ hw'
  obtain ⟨nx, rfl⟩ := hw'
  go_wp2
  go_ret
  exact ⟨by rw [HUP.out]; rfl, nx.below⟩
theorem own_one (w : World) (v : Value) (base : Nat) (hb : base ≤ w.heap.size) : (w.alloc (.cells #[v] 2)).ownsRow base 2 1 (.slice (some ⟨w.heap.size, 0, none⟩) 1 1) 1 [v] :=
  ⟨rfl, .inr ⟨w.heap.size, 1, #[v], rfl, hb, by show (w.heap.push _)[w.heap.size]? = _; simp, Nat.le_refl _, by decide, rfl, rfl⟩⟩
theorem wayF_len2 {l : List Slt} (h : rightsB l = true) : ∀ n a b, InL l a → InL l b → (wayF l n a b).length ≤ a.toNat + b.toNat + 1 := by
  intro n
  induction n with
  | zero => intro a b ha hb; simp [wayF]
  | succ n ih =>
    intro a b ha hb
    have pa := ha.pos h
    have pb := hb.pos h
    simp only [wayF]
    split
    · rename_i h1
      have hin := ha.up_in h hb h1
      have := ih (upL l a) b hin hb
      have := (ha.up h).1
      have := hin.pos h
      simp only [List.length_cons]; omega
    · split
      · rename_i h1 h2
        have hin := hb.up_in h ha h2
        have := ih a (upL l b) ha hin
        have := (hb.up h).1
        have := hin.pos h
        simp only [List.length_append, List.length_cons, List.length_nil]; omega
      · simp
theorem len_pos {A : Type} {l : List A} (h : l ≠ []) : 0 < l.length := List.length_pos_iff.2 h
theorem own_end {l : List Int} {w w' : World} {v' : Value} {m : Nat} {xs : List Value} (hb : Below w.heap.size w w') (ho : w'.ownsRow w.heap.size 2 1 v' m xs) (hm : m = l.length) (hx : xs = l.flatMap intCells) : OwnEnd l w (.returned v') w' := by
  subst hm hx
  exact ⟨hb, v', rfl, ho⟩
set_option maxRecDepth 100000 in
set_option maxHeartbeats 20000000 in
theorem way_any (B3 B7 B8 : Nat) (aa : Option Addr) (l : List Slt) (cap : Nat) (hr : rightsB l = true) : ∀ (n : Nat) (p q : Int) (w : World), InL l p → InL l q → p.toNat + q.toNat ≤ n → Clo w B3 B7 B8 aa l cap →
    Calls Try.prog 35 #[.int .i64 p, .int .i64 q, .pointer (some ⟨B8, 0, none⟩), .pointer (some ⟨B7, 0, none⟩)] w fun e w' => OwnEnd (wayF l n p q) w e w' := by
  intro n
  obtain ⟨i0, hinfo, hz0, hz1, hz2⟩ := info_parts info2
  have hu40 : Try.prog.underlying 48 = some (.slice 2) := by kernel_rfl
  have h8 : l.length ≤ 8 := (rightsB_small hr).1
  induction n with
  | zero => intro p q w hp hq hn; have := hp.pos hr; omega
  | succ n ih =>
    intro p q w hp hq hn hclo
    have HQ : Hid _ := hide hr
    have HIH : Hid _ := hide ih
    have HCL : Hid _ := hide hclo
    have HP : Hid _ := hide hp
    have HPQ : Hid _ := hide hq
    have hpp := hp.pos hr
    have hqp := hq.pos hr
    have c7 := hclo.c7
    have c8 := hclo.c8
    have c3 := hclo.c3
    clear ih
    by_cases h1 : q < p
    · have HIN : Hid (InL l (upL l p)) := hide (hp.up_in hr hq h1)
      have hul := (hp.up hr).1
      have hup := HIN.out.pos hr
      have HE : Hid (wayF l (n + 1) p q = p :: wayF l n (upL l p) q) := hide (by simp only [wayF]; rw [if_pos h1])
      have HNE : Hid _ := hide (wayF_ne l n (upL l p) q)
      have HLN : Hid ((wayF l n (upL l p) q).length ≤ 2000000001) := hide (by have := wayF_len2 hr n (upL l p) q HIN.out hq; omega)
      have l7 := cell_lt hclo.c7
      have l8 := cell_lt hclo.c8
      simp only at l7 l8
      clear hp hq hclo
      go_enter Try.func35, Try.ntmps35
      go_wp2_with fail
      go_region_law (first
        | (refine step_append_own rfl (.tmp 12) (.tmp 18) 48 rfl w.heap.size 2 i0 _ 1 8 hu40 hinfo hz0 hz1 hz2 rfl (by decide) (.slice (some ⟨w.heap.size, 0, none⟩) 1 1) 1 [.int .i64 p] (by simp [Act.eval]; done) (own_keep (own_one w _ _ (Nat.le_refl _)) (below_trans (below_trans ((Below.refl _ _).drew) hb2) hb3)) ⟨g3, 0, none⟩ (wayF l n (upL l p) q).length c3' ((wayF l n (upL l p) q).flatMap intCells) (by simp [Act.eval]; done) (by rw [int_flat, Nat.mul_one]) (fun j u hj => hrow3.rows.news intLen (by decide) j u hj) (int_one _) (by unfold maxLen; have := HLN.out; omega) (by have := HLN.out; omega) (by have := HB3.out.size; first | omega | (simp; omega)) ?_; intro v' w' ho' hg'; have HF : Hid (OwnEnd (wayF l (n + 1) p q) w (.returned v') w') := hide (by rw [HE.out]; exact own_end ((HB3.out).grown hg' (by have := HB3.out.size; first | omega | (simp; omega)) (fun k hk => by simp only [Value.ownBlock, Option.some.injEq] at hk; have := HB2.out.size; have := HB3.out.size; omega)) ho' (by simp; omega) (by simp [intCells])); obtain ⟨va', vc', rfl⟩ := row_shape ho'; clear ho' hg')
        | (refine step_append_own rfl (.tmp 12) (.tmp 18) 48 rfl w.heap.size 2 i0 _ 1 8 hu40 hinfo hz0 hz1 hz2 rfl (by decide) (.slice (some ⟨w2.heap.size, 0, none⟩) 1 1) 1 [.int .i64 p] (by simp [Act.eval]; done) (own_keep (own_one w2 _ _ HB2.out.size) hb3) ⟨g3, 0, none⟩ (wayF l n (upL l p) q).length c3' ((wayF l n (upL l p) q).flatMap intCells) (by simp [Act.eval]; done) (by rw [int_flat, Nat.mul_one]) (fun j u hj => hrow3.rows.news intLen (by decide) j u hj) (int_one _) (by unfold maxLen; have := HLN.out; omega) (by have := HLN.out; omega) (by have := HB3.out.size; first | omega | (simp; omega)) ?_; intro v' w' ho' hg'; have HF : Hid (OwnEnd (wayF l (n + 1) p q) w (.returned v') w') := hide (by rw [HE.out]; exact own_end ((HB3.out).grown hg' (by have := HB3.out.size; first | omega | (simp; omega)) (fun k hk => by simp only [Value.ownBlock, Option.some.injEq] at hk; have := HB2.out.size; have := HB3.out.size; omega)) ho' (by simp; omega) (by simp [intCells])); obtain ⟨va', vc', rfl⟩ := row_shape ho'; clear ho' hg')
        | (refine step_append_own rfl (.tmp 12) (.tmp 18) 48 rfl w.heap.size 2 i0 _ 1 8 hu40 hinfo hz0 hz1 hz2 rfl (by decide) (.slice (some ⟨w3.heap.size, 0, none⟩) 1 1) 1 [.int .i64 p] (by simp [Act.eval]; done) (own_one w3 _ _ HB3.out.size) ⟨g3, 0, none⟩ (wayF l n (upL l p) q).length c3' ((wayF l n (upL l p) q).flatMap intCells) (by simp [Act.eval]; done) (by rw [int_flat, Nat.mul_one]) (fun j u hj => below_keeps (below_alloc (Below.refl w3.heap.size w3) _) _ _ (hrow3.rows.news intLen (by decide) j u hj)) (int_one _) (by unfold maxLen; have := HLN.out; omega) (by have := HLN.out; omega) (by have := HB3.out.size; first | omega | (simp; omega)) ?_; intro v' w' ho' hg'; have HF : Hid (OwnEnd (wayF l (n + 1) p q) w (.returned v') w') := hide (by rw [HE.out]; exact own_end ((below_alloc HB3.out _).grown hg' (by have := HB3.out.size; first | omega | (simp; omega)) (fun k hk => by simp only [Value.ownBlock, Option.some.injEq] at hk; have := HB2.out.size; have := HB3.out.size; omega)) ho' (by simp; omega) (by simp [intCells])); obtain ⟨va', vc', rfl⟩ := row_shape ho'; clear ho' hg')
        | (go_simp; go_wp2_with (first
          | (go_at_call 34; refine (up_any B3 B7 B8 aa l cap p _ h8 HP.out (HCL.out.below (by first | exact (Below.refl _ _).drew | exact (below_alloc (Below.refl _ _) _).drew))).mono ?_; rintro e w2 ⟨rfl, hb2⟩; have HB2 : Hid (Below w.heap.size w w2) := hide (by first | exact below_trans ((Below.refl _ _).drew) hb2 | exact below_trans ((below_alloc (Below.refl _ _) _).drew) hb2); have HC2 : Hid _ := hide (HCL.out.below HB2.out); have k8 := HC2.out.c8; have l8' := cell_lt HC2.out.c8; simp only at l8')
          | (go_at_call 35; refine (HIH.out (upL l p) q _ HIN.out HPQ.out (by omega) (by first | exact HC2.out | exact HC2.out.below (below_alloc (Below.refl _ _) _))).mono ?_; rintro e w3 ⟨hb3, v3, rfl, ho3⟩; have HB3 : Hid (Below w.heap.size w w3) := hide (by first | exact below_trans HB2.out hb3 | exact below_trans (below_alloc HB2.out _) hb3); obtain ⟨g3, a3, c3', hg3, rfl, hrow3⟩ := own_of_row intLen ho3; obtain ⟨rfl, _⟩ := hrow3.own (len_pos HNE.out); have HO3 : Hid (w3.ownsRow w.heap.size 2 1 (.slice (some ⟨g3, 0, none⟩) (wayF l n (upL l p) q).length c3') (wayF l n (upL l p) q).length ((wayF l n (upL l p) q).flatMap intCells)) := hide (own_mono ho3 (by first | exact HB2.out.size | exact (below_alloc HB2.out _).size))))))
      all_goals
        go_wp2
        go_ret
        exact HF.out
    · by_cases h2 : p < q
      · have HIN : Hid (InL l (upL l q)) := hide (hq.up_in hr hp h2)
        have hul := (hq.up hr).1
        have hup := HIN.out.pos hr
        have HE : Hid (wayF l (n + 1) p q = wayF l n p (upL l q) ++ [q]) := hide (by simp only [wayF]; rw [if_neg h1, if_pos h2])
        have HNE : Hid _ := hide (wayF_ne l n p (upL l q))
        have HLN : Hid ((wayF l n p (upL l q)).length ≤ 2000000001) := hide (by have := wayF_len2 hr n p (upL l q) hp HIN.out; omega)
        have l7 := cell_lt hclo.c7
        have l8 := cell_lt hclo.c8
        simp only at l7 l8
        clear hp hq hclo
        go_enter Try.func35, Try.ntmps35
        go_wp2_with fail
        go_region_law (first
          | (refine step_append_own rfl (.tmp 29) (.tmp 31) 48 rfl w.heap.size 2 i0 _ 1 8 hu40 hinfo hz0 hz1 hz2 rfl (by decide) (.slice (some ⟨g3, 0, none⟩) (wayF l n p (upL l q)).length c3') (wayF l n p (upL l q)).length ((wayF l n p (upL l q)).flatMap intCells) (by simp [Act.eval]; done) (HO3.out) ⟨w.heap.size, 0, none⟩ 1 1 [.int .i64 q] (by simp [Act.eval]; done) rfl (fun j u hj => below_keeps (below_trans (below_trans ((Below.refl _ _).drew) hb2) hb3) _ _ (cell_one_new w _ _ j u hj)) (int_one [q]) (by unfold maxLen; have := HLN.out; omega) (by have := HLN.out; omega) (by have := HB3.out.size; first | omega | (simp; omega)) ?_; intro v' w' ho' hg'; have HF : Hid (OwnEnd (wayF l (n + 1) p q) w (.returned v') w') := hide (by rw [HE.out]; exact own_end ((HB3.out).grown hg' (by have := HB3.out.size; first | omega | (simp; omega)) (own_base HO3.out)) ho' (by simp) (by simp [intCells])); obtain ⟨va', vc', rfl⟩ := row_shape ho'; clear ho' hg')
          | (refine step_append_own rfl (.tmp 29) (.tmp 31) 48 rfl w.heap.size 2 i0 _ 1 8 hu40 hinfo hz0 hz1 hz2 rfl (by decide) (.slice (some ⟨g3, 0, none⟩) (wayF l n p (upL l q)).length c3') (wayF l n p (upL l q)).length ((wayF l n p (upL l q)).flatMap intCells) (by simp [Act.eval]; done) (HO3.out) ⟨w2.heap.size, 0, none⟩ 1 1 [.int .i64 q] (by simp [Act.eval]; done) rfl (fun j u hj => below_keeps hb3 _ _ (cell_one_new w2 _ _ j u hj)) (int_one [q]) (by unfold maxLen; have := HLN.out; omega) (by have := HLN.out; omega) (by have := HB3.out.size; first | omega | (simp; omega)) ?_; intro v' w' ho' hg'; have HF : Hid (OwnEnd (wayF l (n + 1) p q) w (.returned v') w') := hide (by rw [HE.out]; exact own_end ((HB3.out).grown hg' (by have := HB3.out.size; first | omega | (simp; omega)) (own_base HO3.out)) ho' (by simp) (by simp [intCells])); obtain ⟨va', vc', rfl⟩ := row_shape ho'; clear ho' hg')
          | (refine step_append_own rfl (.tmp 29) (.tmp 31) 48 rfl w.heap.size 2 i0 _ 1 8 hu40 hinfo hz0 hz1 hz2 rfl (by decide) (.slice (some ⟨g3, 0, none⟩) (wayF l n p (upL l q)).length c3') (wayF l n p (upL l q)).length ((wayF l n p (upL l q)).flatMap intCells) (by simp [Act.eval]; done) (own_keep HO3.out (below_alloc (Below.refl _ _) _)) ⟨w3.heap.size, 0, none⟩ 1 1 [.int .i64 q] (by simp [Act.eval]; done) rfl (fun j u hj => cell_one_new w3 _ _ j u hj) (int_one [q]) (by unfold maxLen; have := HLN.out; omega) (by have := HLN.out; omega) (by have := HB3.out.size; first | omega | (simp; omega)) ?_; intro v' w' ho' hg'; have HF : Hid (OwnEnd (wayF l (n + 1) p q) w (.returned v') w') := hide (by rw [HE.out]; exact own_end ((below_alloc HB3.out _).grown hg' (by have := HB3.out.size; first | omega | (simp; omega)) (own_base HO3.out)) ho' (by simp) (by simp [intCells])); obtain ⟨va', vc', rfl⟩ := row_shape ho'; clear ho' hg')
          | (go_simp; go_wp2_with (first
            | (go_at_call 34; refine (up_any B3 B7 B8 aa l cap q _ h8 HPQ.out (HCL.out.below (by first | exact (Below.refl _ _).drew | exact (below_alloc (Below.refl _ _) _).drew))).mono ?_; rintro e w2 ⟨rfl, hb2⟩; have HB2 : Hid (Below w.heap.size w w2) := hide (by first | exact below_trans ((Below.refl _ _).drew) hb2 | exact below_trans ((below_alloc (Below.refl _ _) _).drew) hb2); have HC2 : Hid _ := hide (HCL.out.below HB2.out); have k8 := HC2.out.c8; have l8' := cell_lt HC2.out.c8; simp only at l8')
            | (go_at_call 35; refine (HIH.out p (upL l q) _ HP.out HIN.out (by omega) (by first | exact HC2.out | exact HC2.out.below (below_alloc (Below.refl _ _) _))).mono ?_; rintro e w3 ⟨hb3, v3, rfl, ho3⟩; have HB3 : Hid (Below w.heap.size w w3) := hide (by first | exact below_trans HB2.out hb3 | exact below_trans (below_alloc HB2.out _) hb3); obtain ⟨g3, a3, c3', hg3, rfl, hrow3⟩ := own_of_row intLen ho3; obtain ⟨rfl, _⟩ := hrow3.own (len_pos HNE.out); have HO3 : Hid (w3.ownsRow w.heap.size 2 1 (.slice (some ⟨g3, 0, none⟩) (wayF l n p (upL l q)).length c3') (wayF l n p (upL l q)).length ((wayF l n p (upL l q)).flatMap intCells)) := hide (own_mono ho3 (by first | exact HB2.out.size | exact (below_alloc HB2.out _).size))))))
        all_goals
          go_wp2
          go_ret
          exact HF.out
      · have HE : Hid (wayF l (n + 1) p q = [p]) := hide (by simp only [wayF]; rw [if_neg h1, if_neg h2])
        have HF : Hid (OwnEnd (wayF l (n + 1) p q) w (.returned (.slice (some ⟨w.heap.size, 0, none⟩) 1 1)) (w.alloc (.cells #[.int .i64 p] 2))) := hide (by rw [HE.out]; exact own_end (below_alloc (Below.refl _ _) _) (own_one w _ _ (Nat.le_refl _)) rfl rfl)
        clear hp hq hclo
        go_enter Try.func35, Try.ntmps35
        go_wp2
        go_ret
        exact HF.out
end Go.Proofs.Ytfkadhkgpfembaa
