/- The model's l2Open: an account more. -/
import Derived.Test.YteaopalhbnhbaaaGreatDoorGc
import Derived.Test.YteaopalhbnhbaaaGreatDoorLCp
import Derived.Test.YteaopalhbnhbaaaGreatDoorGd
namespace Go.Proofs.YteaopalhbnhbaaaGreatDoor
open Go.ChangeShapes Go.WideShapes Go.ChangeAt Go.RowKit
set_option linter.unusedVariables false
set_option maxRecDepth 100000
theorem wpList_append_pool {P : Program} {F : List Nat} {w x : World} {S : List (List Rs)} {ops : Array Oper} {rest : List Oper} {o : Oper} {a : Act} {Q : Exit → Act → World → Prop} (h : Pool F w S x) {i0 : Nat} {T : TypeId} {size n : Nat} {v : Value} {xs : List Value} (hs : S[i0]? = some [row T size v n xs]) (hgd : o.guard = none) (s xo : Operand) (t : TypeId)
    (ho : o.op = .call { callee := .builtin .append, args := #[s, xo], argTypes := #[t, t] })
    (i : TypeInfo) (z : Value) (bytes : Nat) (ht : P.underlying t = some (.slice T)) (hi : P.info? T = some i) (hz : i.zero = some z)
    (hsize : i.size = size) (hby : i.bytes = bytes) (hzs : z.cells.size = size) (hsz : 0 < size) (hv : a.eval s = v)
    (ao : Option Addr) (m c : Nat) (news : List Value) (hx : a.eval xo = .slice ao m c) (hl : news.length = m * size) (hnone : ao = none → m = 0 ∧ c = 0) (hnews : ∀ ad, ao = some ad → ∀ j u, news[j]? = some u → x.cell? (ad.add j) = some u) (h1 : ∀ u ∈ news, u.oneCell' = true)
    (h63 : n + m ≤ maxLen) (hbytes : (n + m) * bytes ≤ 140737488355328)
    (k : ∀ v' y, Pool F w (S.set i0 [row T size v' (n + m) (xs ++ news)]) y → wpList P ops Q rest (a.put o.dst v') y) :
    wpList P ops Q (o :: rest) a x := by
  refine wpList_plain hgd fun K hK => ?_
  obtain ⟨v', y, hr, hp⟩ := h.append (P := P) hs t o.type i z bytes ht hi hz hsize hby hzs hsz ao m c news hl hnone hnews h1 h63 hbytes
  unfold Oper.wp
  rw [exec_append ho hv hx hr]
  exact hK _ _ (k v' y hp)
theorem name_post9 {P : Program} {f : Func} {Q : Ending → World → Prop} {e : Exit} {a : Act} {w : World} (h : ∀ W, W = w → bodyPost P f Q e a W) : bodyPost P f Q e a w := h w rfl
theorem name_world9 {P : Program} {c : Code} {Q : Exit → Act → World → Prop} {a : Act} {w : World} (h : ∀ W, W = w → c.wp P Q a W) : c.wp P Q a w := h w rfl
theorem name_calls {P : Program} {f : FuncId} {args : Array Value} {w : World} {R : Ending → World → Prop} (h : ∀ W, W = w → Calls P f args W R) : Calls P f args w R := h w rfl
theorem name_list {P : Program} {ops : Array Oper} {Q : Exit → Act → World → Prop} {l : List Oper} {a : Act} {w : World} (h : ∀ W, W = w → wpList P ops Q l a W) : wpList P ops Q l a w := h w rfl
theorem Pool.newDrawn {F : List Nat} {w x : World} {S : List (List Rs)} (h : Pool F w S x) {i : Nat} (hi : S[i]? = some []) (q : Nat) (cur : List Value) (T : TypeId) : Pool F w (S.set i [blk x.heap.size cur]) ((x.drewN q).alloc (.cells cur.toArray T)) := by
  have e : (x.drewN q).heap.size = x.heap.size := by simp
  have r := (h.keep (drewN_below x q)).newBlk hi cur T
  rwa [e] at r
theorem info_parts {P : Program} {T : TypeId} {z : Value} {s b : Nat} (h : (P.info? T).map (fun i => (i.zero, i.size, i.bytes)) = some (some z, s, b)) : ∃ i, P.info? T = some i ∧ i.zero = some z ∧ i.size = s ∧ i.bytes = b := by
  rw [Option.map_eq_some_iff] at h
  obtain ⟨i, q1, q2⟩ := h
  simp only [Prod.mk.injEq] at q2
  exact ⟨i, q1, q2.1, q2.2.1, q2.2.2⟩
/-- what open tells: where it refuses the same slices; else a new row of accounts -/
def OpenEnd (p : LP) (D : Led) (c : Cm) (w : World) (e : Ending) (w' : World) : Prop := ∃ (a : Option Addr) (k : Nat), e = .returned (.tuple #[.agg #[.slice a (openM D c).1.acc.length k, .slice p.ha D.hold.length p.ch, .slice p.sa D.seen.length p.cs], .int .i64 (openM D c).2]) ∧ Below w.heap.size w w' ∧ ((openM D c).2 ≠ 0 → a = p.aa ∧ k = p.ca) ∧ ((openM D c).2 = 0 → SlOk a k (openM D c).1.acc.length ∧ Pool [] w [[orow 4 accCells a k (openM D c).1.acc]] w')
theorem acc_one1 (x : Acc) : ∀ u ∈ accCells x, u.oneCell' = true := fun u hu => by
  simp only [accCells, List.mem_cons, List.not_mem_nil, or_false] at hu
  rcases hu with rfl | rfl | rfl | rfl <;> rfl
/-- where the new account goes -/
theorem insA_at {l : List Acc} {x : Acc} {k : Nat} (hk : k ≤ l.length) (h1 : ∀ j (hj : j < l.length), j < k → ltB x.name l[j].name = false) (h2 : ∀ hj : k < l.length, ltB x.name l[k].name = true) : insA l x = l.take k ++ (x :: l.drop k) := by
  unfold insA
  induction l generalizing k with
  | nil => simp at hk; subst hk; simp
  | cons y l ih =>
    cases k with
    | zero =>
      have := h2 (by simp)
      simp only [List.getElem_cons_zero] at this
      simp [this]
    | succ k =>
      have h0 := h1 0 (by simp) (by omega)
      simp only [List.getElem_cons_zero] at h0
      have := ih (k := k) (by simpa using hk) (fun j hj hjk => by have := h1 (j + 1) (by simpa using hj) (by omega); simpa using this) (fun hj => by have := h2 (by simpa using hj); simpa using this)
      simp [h0, this]
/-- the accounts that are being told -/
def OpIs (l : List Acc) (x : Acc) (d : Bool) (k : Nat) (C : List Acc) : Prop := if d then C ++ l.drop k = insA l x else C = l.take k ∧ ∀ j (hj : j < l.length), j < k → ltB x.name l[j].name = false
theorem insA_len (l : List Acc) (x : Acc) : (insA l x).length = l.length + 1 := by
  unfold insA
  have := congrArg List.length (List.takeWhile_append_dropWhile (p := fun y : Acc => !ltB x.name y.name) (l := l))
  simp only [List.length_append, List.length_cons] at this ⊢
  omega
theorem OpIs.len {l : List Acc} {x : Acc} {d : Bool} {k : Nat} {C : List Acc} (h : OpIs l x d k C) (hk : k ≤ l.length) : C.length = if d then k + 1 else k := by
  unfold OpIs at h
  cases d
  · simp only [Bool.false_eq_true, if_false] at h ⊢
    rw [h.1]; simp; omega
  · simp only [if_true] at h ⊢
    have := congrArg List.length h
    rw [insA_len] at this
    simp at this
    omega
theorem flat_snoc (C : List Acc) (x : Acc) : C.flatMap accCells ++ accCells x = (C ++ [x]).flatMap accCells := by simp
set_option maxHeartbeats 8000000 in
theorem l2Open_any (p : LP) (D : Led) (c : Cm) (w : World) (n1 : D.acc.length ≤ 1048576) (h : LedAt w p.aa p.ha p.sa D) :
    Calls Tryz.prog 103 #[ledV p D, c.v] w fun e w' => OpenEnd p D c w e w' := by
  have HL : Hid _ := hide h
  clear h
  obtain ⟨i0, hi0, hz0, hz1, hz2⟩ := info_parts infoAcc
  obtain ⟨W3, hW3⟩ : ∃ W3, W3 = ((w.alloc (.cells #[.slice p.aa D.acc.length p.ca, .slice p.ha D.hold.length p.ch, .slice p.sa D.seen.length p.cs] 28)).alloc (.cells #[.int .i64 c.id, .int .i64 c.kind, .string c.fr, .string c.to, .int .i64 c.am, .int .i64 c.ref] 83)).alloc (.cells #[.slice none 0 0, .slice none 0 0, .slice none 0 0] 28) := ⟨_, rfl⟩
  have HP0 : Hid (Pool [] w [[blk w.heap.size (ledC p D)], [blk (w.heap.size + 1) c.cells], [blk (w.heap.size + 1 + 1) [.slice none 0 0, .slice none 0 0, .slice none 0 0]], [], [], []] W3) := hide (by
    have p1 := (Pool.start w [[], [], [], [], [], []] rfl).newBlk (i := 0) rfl (ledC p D) 28
    have s1 : (w.alloc (.cells (ledC p D).toArray 28)).heap.size = w.heap.size + 1 := by simp
    have p2 := p1.newBlk (i := 1) rfl c.cells 83
    have s2 : ((w.alloc (.cells (ledC p D).toArray 28)).alloc (.cells c.cells.toArray 83)).heap.size = w.heap.size + 1 + 1 := by simp
    have p3 := p2.newBlk (i := 2) rfl [.slice none 0 0, .slice none 0 0, .slice none 0 0] 28
    rw [s2, s1] at p3
    rw [hW3]
    exact p3)
  have HW3 : Hid (_ = W3) := hide hW3.symm
  clear hW3
  unfold ledV Cm.v
  go_enter Tryz.func103, Tryz.ntmps103
  go_upto_region 1 with fail
  rw [HW3.out]
  have d0 := (HP0.out.blkAt (i := 0) rfl).c 0 _ rfl
  have d1 := (HP0.out.blkAt (i := 0) rfl).c 1 _ rfl
  have d2 := (HP0.out.blkAt (i := 0) rfl).c 2 _ rfl
  have c2 := (HP0.out.blkAt (i := 1) rfl).c 2 _ rfl
  go_wp2_with fail
  refine (l2Find_any p.aa D.acc p.ca _ _ c.fr W3 n1 (HL.out.acc.below HP0.out.below)).mono ?_
  rintro e w4 ⟨hb4, hfind⟩
  have HP4 : Hid _ := hide (HP0.out.keep hb4)
  clear hb4 HP0 d0 d1 d2 c2
  have d0 := (HP4.out.blkAt (i := 0) rfl).c 0 _ rfl
  have d1 := (HP4.out.blkAt (i := 0) rfl).c 1 _ rfl
  have d2 := (HP4.out.blkAt (i := 0) rfl).c 2 _ rfl
  have r0 := (HP4.out.blkAt (i := 2) rfl).c 0 _ rfl
  have r1 := (HP4.out.blkAt (i := 2) rfl).c 1 _ rfl
  have r2 := (HP4.out.blkAt (i := 2) rfl).c 2 _ rfl
  have f0 := (HP4.out.blkAt (i := 2) rfl).f 0
  have f1 := (HP4.out.blkAt (i := 2) rfl).f 1
  have f2 := (HP4.out.blkAt (i := 2) rfl).f 2
  rcases hfind with ⟨i, hi, hn, hfirst, rfl⟩ | ⟨hno, rfl⟩
  · have HM : Hid (openM D c = (D, 4)) := hide (by unfold openM; rw [idxA_some hi hn hfirst])
    have hi' : (0 : Int) ≤ (i : Int) := by omega
    have HQ : Hid _ := hide (((HP4.out.setBlk (i := 2) rfl 0 (.slice p.aa D.acc.length p.ca) (by simp)).setBlk (i := 2) rfl 1 (.slice p.ha D.hold.length p.ch) (by simp)).setBlk (i := 2) rfl 2 (.slice p.sa D.seen.length p.cs) (by simp))
    clear hn hfirst
    go_wp2
    refine name_post9 (fun W9 hW9 => ?_)
    have hq := HQ.out
    rw [← hW9] at hq
    have z_ := hq.blkAt (i := 2) rfl
    have g0_ := z_.c 0 _ rfl
    have g1_ := z_.c 1 _ rfl
    have g2_ := z_.c 2 _ rfl
    exact bodyPost_ret (v := .tuple #[ledV p D, .int .i64 4]) (by simp [results, Tryz.results103, go_sem, g0_, g1_, g2_, ledV]) rfl ⟨p.aa, p.ca, by rw [HM.out]; rfl, hq.below, fun _ => ⟨rfl, rfl⟩, fun q => by rw [HM.out] at q; cases q⟩
  · have HM : Hid (openM D c = (⟨insA D.acc ⟨c.fr, c.to, c.am, 0⟩, D.hold, D.seen⟩, 0)) := hide (by unfold openM; rw [idxA_none hno])
    clear hno f0 f1 f2 r0 r1 r2 d1 d2 d0
    obtain ⟨x, hx⟩ : ∃ x : Acc, x = ⟨c.fr, c.to, c.am, 0⟩ := ⟨_, rfl⟩
    have HX : Hid _ := hide hx
    clear hx
    go_upto_region 4 with fail
    refine name_world9 (fun W5 hW5 => ?_)
    have HP5 : Hid (Pool [] w [[blk w.heap.size (ledC p D)], [blk (w.heap.size + 1) c.cells], [blk (w.heap.size + 1 + 1) [.slice none 0 0, .slice none 0 0, .slice none 0 0]], [row 50 4 (.slice (some ⟨w4.heap.size, 0, none⟩) 0 0) 0 []], [], []] W5) := hide (by rw [hW5]; exact HP4.out.newRow (i := 3) rfl 50 4)
    have c2 := (HP5.out.blkAt (i := 1) rfl).c 2 _ rfl
    have c3 := (HP5.out.blkAt (i := 1) rfl).c 3 _ rfl
    have c4 := (HP5.out.blkAt (i := 1) rfl).c 4 _ rfl
    clear hW5 HP4
    go_upto_region 5 with fail
    refine name_world9 (fun W6 hW6 => ?_)
    obtain ⟨B, hB⟩ : ∃ B, B = W5.heap.size := ⟨_, rfl⟩
    have HP6 : Hid (Pool [] w [[blk w.heap.size (ledC p D)], [blk (w.heap.size + 1) c.cells], [blk (w.heap.size + 1 + 1) [.slice none 0 0, .slice none 0 0, .slice none 0 0]], [row 50 4 (.slice (some ⟨w4.heap.size, 0, none⟩) 0 0) 0 []], [blk B (accCells x)], []] W6) := hide (by
      rw [hW6, hB]
      have q := HP5.out.newBlk (i := 4) rfl (accCells x) 50
      rw [HX.out] at q ⊢
      exact q)
    clear hW6 HP5 c2 c3 c4
    rw [← hB]
    have HBB : Hid _ := hide hB
    clear hB
    obtain ⟨v0, hv0⟩ : ∃ v0, v0 = Value.slice (some ⟨w4.heap.size, 0, none⟩) 0 0 := ⟨_, rfl⟩
    go_wp2_with fail
    go_loopw [6, 8, 9] (fun lv dn i wr => ∃ (k : Nat) (d : Bool) (C : List Acc), k ≤ D.acc.length ∧ i = .int .i64 (k : Int) ∧ dn = .bool d ∧ OpIs D.acc x d k C ∧ Hid (Pool [] w [[blk w.heap.size (ledC p D)], [blk (w.heap.size + 1) c.cells], [blk (w.heap.size + 1 + 1) [.slice none 0 0, .slice none 0 0, .slice none 0 0]], [row 50 4 lv C.length (C.flatMap accCells)], [blk B (accCells x)], []] wr)) (fun lv dn i wr => D.acc.length - (intOf i).toNat)
    case atStart => exact ⟨0, false, [], Nat.zero_le _, rfl, rfl, by simp [OpIs], HP6⟩
    case round =>
      obtain ⟨k, d, C, hk, rfl, rfl, hop, HP⟩ := hrel
      have HO : Hid _ := hide hop
      have hcl : C.length ≤ 1048577 := by have := hop.len hk; split at this <;> omega
      clear hop HP6 hv0
      have d0 := (HP.out.blkAt (i := 0) rfl).c 0 _ rfl
      by_cases hlt : k < D.acc.length
      · have hlt' : (k : Int) < (D.acc.length : Int) := by omega
        obtain ⟨b, off, ea, hb, e0, e1, e2, e3⟩ := acc_row (HL.out.acc.row.below HP.out.below) k hlt
        have x0 := (HP.out.blkAt (i := 4) rfl).c 0 _ rfl
        have hC : C.length + 2 ≤ 1048580 := by omega
        rw [ea] at d0
        clear ea
        cases d
        · cases hq : (!Op.bytesLess (D.acc[k]).name.toList x.name.toList && !((D.acc[k]).name.toList == x.name.toList))
          · have HO2 : Hid (OpIs D.acc x false (k + 1) (C ++ [D.acc[k]])) := hide (by
              have o := HO.out
              simp only [OpIs, Bool.false_eq_true, if_false] at o ⊢
              refine ⟨by rw [o.1, ← take_next _ _ hlt], fun j hj hjk => ?_⟩
              rcases Nat.lt_or_ge j k with h | h
              · exact o.2 j hj h
              · obtain rfl : j = k := by omega
                exact hq)
            go_wp2_with fail
            go_quiet (fail)
            go_wp2_with (first | (at_builtin; refine Shut2.mk ?_) | fail)
            refine Shut2.mk' ?_
            refine name_list (fun Y1 hY1 => ?_)
            have HY1 : Hid (Pool [] w [[blk w.heap.size (ledC p D)], [blk (w.heap.size + 1) c.cells], [blk (w.heap.size + 1 + 1) [.slice none 0 0, .slice none 0 0, .slice none 0 0]], [row 50 4 u6 (C).length ((C).flatMap accCells)], [blk B (accCells x)], [blk wr.heap.size (accCells D.acc[k])]] Y1) := hide (by rw [hY1]; exact HP.out.newDrawn (i := 5) rfl _ (accCells D.acc[k]) 50)
            clear hY1
            refine wpList_append_pool HY1.out (i0 := 3) rfl rfl _ _ 24 rfl i0 _ 48 Tryz.underlying24 hi0 hz0 hz1 hz2 rfl (by decide) rfl (some ⟨wr.heap.size, 0, none⟩) 1 1 (accCells D.acc[k]) rfl rfl (fun e => by cases e) (blk_news (HY1.out.blkAt (i := 5) rfl)) (acc_one1 D.acc[k]) (by unfold maxLen; omega) (by omega) ?_
            intro v1 y1 hp1
            have HP1 : Hid (Pool [] w [[blk w.heap.size (ledC p D)], [blk (w.heap.size + 1) c.cells], [blk (w.heap.size + 1 + 1) [.slice none 0 0, .slice none 0 0, .slice none 0 0]], [row 50 4 v1 (C ++ [D.acc[k]]).length ((C ++ [D.acc[k]]).flatMap accCells)], [blk B (accCells x)], []] y1) := hide (by
              have q := hp1.drop (i := 5) rfl
              rw [flat_snoc] at q
              have e : (C ++ [D.acc[k]]).length = (C).length + 1 := by simp
              rw [e]
              exact q)
            clear hp1 HY1
            go_wp2
            exact ⟨⟨k + 1, false, C ++ [D.acc[k]], by omega, by go_num, rfl, HO2.out, HP1⟩, by simp [intOf]; omega⟩
          · have HO2 : Hid (OpIs D.acc x true (k + 1) (C ++ [x] ++ [D.acc[k]])) := hide (by
              have o := HO.out
              simp only [OpIs, Bool.false_eq_true, if_false, if_true] at o ⊢
              rw [insA_at (k := k) (by omega) o.2 (fun _ => hq), o.1]
              simp only [List.append_assoc, List.cons_append, List.nil_append]
              rw [List.getElem_cons_drop])
            have x0 := (HP.out.blkAt (i := 4) rfl).c 0 _ rfl
            have x1 := (HP.out.blkAt (i := 4) rfl).c 1 _ rfl
            have x2 := (HP.out.blkAt (i := 4) rfl).c 2 _ rfl
            have x3 := (HP.out.blkAt (i := 4) rfl).c 3 _ rfl
            go_wp2_with fail
            go_quiet (fail)
            go_wp2_with (first | (at_builtin; refine Shut2.mk ?_) | fail)
            refine Shut2.mk' ?_
            refine name_list (fun Y2 hY2 => ?_)
            have HY2 : Hid (Pool [] w [[blk w.heap.size (ledC p D)], [blk (w.heap.size + 1) c.cells], [blk (w.heap.size + 1 + 1) [.slice none 0 0, .slice none 0 0, .slice none 0 0]], [row 50 4 u6 (C).length ((C).flatMap accCells)], [blk B (accCells x)], [blk wr.heap.size (accCells x)]] Y2) := hide (by rw [hY2]; exact HP.out.newDrawn (i := 5) rfl _ (accCells x) 50)
            clear hY2
            refine wpList_append_pool HY2.out (i0 := 3) rfl rfl _ _ 24 rfl i0 _ 48 Tryz.underlying24 hi0 hz0 hz1 hz2 rfl (by decide) rfl (some ⟨wr.heap.size, 0, none⟩) 1 1 (accCells x) rfl rfl (fun e => by cases e) (blk_news (HY2.out.blkAt (i := 5) rfl)) (acc_one1 x) (by unfold maxLen; omega) (by omega) ?_
            intro v2 y2 hp2
            have HP2 : Hid (Pool [] w [[blk w.heap.size (ledC p D)], [blk (w.heap.size + 1) c.cells], [blk (w.heap.size + 1 + 1) [.slice none 0 0, .slice none 0 0, .slice none 0 0]], [row 50 4 v2 (C ++ [x]).length ((C ++ [x]).flatMap accCells)], [blk B (accCells x)], []] y2) := hide (by
              have q := hp2.drop (i := 5) rfl
              rw [flat_snoc] at q
              have e : (C ++ [x]).length = (C).length + 1 := by simp
              rw [e]
              exact q)
            clear hp2 HY2
            have hC2 : (C ++ [x]).length ≤ 1048580 := by simp; omega
            obtain ⟨b2, off2, ea2, hb2, s0, s1, s2, s3⟩ := acc_row (HL.out.acc.row.below HP2.out.below) k hlt
            have t0 := (HP2.out.blkAt (i := 0) rfl).c 0 _ rfl
            rw [ea2] at t0
            clear ea2
            go_wp2_with (first | (at_builtin; refine Shut2.mk ?_) | fail)
            refine Shut2.mk' ?_
            refine name_list (fun Y3 hY3 => ?_)
            have HY3 : Hid (Pool [] w [[blk w.heap.size (ledC p D)], [blk (w.heap.size + 1) c.cells], [blk (w.heap.size + 1 + 1) [.slice none 0 0, .slice none 0 0, .slice none 0 0]], [row 50 4 v2 ((C ++ [x])).length (((C ++ [x])).flatMap accCells)], [blk B (accCells x)], [blk y2.heap.size (accCells D.acc[k])]] Y3) := hide (by rw [hY3]; exact HP2.out.newBlk (i := 5) rfl (accCells D.acc[k]) 50)
            clear hY3
            refine wpList_append_pool HY3.out (i0 := 3) rfl rfl _ _ 24 rfl i0 _ 48 Tryz.underlying24 hi0 hz0 hz1 hz2 rfl (by decide) rfl (some ⟨y2.heap.size, 0, none⟩) 1 1 (accCells D.acc[k]) rfl rfl (fun e => by cases e) (blk_news (HY3.out.blkAt (i := 5) rfl)) (acc_one1 D.acc[k]) (by unfold maxLen; omega) (by omega) ?_
            intro v3 y3 hp3
            have HP3 : Hid (Pool [] w [[blk w.heap.size (ledC p D)], [blk (w.heap.size + 1) c.cells], [blk (w.heap.size + 1 + 1) [.slice none 0 0, .slice none 0 0, .slice none 0 0]], [row 50 4 v3 ((C ++ [x]) ++ [D.acc[k]]).length (((C ++ [x]) ++ [D.acc[k]]).flatMap accCells)], [blk B (accCells x)], []] y3) := hide (by
              have q := hp3.drop (i := 5) rfl
              rw [flat_snoc] at q
              have e : ((C ++ [x]) ++ [D.acc[k]]).length = ((C ++ [x])).length + 1 := by simp
              rw [e]
              exact q)
            clear hp3 HY3
            go_wp2
            exact ⟨⟨k + 1, true, C ++ [x] ++ [D.acc[k]], by omega, by go_num, rfl, HO2.out, HP3⟩, by simp [intOf]; omega⟩
        · have HO2 : Hid (OpIs D.acc x true (k + 1) (C ++ [D.acc[k]])) := hide (by
            have o := HO.out
            simp only [OpIs, if_true] at o ⊢
            rw [← o]
            simp only [List.append_assoc, List.cons_append, List.nil_append]
            rw [List.getElem_cons_drop])
          go_wp2_with fail
          go_quiet (fail)
          go_wp2_with (first | (at_builtin; refine Shut2.mk ?_) | fail)
          refine Shut2.mk' ?_
          refine name_list (fun Y4 hY4 => ?_)
          have HY4 : Hid (Pool [] w [[blk w.heap.size (ledC p D)], [blk (w.heap.size + 1) c.cells], [blk (w.heap.size + 1 + 1) [.slice none 0 0, .slice none 0 0, .slice none 0 0]], [row 50 4 u6 (C).length ((C).flatMap accCells)], [blk B (accCells x)], [blk wr.heap.size (accCells D.acc[k])]] Y4) := hide (by rw [hY4]; exact HP.out.newDrawn (i := 5) rfl _ (accCells D.acc[k]) 50)
          clear hY4
          refine wpList_append_pool HY4.out (i0 := 3) rfl rfl _ _ 24 rfl i0 _ 48 Tryz.underlying24 hi0 hz0 hz1 hz2 rfl (by decide) rfl (some ⟨wr.heap.size, 0, none⟩) 1 1 (accCells D.acc[k]) rfl rfl (fun e => by cases e) (blk_news (HY4.out.blkAt (i := 5) rfl)) (acc_one1 D.acc[k]) (by unfold maxLen; omega) (by omega) ?_
          intro v4 y4 hp4
          have HP4 : Hid (Pool [] w [[blk w.heap.size (ledC p D)], [blk (w.heap.size + 1) c.cells], [blk (w.heap.size + 1 + 1) [.slice none 0 0, .slice none 0 0, .slice none 0 0]], [row 50 4 v4 (C ++ [D.acc[k]]).length ((C ++ [D.acc[k]]).flatMap accCells)], [blk B (accCells x)], []] y4) := hide (by
            have q := hp4.drop (i := 5) rfl
            rw [flat_snoc] at q
            have e : (C ++ [D.acc[k]]).length = (C).length + 1 := by simp
            rw [e]
            exact q)
          clear hp4 HY4
          go_wp2
          exact ⟨⟨k + 1, true, C ++ [D.acc[k]], by omega, by go_num, rfl, HO2.out, HP4⟩, by simp [intOf]; omega⟩
      · have hlt' : ¬ (k : Int) < (D.acc.length : Int) := by omega
        obtain rfl : k = D.acc.length := by omega
        clear d0
        cases d
        · have x0 := (HP.out.blkAt (i := 4) rfl).c 0 _ rfl
          have x1 := (HP.out.blkAt (i := 4) rfl).c 1 _ rfl
          have x2 := (HP.out.blkAt (i := 4) rfl).c 2 _ rfl
          have x3 := (HP.out.blkAt (i := 4) rfl).c 3 _ rfl
          have d0 := (HP.out.blkAt (i := 0) rfl).c 0 _ rfl
          go_wp2_with (first | (at_builtin; refine Shut2.mk ?_) | fail)
          refine Shut2.mk' ?_
          refine name_list (fun Y5 hY5 => ?_)
          have HY5 : Hid (Pool [] w [[blk w.heap.size (ledC p D)], [blk (w.heap.size + 1) c.cells], [blk (w.heap.size + 1 + 1) [.slice none 0 0, .slice none 0 0, .slice none 0 0]], [row 50 4 u6 (C).length ((C).flatMap accCells)], [blk B (accCells x)], [blk wr.heap.size (accCells x)]] Y5) := hide (by rw [hY5]; exact HP.out.newBlk (i := 5) rfl (accCells x) 50)
          clear hY5
          refine wpList_append_pool HY5.out (i0 := 3) rfl rfl _ _ 24 rfl i0 _ 48 Tryz.underlying24 hi0 hz0 hz1 hz2 rfl (by decide) rfl (some ⟨wr.heap.size, 0, none⟩) 1 1 (accCells x) rfl rfl (fun e => by cases e) (blk_news (HY5.out.blkAt (i := 5) rfl)) (acc_one1 x) (by unfold maxLen; omega) (by omega) ?_
          intro v5 y5 hp5
          have HP5 : Hid (Pool [] w [[blk w.heap.size (ledC p D)], [blk (w.heap.size + 1) c.cells], [blk (w.heap.size + 1 + 1) [.slice none 0 0, .slice none 0 0, .slice none 0 0]], [row 50 4 v5 (C ++ [x]).length ((C ++ [x]).flatMap accCells)], [blk B (accCells x)], []] y5) := hide (by
            have q := hp5.drop (i := 5) rfl
            rw [flat_snoc] at q
            have e : (C ++ [x]).length = (C).length + 1 := by simp
            rw [e]
            exact q)
          clear hp5 HY5
          obtain ⟨E, hE⟩ : ∃ E, E = C ++ [x] := ⟨_, rfl⟩
          rw [← hE] at HP5
          have HEE : Hid _ := hide hE
          clear hE
          obtain ⟨a9, k9, e9, s9, hq9⟩ := HP5.out.toOrow accLen (i := 3) rfl
          have HR : Hid _ := hide hq9
          subst e9
          clear hq9 HP5
          have HE : Hid (E = insA D.acc x) := hide (by (rw [HEE.out]; have o := HO.out; simp only [OpIs, Bool.false_eq_true, if_false] at o; rw [insA_at (k := D.acc.length) (Nat.le_refl _) o.2 (fun q => absurd q (by omega)), o.1]; simp))
          go_upto_region 15 with fail
          refine name_world9 (fun WA hWA => ?_)
          have HRA : Hid (Pool [] w [[blk w.heap.size (ledC p D)], [blk (w.heap.size + 1) c.cells], [blk (w.heap.size + 1 + 1) [.slice none 0 0, .slice none 0 0, .slice none 0 0]], [orow 4 accCells a9 k9 E], [blk B (accCells x)], []] WA) := hide (by rw [hWA]; exact HR.out)
          clear hWA HR
          have d0 := (HRA.out.blkAt (i := 0) rfl).c 0 _ rfl
          have fd0 := (HRA.out.blkAt (i := 0) rfl).f 0
          go_upto_region 16 with fail
          refine name_world9 (fun WB hWB => ?_)
          have HRB : Hid (Pool [] w [[blk w.heap.size [.slice a9 E.length k9, .slice p.ha D.hold.length p.ch, .slice p.sa D.seen.length p.cs]], [blk (w.heap.size + 1) c.cells], [blk (w.heap.size + 1 + 1) [.slice none 0 0, .slice none 0 0, .slice none 0 0]], [orow 4 accCells a9 k9 E], [blk B (accCells x)], []] WB) := hide (by rw [hWB]; exact HRA.out.setBlk (i := 0) rfl 0 _ (by simp [ledC]))
          clear hWB HRA d0 fd0
          have d0 := (HRB.out.blkAt (i := 0) rfl).c 0 _ rfl
          have d1 := (HRB.out.blkAt (i := 0) rfl).c 1 _ rfl
          have d2 := (HRB.out.blkAt (i := 0) rfl).c 2 _ rfl
          have r0 := (HRB.out.blkAt (i := 2) rfl).c 0 _ rfl
          have r1 := (HRB.out.blkAt (i := 2) rfl).c 1 _ rfl
          have r2 := (HRB.out.blkAt (i := 2) rfl).c 2 _ rfl
          have f0 := (HRB.out.blkAt (i := 2) rfl).f 0
          have f1 := (HRB.out.blkAt (i := 2) rfl).f 1
          have f2 := (HRB.out.blkAt (i := 2) rfl).f 2
          have HQ : Hid _ := hide (((HRB.out.setBlk (i := 2) rfl 0 (.slice a9 E.length k9) (by simp)).setBlk (i := 2) rfl 1 (.slice p.ha D.hold.length p.ch) (by simp)).setBlk (i := 2) rfl 2 (.slice p.sa D.seen.length p.cs) (by simp))
          go_wp2
          refine name_post9 (fun W9 hW9 => ?_)
          have hq := HQ.out
          rw [← hW9] at hq
          have z_ := hq.blkAt (i := 2) rfl
          have g0_ := z_.c 0 _ rfl
          have g1_ := z_.c 1 _ rfl
          have g2_ := z_.c 2 _ rfl
          have hM := HM.out
          rw [← HX.out, ← HE.out] at hM
          exact bodyPost_ret (v := .tuple #[.agg #[.slice a9 E.length k9, .slice p.ha D.hold.length p.ch, .slice p.sa D.seen.length p.cs], .int .i64 0]) (by simp [results, Tryz.results103, go_sem, g0_, g1_, g2_]) rfl ⟨a9, k9, by rw [hM], hq.below, fun q => by rw [hM] at q; exact absurd rfl q, fun _ => by
            rw [hM]
            exact ⟨s9, ((((hq.drop (i := 4) rfl).drop (i := 2) rfl).drop (i := 1) rfl).drop (i := 0) rfl).cast (by simp)⟩⟩
        · have d0 := (HP.out.blkAt (i := 0) rfl).c 0 _ rfl
          obtain ⟨a9, k9, e9, s9, hq9⟩ := HP.out.toOrow accLen (i := 3) rfl
          have HR : Hid _ := hide hq9
          subst e9
          clear hq9 HP
          have HE : Hid (C = insA D.acc x) := hide (by (have o := HO.out; simp only [OpIs, if_true] at o; simpa using o))
          go_upto_region 15 with fail
          refine name_world9 (fun WA hWA => ?_)
          have HRA : Hid (Pool [] w [[blk w.heap.size (ledC p D)], [blk (w.heap.size + 1) c.cells], [blk (w.heap.size + 1 + 1) [.slice none 0 0, .slice none 0 0, .slice none 0 0]], [orow 4 accCells a9 k9 (C)], [blk B (accCells x)], []] WA) := hide (by rw [hWA]; exact HR.out)
          clear hWA HR
          have d0 := (HRA.out.blkAt (i := 0) rfl).c 0 _ rfl
          have fd0 := (HRA.out.blkAt (i := 0) rfl).f 0
          go_upto_region 16 with fail
          refine name_world9 (fun WB hWB => ?_)
          have HRB : Hid (Pool [] w [[blk w.heap.size [.slice a9 (C).length k9, .slice p.ha D.hold.length p.ch, .slice p.sa D.seen.length p.cs]], [blk (w.heap.size + 1) c.cells], [blk (w.heap.size + 1 + 1) [.slice none 0 0, .slice none 0 0, .slice none 0 0]], [orow 4 accCells a9 k9 (C)], [blk B (accCells x)], []] WB) := hide (by rw [hWB]; exact HRA.out.setBlk (i := 0) rfl 0 _ (by simp [ledC]))
          clear hWB HRA d0 fd0
          have d0 := (HRB.out.blkAt (i := 0) rfl).c 0 _ rfl
          have d1 := (HRB.out.blkAt (i := 0) rfl).c 1 _ rfl
          have d2 := (HRB.out.blkAt (i := 0) rfl).c 2 _ rfl
          have r0 := (HRB.out.blkAt (i := 2) rfl).c 0 _ rfl
          have r1 := (HRB.out.blkAt (i := 2) rfl).c 1 _ rfl
          have r2 := (HRB.out.blkAt (i := 2) rfl).c 2 _ rfl
          have f0 := (HRB.out.blkAt (i := 2) rfl).f 0
          have f1 := (HRB.out.blkAt (i := 2) rfl).f 1
          have f2 := (HRB.out.blkAt (i := 2) rfl).f 2
          have HQ : Hid _ := hide (((HRB.out.setBlk (i := 2) rfl 0 (.slice a9 (C).length k9) (by simp)).setBlk (i := 2) rfl 1 (.slice p.ha D.hold.length p.ch) (by simp)).setBlk (i := 2) rfl 2 (.slice p.sa D.seen.length p.cs) (by simp))
          go_wp2
          refine name_post9 (fun W9 hW9 => ?_)
          have hq := HQ.out
          rw [← hW9] at hq
          have z_ := hq.blkAt (i := 2) rfl
          have g0_ := z_.c 0 _ rfl
          have g1_ := z_.c 1 _ rfl
          have g2_ := z_.c 2 _ rfl
          have hM := HM.out
          rw [← HX.out, ← HE.out] at hM
          exact bodyPost_ret (v := .tuple #[.agg #[.slice a9 (C).length k9, .slice p.ha D.hold.length p.ch, .slice p.sa D.seen.length p.cs], .int .i64 0]) (by simp [results, Tryz.results103, go_sem, g0_, g1_, g2_]) rfl ⟨a9, k9, by rw [hM], hq.below, fun q => by rw [hM] at q; exact absurd rfl q, fun _ => by
            rw [hM]
            exact ⟨s9, ((((hq.drop (i := 4) rfl).drop (i := 2) rfl).drop (i := 1) rfl).drop (i := 0) rfl).cast (by simp)⟩⟩
end Go.Proofs.YteaopalhbnhbaaaGreatDoor
