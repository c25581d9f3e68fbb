/- The book of the program as what a call owns. -/
import Derived.Test.YtjjoeajnhblacaaGreatDoorLSe
import Derived.Test.YtjjoeajnhblacaaGreatDoorGh
namespace Go.Proofs.YtjjoeajnhblacaaGreatDoor
open Go.ChangeShapes Go.WideShapes Go.ChangeAt Go.RowKit Go.Maps
set_option linter.unusedVariables false
set_option maxRecDepth 100000
set_option maxHeartbeats 2000000 in
theorem cloneS_own (a : Option Addr) (l : List Sn) (cap : Nat) (w : World) (hl : l.length ≤ 1048576) (hc : a = none → cap = 0) (h : RowAt 2 snCells w a l) :
    Calls Tryz.prog 55 #[.slice a l.length cap] w fun e w' => Below w.heap.size w w' ∧ ∃ v, e = .returned v ∧ w'.ownsRow w.heap.size 47 2 v l.length (l.flatMap snCells) := by
  obtain ⟨i0, hi0, hz0, hz1, hz2⟩ := info_parts infoSn
  have hu : Tryz.prog.underlying 26 = some (.slice 47) := by kernel_rfl
  have HN : Hid _ := hide (h.news_any snLen (by decide))
  cases a with
  | none =>
    have e0 : l = [] := List.eq_nil_of_length_eq_zero (row_none h rfl)
    subst e0
    obtain rfl := hc rfl
    clear h
    have he : ∀ w : World, (binOp .eql 26 (.slice none 0 0) (.slice none 0 0)).run Tryz.prog w = .ok (.bool true) w := fun _ => rfl
    go_enter Tryz.func55, Tryz.ntmps55
    go_wp2
    go_ret
    exact ⟨Below.refl _ _, _, rfl, ⟨by simp, .inl ⟨rfl, rfl⟩⟩⟩
  | some ad =>
    clear h
    have he : ∀ w : World, (binOp .eql 26 (.slice (some ad) l.length cap) (.slice none 0 0)).run Tryz.prog w = .ok (.bool false) w := fun _ => rfl
    go_enter Tryz.func55, Tryz.ntmps55
    go_wp2_with (first | (at_builtin; refine Shut2.mk ?_) | go_in)
    refine Shut2.mk' ?_
    refine wpList_append_own_at _ rfl _ _ 26 rfl w.heap.size 47 i0 _ 2 16 hu hi0 hz0 hz1 hz2 rfl (by decide) _ 0 [] rfl ?own ad l.length cap (l.flatMap snCells) rfl (flat_len snCells 2 snLen l) ?news (sn_one l) (by unfold maxLen; omega) (by omega) ?base ?_
    case own => exact World.ownsRow_made w #[] 0 (Nat.le_refl _) (by unfold maxLen; omega) rfl
    case news => exact fun j u hj => (World.grownBy_alloc w _ none).cell (HN.out ad rfl j u hj) (by simp)
    case base => simp
    intro v' w1 hown' hgrow hnil hloc
    have HB : Hid (Below w.heap.size w w1) := hide (below_grown hgrow (below_alloc (Below.refl _ _) _) (fun j hj => by cases hj; exact Nat.le_refl _))
    have HO : Hid _ := hide hown'
    clear hown' hgrow hnil hloc
    go_wp2
    go_ret
    have ho := HO.out
    rw [List.nil_append, Nat.zero_add] at ho
    exact ⟨HB.out, v', rfl, ho⟩
set_option maxHeartbeats 2000000 in
theorem cloneH_own (a : Option Addr) (l : List Hld) (cap : Nat) (w : World) (hl : l.length ≤ 1048576) (hc : a = none → cap = 0) (h : RowAt 4 hldCells w a l) :
    Calls Tryz.prog 54 #[.slice a l.length cap] w fun e w' => Below w.heap.size w w' ∧ ∃ v, e = .returned v ∧ w'.ownsRow w.heap.size 71 4 v l.length (l.flatMap hldCells) := by
  obtain ⟨i0, hi0, hz0, hz1, hz2⟩ := info_parts infoHld
  have hu : Tryz.prog.underlying 25 = some (.slice 71) := by kernel_rfl
  have HN : Hid _ := hide (h.news_any hldLen (by decide))
  cases a with
  | none =>
    have e0 : l = [] := List.eq_nil_of_length_eq_zero (row_none h rfl)
    subst e0
    obtain rfl := hc rfl
    clear h
    have he : ∀ w : World, (binOp .eql 25 (.slice none 0 0) (.slice none 0 0)).run Tryz.prog w = .ok (.bool true) w := fun _ => rfl
    go_enter Tryz.func54, Tryz.ntmps54
    go_wp2
    go_ret
    exact ⟨Below.refl _ _, _, rfl, ⟨by simp, .inl ⟨rfl, rfl⟩⟩⟩
  | some ad =>
    clear h
    have he : ∀ w : World, (binOp .eql 25 (.slice (some ad) l.length cap) (.slice none 0 0)).run Tryz.prog w = .ok (.bool false) w := fun _ => rfl
    go_enter Tryz.func54, Tryz.ntmps54
    go_wp2_with (first | (at_builtin; refine Shut2.mk ?_) | go_in)
    refine Shut2.mk' ?_
    refine wpList_append_own_at _ rfl _ _ 25 rfl w.heap.size 71 i0 _ 4 48 hu hi0 hz0 hz1 hz2 rfl (by decide) _ 0 [] rfl ?own ad l.length cap (l.flatMap hldCells) rfl (flat_len hldCells 4 hldLen l) ?news (hld_one l) (by unfold maxLen; omega) (by omega) ?base ?_
    case own => exact World.ownsRow_made w #[] 0 (Nat.le_refl _) (by unfold maxLen; omega) rfl
    case news => exact fun j u hj => (World.grownBy_alloc w _ none).cell (HN.out ad rfl j u hj) (by simp)
    case base => simp
    intro v' w1 hown' hgrow hnil hloc
    have HB : Hid (Below w.heap.size w w1) := hide (below_grown hgrow (below_alloc (Below.refl _ _) _) (fun j hj => by cases hj; exact Nat.le_refl _))
    have HO : Hid _ := hide hown'
    clear hown' hgrow hnil hloc
    go_wp2
    go_ret
    have ho := HO.out
    rw [List.nil_append, Nat.zero_add] at ho
    exact ⟨HB.out, v', rfl, ho⟩
/-- what a map of names to blocks has -/
structure MapKs (D : DataW Unit) (ns : List ByteArray) (ps : List Nat) : Prop where
  size : Maps.size D = ns.length
  at_ : ∀ i (h : i < ns.length), ∀ z, D.atKey (kn ns[i]) z = ptrD (ps.getD i 0)
  only : ∀ kl, Maps.has D kl = true → ∃ i, ∃ h : i < ns.length, kl = kn ns[i]
/-- the map's block -/
def mapR (m : Nat) (ns : List ByteArray) (ps : List Nat) : Rs := ⟨[m], fun x => ∃ D, x.ownsMap Tryz.prog 9 ptrElem m ns.length D ∧ MapKs D ns ps, fun x y e h => by
  obtain ⟨D, ⟨es, clock, hb, r⟩, k⟩ := h
  exact ⟨D, ⟨es, clock, (e m (by simp)).trans hb, r⟩, k⟩⟩
theorem mapR_fp (m : Nat) (ns : List ByteArray) (ps : List Nat) : (mapR m ns ps).fp = [m] := rfl
theorem mapKs_nil : MapKs (.map []) [] [] := ⟨rfl, fun i h => by simp at h, fun kl h => by simp [Maps.has] at h⟩
theorem MapKs.put {D : DataW Unit} {ns : List ByteArray} {ps : List Nat} (h : MapKs D ns ps) (hl : ps.length = ns.length) (ht : Maps.Tidy D) (hm : Maps.IsMap D) {nm : ByteArray} (hn : ∀ n ∈ ns, n ≠ nm) (p : Nat) : MapKs (D.put (kn nm) (ptrD p)) (ns ++ [nm]) (ps ++ [p]) := by
  have hno : Maps.has D (kn nm) = false := by
    rw [Bool.eq_false_iff]
    intro q
    obtain ⟨i, hi, e⟩ := h.only _ q
    exact hn _ (List.getElem_mem hi) (kn_inj e).symm
  refine ⟨by rw [Maps.size_put ht, hno, h.size]; simp, fun i hi z => ?_, fun kl hk => ?_⟩
  · rcases Nat.lt_or_ge i ns.length with q | q
    · rw [List.getElem_append_left q, atKey_put_other (fun e => hn _ (List.getElem_mem q) (kn_inj e))]
      rw [h.at_ i q z]
      congr 1
      simp [List.getElem?_append_left (show i < ps.length by omega)]
    · obtain rfl : i = ns.length := by simp at hi; omega
      rw [show (ns ++ [nm])[ns.length] = nm by simp, atKey_put_same hm (kn_key _)]
      congr 1
      simp [← hl]
  · by_cases e : kl = kn nm
    · exact ⟨ns.length, by simp, by simp [e]⟩
    · rw [has_put_other e] at hk
      obtain ⟨i, hi, rfl⟩ := h.only kl hk
      exact ⟨i, by simp; omega, by rw [List.getElem_append_left hi]⟩
def accB' (ps : List Nat) (l : List Acc) : List Rs := (List.zip ps l).map (fun x => blk x.1 (accCells x.2))
def mpB : Value → Nat
  | .map (some m) => m
  | _ => 0
/-- a book of the call's own -/
def bkS (q m : Nat) (ps : List Nat) (hv sv : Value) (A : List Acc) (H : List Hld) (S : List Sn) : List (List Rs) := [[blk q [.map (some m), hv, sv]], [mapR m (A.map Acc.name) ps], accB' ps A, [row 71 4 hv H.length (H.flatMap hldCells)], [row 47 2 sv S.length (S.flatMap snCells)]]
def BkEnd (D : Led) (w : World) (e : Ending) (w' : World) : Prop := ∃ (q m : Nat) (ps : List Nat) (hv sv : Value), e = .returned (.pointer (some ⟨q, 0, none⟩)) ∧ ps.length = D.acc.length ∧ Pool [] w (bkS q m ps hv sv D.acc D.hold D.seen) w'
theorem Pool.newMap {F : List Nat} {w x : World} {S : List (List Rs)} (h : Pool F w S x) {i : Nat} (hi : S[i]? = some []) : Pool F w (S.set i [mapR x.heap.size [] []]) (x.alloc (.map #[] 0)) :=
  h.new hi (below_alloc (Below.refl _ _) _) (Star.one ⟨_, World.ownsMap_made _ _ _ _, mapKs_nil⟩ (by simp [mapR]) (fun b hb => by simp only [mapR, List.mem_singleton] at hb; subst hb; simp)) (fun c hc => by simp only [fps_one, mapR, List.mem_singleton] at hc; omega)
/-- an account more in the map -/
theorem Pool.putMap {F : List Nat} {w x : World} {S : List (List Rs)} (h : Pool F w S x) {i m : Nat} {ns : List ByteArray} {ps : List Nat} (hi : S[i]? = some [mapR m ns ps]) (hl : ps.length = ns.length) (hs : ns.length < maxLen) {nm : ByteArray} (hz : nm.size ≤ maxLen) (hn : ∀ n ∈ ns, n ≠ nm) (p : Nat) :
    ∃ y, (Instr.mapUpdate 63 (.map (some m)) (.string nm) (.pointer (some ⟨p, 0, none⟩))).run Tryz.prog x = .ok () y ∧ Pool F w (S.set i [mapR m (ns ++ [nm]) (ps ++ [p])]) y := by
  obtain ⟨D, ho, hk⟩ := (h.get hi).get (r := mapR m ns ps) (by simp)
  obtain ⟨y, hrun, ho2, hg⟩ := ho.update (t := 63) (e := 62) law9 u64 hs (kn_of hz) (ptr_mk p)
  refine ⟨y, hrun, h.step hi (Fr.grown hg |>.mono (fun b hb => .inl (by simpa [fps, mapR] using hb))) (Star.one ⟨_, by simpa using ho2, hk.put hl (ho.tidy law9) (ho.tidy law9).isMap hn p⟩ (by simp [mapR]) (fun b hb => ?_)) (fun b hb => .inl (by simpa [fps, mapR] using hb))⟩
  simp only [mapR, List.mem_singleton] at hb
  subst hb
  have q := (h.get hi).lt b (by simp [fps, mapR])
  exact Nat.lt_of_lt_of_le q hg.size
theorem accB'_snoc (ps : List Nat) (l : List Acc) (p : Nat) (x : Acc) (h : ps.length = l.length) : accB' (ps ++ [p]) (l ++ [x]) = accB' ps l ++ [blk p (accCells x)] := by
  unfold accB'; rw [List.zip_append h]; simp
/-- the book while it is made: its first k accounts -/
def BoS (w : World) (p : LP) (D : Led) (q m : Nat) (a1 : Option Addr) (c1 : Nat) (a2 : Option Addr) (c2 : Nat) (ps : List Nat) (k : Nat) (x : World) : Prop := Pool [] w [[blk w.heap.size (ledC p D)], [blk q [.map (some m), .slice a1 D.hold.length c1, .slice a2 D.seen.length c2]], [mapR m ((D.acc.take k).map Acc.name) ps], (accB' ps (D.acc.take k)), [row 71 4 (.slice a1 D.hold.length c1) D.hold.length (D.hold.flatMap hldCells)], [row 47 2 (.slice a2 D.seen.length c2) D.seen.length (D.seen.flatMap snCells)], [], []] x
theorem Pool.newRowB {F : List Nat} {w x y : World} {S : List (List Rs)} (h : Pool F w S x) {i : Nat} (hi : S[i]? = some []) {T : TypeId} {sz n : Nat} {v : Value} {xs : List Value} (hb : Below x.heap.size x y) (ho : y.ownsRow x.heap.size T sz v n xs) : Pool F w (S.set i [row T sz v n xs]) y :=
  h.new hi hb (Star.ofRow ho) (fun c hc => by
    rw [fps_one, row_fp, Option.mem_toList] at hc
    exact (ho.lt c hc).1)
structure BoF (p : LP) (D : Led) (s : Nat) (w : World) (l0 l1 l2 l3 l4 l5 l6 l7 l8 l9 : Bool) (u3 u7 u8 u9 u10 u11 u12 u13 u14 u15 : Value) (x : World) : Prop where
  pool : Pool [] w [[blk s (ledC p D)], cond l8 [blk (ptB u15) [u7, u10, u13]] [], cond l0 [mapR (mpB u7) [] []] [], [], cond l3 [row 71 4 u10 D.hold.length (D.hold.flatMap hldCells)] [], cond l6 [row 47 2 u13 D.seen.length (D.seen.flatMap snCells)] [], [], []] x
  m7 : l0 = true → u7 = .map (some (mpB u7))
  q14 : l7 = true → u14 = .agg #[u7, u10, u13]
  q15 : l8 = true → u15 = .pointer (some ⟨ptB u15, 0, none⟩)
  q3 : l9 = true → u3 = u15
  d7_0 : l7 = true → l0 = true
  d7_3 : l7 = true → l3 = true
  d7_6 : l7 = true → l6 = true
  d8_7 : l8 = true → l7 = true
  d8_0 : l8 = true → l0 = true
  d8_3 : l8 = true → l3 = true
  d8_6 : l8 = true → l6 = true
  d9_8 : l9 = true → l8 = true
  p8 : l1 = true → u8 = .pointer (some ⟨s, 1, none⟩)
  p11 : l4 = true → u11 = .pointer (some ⟨s, 2, none⟩)
  p9 : l2 = true → u9 = .slice p.ha D.hold.length p.ch
  p12 : l5 = true → u12 = .slice p.sa D.seen.length p.cs
theorem exec_mapU {P : Program} {w w' : World} {o : Oper} {ev : Operand → Value} {mm kk vv : Operand} {t : TypeId} {a b c : Value} (hop : o.op = Op.mapUpdate t mm kk vv) (h1 : ev mm = a) (h2 : ev kk = b) (h3 : ev vv = c) (hr : (Instr.mapUpdate t a b c).run P w = .ok () w') : (execOp ev o).run P w = .ok .skip w' := by
  unfold execOp
  simp only [hop, Sem.run_bind, Sem.run_pure, h1, h2, h3, hr, Result.andThen_ok]
theorem names_off {l : List Acc} (hd : ∀ i j (hi : i < l.length) (hj : j < l.length), i < j → l[i].name ≠ l[j].name) (k : Nat) (hk : k < l.length) : ∀ n ∈ (l.take k).map Acc.name, n ≠ l[k].name := by
  intro n hn
  rw [List.mem_map] at hn
  obtain ⟨x, hx, rfl⟩ := hn
  obtain ⟨i, hi, rfl⟩ := List.getElem_of_mem hx
  rw [List.length_take] at hi
  rw [List.getElem_take]
  exact hd i k (by omega) hk (by omega)
structure BoG (p : LP) (D : Led) (w : World) (q m : Nat) (a1 : Option Addr) (c1 : Nat) (a2 : Option Addr) (c2 : Nat) (ps : List Nat) (k : Nat) (hlt : k < D.acc.length) (W : Nat) (l0 l1 l2 l3 l4 l5 l6 : Bool) (u24 u25 u26 u27 u28 u29 : Value) (x : World) : Prop where
  pool : Pool [] w [[blk w.heap.size (ledC p D)], [blk q [.map (some m), .slice a1 D.hold.length c1, .slice a2 D.seen.length c2]], cond l6 [mapR m ((D.acc.take k).map Acc.name ++ [D.acc[k].name]) (ps ++ [W + 1])] [mapR m ((D.acc.take k).map Acc.name) ps], (accB' ps (D.acc.take k)), [row 71 4 (.slice a1 D.hold.length c1) D.hold.length (D.hold.flatMap hldCells)], [row 47 2 (.slice a2 D.seen.length c2) D.seen.length (D.seen.flatMap snCells)], [blk W (accCells D.acc[k])], [blk (W + 1) (accCells D.acc[k])]] x
  p24 : l0 = true → u24 = .pointer (some ⟨q, 0, none⟩)
  p25 : l1 = true → u25 = .pointer (some ⟨q, 0, none⟩)
  p26 : l2 = true → u26 = .pointer (some ⟨q, 0, none⟩)
  p27 : l3 = true → u27 = .map (some m)
  p28 : l4 = true → u28 = .pointer (some ⟨W, 0, none⟩)
  p29 : l5 = true → u29 = .string D.acc[k].name
set_option maxHeartbeats 4000000 in
theorem bookOf_pool (p : LP) (D : Led) (w : World) (g1 : D.acc.length ≤ 12) (g2 : D.hold.length ≤ 10) (g3 : D.seen.length ≤ 40) (hpk : PlOk p D) (h : LedAt w p.aa p.ha p.sa D) (hd : ∀ i j (hi : i < D.acc.length) (hj : j < D.acc.length), i < j → D.acc[i].name ≠ D.acc[j].name) :
    Calls Tryz.prog 27 #[ledV p D] w fun e w' => BkEnd D w e w' := by
  obtain ⟨aa, ca, ha, ch, sa, cs⟩ := p
  have HL : Hid (LedAt w aa ha sa D) := hide h
  have HK : Hid _ := hide hpk
  have HD : Hid _ := hide hd
  obtain ⟨W1, hW1⟩ : ∃ W1, W1 = w.alloc (.cells #[.slice aa D.acc.length ca, .slice ha D.hold.length ch, .slice sa D.seen.length cs] 28) := ⟨_, rfl⟩
  have HP0 : Hid (Pool [] w [[blk w.heap.size (ledC ⟨aa, ca, ha, ch, sa, cs⟩ D)], [], [], [], [], [], [], []] W1) := hide (by rw [hW1]; exact (Pool.start w [[], [], [], [], [], [], [], []] rfl).newBlk (i := 0) rfl (ledC ⟨aa, ca, ha, ch, sa, cs⟩ D) 28)
  have HW1 : Hid (_ = W1) := hide hW1.symm
  clear hW1 h hpk hd
  have hmm := @run_makeMap Tryz.prog
  unfold ledV
  simp only
  go_enter Tryz.func27, Tryz.ntmps27
  go_upto_region 1 with fail
  rw [HW1.out]
  rename_i K0 hK0
  refine wp_region_inv (by kernel_rfl) (fun L act x => ∃ l0 l1 l2 l3 l4 l5 l6 l7 l8 l9 : Bool, ∃ u3 u7 u8 u9 u10 u11 u12 u13 u14 u15 : Value, L = #[l0, l1, l2, l3, l4, l5, l6, l7, l8, l9] ∧ act = { tmps := #[Value.agg #[Value.slice aa D.acc.length ca, Value.slice ha D.hold.length ch, Value.slice sa D.seen.length cs], Value.pointer (some { block := w.heap.size, off := 0 }), Value.pointer none, u3, undef, undef, undef, u7, u8, u9, u10, u11, u12, u13, u14, u15, undef, undef, undef, undef, undef, undef, undef, undef, undef, undef, undef, undef, undef, undef, undef, undef], defers := [] } ∧ BoF ⟨aa, ca, ha, ch, sa, cs⟩ D w.heap.size w l0 l1 l2 l3 l4 l5 l6 l7 l8 l9 u3 u7 u8 u9 u10 u11 u12 u13 u14 u15 x) ?_ ?_ ?_
  rotate_left 2
  · exact ⟨false, false, false, false, false, false, false, false, false, false, (undef), (undef), (undef), (undef), (undef), (undef), (undef), (undef), (undef), (undef), rfl, rfl, ⟨HP0.out.drew, fun q => (by cases q), fun q => (by cases q), fun q => (by cases q), fun q => (by cases q), fun q => (by cases q), fun q => (by cases q), fun q => (by cases q), fun q => (by cases q), fun q => (by cases q), fun q => (by cases q), fun q => (by cases q), fun q => (by cases q), fun q => (by cases q), fun q => (by cases q), fun q => (by cases q), fun q => (by cases q)⟩⟩
  · rintro L act x i ⟨l0, l1, l2, l3, l4, l5, l6, l7, l8, l9, u3, u7, u8, u9, u10, u11, u12, u13, u14, u15, rfl, rfl, h⟩ hi K hK
    have hi15 : i < 10 := by
      obtain ⟨_, o, ho, _⟩ := mem_ready.1 hi
      exact (Array.getElem?_eq_some_iff.1 ho).1
    have hl := (mem_ready.1 hi).1
    obtain rfl | rfl | rfl | rfl | rfl | rfl | rfl | rfl | rfl | rfl := (by omega : i = 0 ∨ i = 1 ∨ i = 2 ∨ i = 3 ∨ i = 4 ∨ i = 5 ∨ i = 6 ∨ i = 7 ∨ i = 8 ∨ i = 9)
    · have e : l0 = false := hl
      subst e
      have z7 : l7 = false := by
        cases hz : l7
        · rfl
        · exact absurd (h.d7_0 hz) (by simp)
      subst z7
      have z8 : l8 = false := by
        cases hz : l8
        · rfl
        · exact absurd (h.d8_0 hz) (by simp)
      subst z8
      refine wpOp_run (v := .map (some x.heap.size)) (w' := x.alloc (.map #[] 0)) (by rfl) (by rfl) ?_ (hK _ _ ⟨true, l1, l2, l3, l4, l5, l6, false, false, l9, u3, (.map (some x.heap.size)), u8, u9, u10, u11, u12, u13, u14, u15, rfl, rfl, { h with m7 := (fun _ => rfl), q14 := (fun z => by cases z), pool := (h.pool.newMap (i := 2) rfl), d7_0 := fun _ => rfl, d8_0 := fun _ => rfl }⟩)
      go_simp
    · have e : l1 = false := hl
      subst e
      refine wpOp_run (v := .pointer (some ⟨w.heap.size, 1, none⟩)) (w' := x) (by rfl) (by rfl) ?_ (hK _ _ ⟨l0, true, l2, l3, l4, l5, l6, l7, l8, l9, u3, u7, (.pointer (some ⟨w.heap.size, 1, none⟩)), u9, u10, u11, u12, u13, u14, u15, rfl, rfl, { h with p8 := fun _ => rfl }⟩)
      go_simp
    · have e : l2 = false := hl
      subst e
      have d1 : l1 = true := ready_on hi 1 (by kernel_rfl)
      subst d1
      have c0 : x.cell? ⟨w.heap.size, 1, none⟩ = some (.slice ha D.hold.length ch) := (h.pool.blkAt (i := 0) rfl).c 1 _ rfl
      refine wpOp_run (v := .slice ha D.hold.length ch) (w' := x) (by rfl) (by rfl) ?_ (hK _ _ ⟨l0, true, true, l3, l4, l5, l6, l7, l8, l9, u3, u7, u8, (.slice ha D.hold.length ch), u10, u11, u12, u13, u14, u15, rfl, rfl, { h with p9 := fun _ => rfl }⟩)
      rw [h.p8 rfl]
      go_simp
    · have e : l3 = false := hl
      subst e
      have d2 : l2 = true := ready_on hi 2 (by kernel_rfl)
      subst d2
      have z7 : l7 = false := by
        cases hz : l7
        · rfl
        · exact absurd (h.d7_3 hz) (by simp)
      subst z7
      have z8 : l8 = false := by
        cases hz : l8
        · rfl
        · exact absurd (h.d8_3 hz) (by simp)
      subst z8
      refine wpOp_call (by rfl) (by rfl) ?_ (cloneH_own ha D.hold ch x (by omega) HK.out.h.nocap (HL.out.hold.row.below h.pool.below)) ?_
      · rw [h.p9 rfl]; go_simp
      · rintro e w' ⟨hb, v, rfl, ho⟩
        exact ⟨_, rfl, hK _ _ ⟨l0, l1, true, true, l4, l5, l6, false, false, l9, u3, u7, u8, u9, (v), u11, u12, u13, u14, u15, rfl, rfl, { h with q14 := (fun z => by cases z), pool := (h.pool.newRowB (i := 4) rfl hb ho), d7_3 := fun _ => rfl, d8_3 := fun _ => rfl }⟩⟩
    · have e : l4 = false := hl
      subst e
      refine wpOp_run (v := .pointer (some ⟨w.heap.size, 2, none⟩)) (w' := x) (by rfl) (by rfl) ?_ (hK _ _ ⟨l0, l1, l2, l3, true, l5, l6, l7, l8, l9, u3, u7, u8, u9, u10, (.pointer (some ⟨w.heap.size, 2, none⟩)), u12, u13, u14, u15, rfl, rfl, { h with p11 := fun _ => rfl }⟩)
      go_simp
    · have e : l5 = false := hl
      subst e
      have d4 : l4 = true := ready_on hi 4 (by kernel_rfl)
      subst d4
      have c0 : x.cell? ⟨w.heap.size, 2, none⟩ = some (.slice sa D.seen.length cs) := (h.pool.blkAt (i := 0) rfl).c 2 _ rfl
      refine wpOp_run (v := .slice sa D.seen.length cs) (w' := x) (by rfl) (by rfl) ?_ (hK _ _ ⟨l0, l1, l2, l3, true, true, l6, l7, l8, l9, u3, u7, u8, u9, u10, u11, (.slice sa D.seen.length cs), u13, u14, u15, rfl, rfl, { h with p12 := fun _ => rfl }⟩)
      rw [h.p11 rfl]
      go_simp
    · have e : l6 = false := hl
      subst e
      have d3 : l3 = true := ready_on hi 3 (by kernel_rfl)
      subst d3
      have d5 : l5 = true := ready_on hi 5 (by kernel_rfl)
      subst d5
      have z7 : l7 = false := by
        cases hz : l7
        · rfl
        · exact absurd (h.d7_6 hz) (by simp)
      subst z7
      have z8 : l8 = false := by
        cases hz : l8
        · rfl
        · exact absurd (h.d8_6 hz) (by simp)
      subst z8
      refine wpOp_call (by rfl) (by rfl) ?_ (cloneS_own sa D.seen cs x (by omega) HK.out.s.nocap (HL.out.seen.row.below h.pool.below)) ?_
      · rw [h.p12 rfl]; go_simp
      · rintro e w' ⟨hb, v, rfl, ho⟩
        exact ⟨_, rfl, hK _ _ ⟨l0, l1, l2, true, l4, true, true, false, false, l9, u3, u7, u8, u9, u10, u11, u12, (v), u14, u15, rfl, rfl, { h with q14 := (fun z => by cases z), pool := (h.pool.newRowB (i := 5) rfl hb ho), d7_6 := fun _ => rfl, d8_6 := fun _ => rfl }⟩⟩
    · have e : l7 = false := hl
      subst e
      have d0 : l0 = true := ready_on hi 0 (by kernel_rfl)
      subst d0
      have d3 : l3 = true := ready_on hi 3 (by kernel_rfl)
      subst d3
      have d6 : l6 = true := ready_on hi 6 (by kernel_rfl)
      subst d6
      have z8 : l8 = false := by
        cases hz : l8
        · rfl
        · exact absurd (h.d8_7 hz) (by simp)
      subst z8
      obtain ⟨a1, c1, e1⟩ := row_shape (h.pool.rowAt (i := 4) rfl)
      obtain ⟨a2, c2, e2⟩ := row_shape (h.pool.rowAt (i := 5) rfl)
      obtain ⟨m7, e0⟩ : ∃ m7, u7 = .map (some m7) := ⟨_, h.m7 rfl⟩
      refine wpOp_run (v := .agg #[u7, u10, u13]) (w' := x) (by rfl) (by rfl) ?_ (hK _ _ ⟨true, l1, l2, true, l4, l5, true, true, false, l9, u3, u7, u8, u9, u10, u11, u12, u13, (.agg #[u7, u10, u13]), u15, rfl, rfl, { h with q14 := (fun _ => rfl), d7_0 := fun _ => rfl, d7_3 := fun _ => rfl, d7_6 := fun _ => rfl, d8_7 := fun _ => rfl }⟩)
      rw [e0, e1, e2]
      go_simp
    · have e : l8 = false := hl
      subst e
      have d7 : l7 = true := ready_on hi 7 (by kernel_rfl)
      subst d7
      have z9 : l9 = false := by
        cases hz : l9
        · rfl
        · exact absurd (h.d9_8 hz) (by simp)
      subst z9
      have y0 := h.d7_0 rfl
      subst y0
      have y3 := h.d7_3 rfl
      subst y3
      have y6 := h.d7_6 rfl
      subst y6
      obtain ⟨a1, c1, e1⟩ := row_shape (h.pool.rowAt (i := 4) rfl)
      obtain ⟨a2, c2, e2⟩ := row_shape (h.pool.rowAt (i := 5) rfl)
      obtain ⟨m7, e0⟩ : ∃ m7, u7 = .map (some m7) := ⟨_, h.m7 rfl⟩
      refine wpOp_run (v := .pointer (some ⟨x.heap.size, 0, none⟩)) (w' := x.alloc (.cells #[u7, u10, u13] 65)) (by rfl) (by rfl) ?_ (hK _ _ ⟨true, l1, l2, true, l4, l5, true, true, true, false, u3, u7, u8, u9, u10, u11, u12, u13, u14, (.pointer (some ⟨x.heap.size, 0, none⟩)), rfl, rfl, { h with q15 := (fun _ => rfl), q3 := (fun z => by cases z), pool := (h.pool.newBlk (i := 1) rfl [u7, u10, u13] 65), d8_7 := fun _ => rfl, d8_0 := fun _ => h.d7_0 rfl, d8_3 := fun _ => h.d7_3 rfl, d8_6 := fun _ => h.d7_6 rfl, d9_8 := fun _ => rfl }⟩)
      rw [h.q14 rfl, e0, e1, e2]
      go_simp
    · have e : l9 = false := hl
      subst e
      have d0 : l0 = true := ready_on hi 0 (by kernel_rfl)
      subst d0
      have d1 : l1 = true := ready_on hi 1 (by kernel_rfl)
      subst d1
      have d2 : l2 = true := ready_on hi 2 (by kernel_rfl)
      subst d2
      have d3 : l3 = true := ready_on hi 3 (by kernel_rfl)
      subst d3
      have d4 : l4 = true := ready_on hi 4 (by kernel_rfl)
      subst d4
      have d5 : l5 = true := ready_on hi 5 (by kernel_rfl)
      subst d5
      have d6 : l6 = true := ready_on hi 6 (by kernel_rfl)
      subst d6
      have d7 : l7 = true := ready_on hi 7 (by kernel_rfl)
      subst d7
      have d8 : l8 = true := ready_on hi 8 (by kernel_rfl)
      subst d8
      refine wpOp_run (v := u15) (w' := x) (by rfl) (by rfl) ?_ (hK _ _ ⟨true, true, true, true, true, true, true, true, true, true, (u15), u7, u8, u9, u10, u11, u12, u13, u14, u15, rfl, rfl, { h with q3 := (fun _ => rfl), d9_8 := fun _ => rfl }⟩)
      go_simp
  · rintro L act x ⟨l0, l1, l2, l3, l4, l5, l6, l7, l8, l9, u3, u7, u8, u9, u10, u11, u12, u13, u14, u15, rfl, rfl, h⟩ hr
    have hall := ready_all hr rfl (by decide)
    have t0 : l0 = true := hall 0 (by decide)
    have t1 : l1 = true := hall 1 (by decide)
    have t2 : l2 = true := hall 2 (by decide)
    have t3 : l3 = true := hall 3 (by decide)
    have t4 : l4 = true := hall 4 (by decide)
    have t5 : l5 = true := hall 5 (by decide)
    have t6 : l6 = true := hall 6 (by decide)
    have t7 : l7 = true := hall 7 (by decide)
    have t8 : l8 = true := hall 8 (by decide)
    have t9 : l9 = true := hall 9 (by decide)
    subst t0 t1 t2 t3 t4 t5 t6 t7 t8 t9
    clear hall hr
    have hp := h.pool
    have e15 := h.q15 rfl
    have e3 := h.q3 rfl
    have e0 := h.m7 rfl
    obtain ⟨a1, c1, e1⟩ := row_shape (h.pool.rowAt (i := 4) rfl)
    obtain ⟨a2, c2, e2⟩ := row_shape (h.pool.rowAt (i := 5) rfl)
    obtain ⟨q, hq⟩ : ∃ q, q = ptB u15 := ⟨_, rfl⟩
    obtain ⟨m, hm⟩ : ∃ m, m = mpB u7 := ⟨_, rfl⟩
    obtain ⟨ps, hps⟩ : ∃ ps : List Nat, ps = [] := ⟨_, rfl⟩
    rw [← hm] at hp e0
    rw [← hq] at hp e15
    subst e1 e2 e0 e3
    have HPZ : Hid (BoS w ⟨aa, ca, ha, ch, sa, cs⟩ D q m a1 c1 a2 c2 ps 0 x) := hide (by rw [hps]; exact hp)
    have HPL : Hid (ps.length = 0) := hide (by rw [hps]; rfl)
    rw [e15]
    clear h hp e15 hq hm hps
    refine hK0 _ _ ?_
    have d0 := (HPZ.out.blkAt (i := 0) rfl).c 0 _ rfl
    go_wp2_with fail
    go_loopw [19] (fun iv wr => ∃ (k : Nat) (ps : List Nat), k ≤ D.acc.length ∧ iv = .int .i64 (k : Int) ∧ ps.length = k ∧ Hid (BoS w ⟨aa, ca, ha, ch, sa, cs⟩ D q m a1 c1 a2 c2 ps k wr)) (fun iv wr => D.acc.length - (intOf iv).toNat)
    case atStart => exact ⟨0, ps, Nat.zero_le _, rfl, HPL.out, HPZ⟩
    case round =>
      clear HPZ HPL d0 ps
      obtain ⟨k, ps, hk, rfl, hpl, HPr⟩ := hrel
      have HPS : Hid _ := hide hpl
      clear hpl
      by_cases hlt : k < D.acc.length
      · have hlt' : (k : Int) < (D.acc.length : Int) := by omega
        obtain ⟨b2, off2, rfl, hb2, z0, z1, z2, z3⟩ := acc_row (HL.out.acc.row.below HPr.out.below) k hlt
        go_upto_region 6 with fail
        rename_i K1 hK1
        obtain ⟨W2, hW2⟩ : ∃ W2, W2 = (wr.alloc (.cells (accCells D.acc[k]).toArray 37)).alloc (.cells (accCells D.acc[k]).toArray 37) := ⟨_, rfl⟩
        have HPw : Hid (Pool [] w [[blk w.heap.size (ledC ⟨some ⟨b2, off2, none⟩, ca, ha, ch, sa, cs⟩ D)], [blk q [.map (some m), .slice a1 D.hold.length c1, .slice a2 D.seen.length c2]], [mapR m ((D.acc.take k).map Acc.name) ps], (accB' ps (D.acc.take k)), [row 71 4 (.slice a1 D.hold.length c1) D.hold.length (D.hold.flatMap hldCells)], [row 47 2 (.slice a2 D.seen.length c2) D.seen.length (D.seen.flatMap snCells)], [blk wr.heap.size (accCells D.acc[k])], [blk (wr.heap.size + 1) (accCells D.acc[k])]] W2) := hide (by
          have z0 := HPr.out
          unfold BoS at z0
          have z := (z0.newBlk (i := 6) rfl (accCells D.acc[k]) 37).newBlk (i := 7) rfl (accCells D.acc[k]) 37
          rw [← hW2, World.size_alloc] at z
          exact z)
        have HW2 : Hid (_ = W2) := hide hW2.symm
        clear hW2 HPr z0 z1 z2 z3
        unfold accCells at HW2
        rw [HW2.out]
        refine wp_region_inv (by kernel_rfl) (fun L act x => ∃ l0 l1 l2 l3 l4 l5 l6 : Bool, ∃ u24 u25 u26 u27 u28 u29 : Value, L = #[l0, l1, l2, l3, l4, l5, l6] ∧ act = { tmps := #[Value.agg #[Value.slice (some { block := b2, off := off2 }) D.acc.length ca, Value.slice ha D.hold.length ch, Value.slice sa D.seen.length cs], Value.pointer (some { block := w.heap.size, off := 0 }), Value.pointer none, Value.pointer (some { block := q, off := 0 }), undef, Value.pointer (some { block := wr.heap.size, off := 0 }), Value.pointer (some { block := wr.heap.size + 1, off := 0 }), Value.map (some m), u8, u9, Value.slice a1 D.hold.length c1, u11, u12, Value.slice a2 D.seen.length c2, u14, Value.pointer (some { block := q, off := 0 }), Value.pointer (some { block := w.heap.size, off := 0 }), Value.slice (some { block := b2, off := off2 }) D.acc.length ca, Value.int IntKind.i64 ↑D.acc.length, Value.int IntKind.i64 ↑k, Value.bool true, Value.pointer (some { block := b2, off := off2 + k * 4 }), Value.agg #[Value.string D.acc[k].name, Value.string D.acc[k].cur, Value.int IntKind.i64 D.acc[k].limit, Value.int IntKind.i64 D.acc[k].posted], Value.agg #[Value.string D.acc[k].name, Value.string D.acc[k].cur, Value.int IntKind.i64 D.acc[k].limit, Value.int IntKind.i64 D.acc[k].posted], u24, u25, u26, u27, u28, u29, u30, undef], defers := [] } ∧ BoG ⟨some ⟨b2, off2, none⟩, ca, ha, ch, sa, cs⟩ D w q m a1 c1 a2 c2 ps k hlt wr.heap.size l0 l1 l2 l3 l4 l5 l6 u24 u25 u26 u27 u28 u29 x) ?_ ?_ ?_
        rotate_left 2
        · exact ⟨false, false, false, false, false, false, false, (u24), (u25), (u26), (u27), (u28), (u29), rfl, rfl, ⟨HPw.out.drew, fun q => (by cases q), fun q => (by cases q), fun q => (by cases q), fun q => (by cases q), fun q => (by cases q), fun q => (by cases q)⟩⟩
        · rintro L act x i ⟨l0, l1, l2, l3, l4, l5, l6, u24, u25, u26, u27, u28, u29, rfl, rfl, h⟩ hi K hK
          have hi15 : i < 7 := by
            obtain ⟨_, o, ho, _⟩ := mem_ready.1 hi
            exact (Array.getElem?_eq_some_iff.1 ho).1
          have hl := (mem_ready.1 hi).1
          obtain rfl | rfl | rfl | rfl | rfl | rfl | rfl := (by omega : i = 0 ∨ i = 1 ∨ i = 2 ∨ i = 3 ∨ i = 4 ∨ i = 5 ∨ i = 6)
          · have e : l0 = false := hl
            subst e
            refine wpOp_run (v := .pointer (some ⟨q, 0, none⟩)) (w' := x) (by rfl) (by rfl) ?_ (hK _ _ ⟨true, l1, l2, l3, l4, l5, l6, (.pointer (some ⟨q, 0, none⟩)), u25, u26, u27, u28, u29, rfl, rfl, { h with p24 := fun _ => rfl }⟩)
            go_simp
          · have e : l1 = false := hl
            subst e
            have d0 : l0 = true := ready_on hi 0 (by kernel_rfl)
            subst d0
            refine wpOp_run (v := .pointer (some ⟨q, 0, none⟩)) (w' := x) (by rfl) (by rfl) ?_ (hK _ _ ⟨true, true, l2, l3, l4, l5, l6, u24, (.pointer (some ⟨q, 0, none⟩)), u26, u27, u28, u29, rfl, rfl, { h with p25 := fun _ => rfl }⟩)
            rw [h.p24 rfl]
            go_simp
          · have e : l2 = false := hl
            subst e
            have d1 : l1 = true := ready_on hi 1 (by kernel_rfl)
            subst d1
            refine wpOp_run (v := .pointer (some ⟨q, 0, none⟩)) (w' := x) (by rfl) (by rfl) ?_ (hK _ _ ⟨l0, true, true, l3, l4, l5, l6, u24, u25, (.pointer (some ⟨q, 0, none⟩)), u27, u28, u29, rfl, rfl, { h with p26 := fun _ => rfl }⟩)
            rw [h.p25 rfl]
            go_simp
          · have e : l3 = false := hl
            subst e
            have d2 : l2 = true := ready_on hi 2 (by kernel_rfl)
            subst d2
            have c0 : x.cell? ⟨q, 0, none⟩ = some (.map (some m)) := (h.pool.blkAt (i := 1) rfl).c 0 _ rfl
            refine wpOp_run (v := .map (some m)) (w' := x) (by rfl) (by rfl) ?_ (hK _ _ ⟨l0, l1, true, true, l4, l5, l6, u24, u25, u26, (.map (some m)), u28, u29, rfl, rfl, { h with p27 := fun _ => rfl }⟩)
            rw [h.p26 rfl]
            go_simp
          · have e : l4 = false := hl
            subst e
            refine wpOp_run (v := .pointer (some ⟨wr.heap.size, 0, none⟩)) (w' := x) (by rfl) (by rfl) ?_ (hK _ _ ⟨l0, l1, l2, l3, true, l5, l6, u24, u25, u26, u27, (.pointer (some ⟨wr.heap.size, 0, none⟩)), u29, rfl, rfl, { h with p28 := fun _ => rfl }⟩)
            go_simp
          · have e : l5 = false := hl
            subst e
            have d4 : l4 = true := ready_on hi 4 (by kernel_rfl)
            subst d4
            have c0 : x.cell? ⟨wr.heap.size, 0, none⟩ = some (.string D.acc[k].name) := (h.pool.blkAt (i := 6) rfl).c 0 _ rfl
            refine wpOp_run (v := .string D.acc[k].name) (w' := x) (by rfl) (by rfl) ?_ (hK _ _ ⟨l0, l1, l2, l3, true, true, l6, u24, u25, u26, u27, u28, (.string D.acc[k].name), rfl, rfl, { h with p29 := fun _ => rfl }⟩)
            rw [h.p28 rfl]
            go_simp
          · have e : l6 = false := hl
            subst e
            have d0 : l0 = true := ready_on hi 0 (by kernel_rfl)
            subst d0
            have d1 : l1 = true := ready_on hi 1 (by kernel_rfl)
            subst d1
            have d2 : l2 = true := ready_on hi 2 (by kernel_rfl)
            subst d2
            have d3 : l3 = true := ready_on hi 3 (by kernel_rfl)
            subst d3
            have d4 : l4 = true := ready_on hi 4 (by kernel_rfl)
            subst d4
            have d5 : l5 = true := ready_on hi 5 (by kernel_rfl)
            subst d5
            obtain ⟨y, hr, hp⟩ := h.pool.putMap (i := 2) rfl (by have e := HPS.out; simp only [List.length_map, List.length_take]; omega) (by unfold maxLen; simp only [List.length_map, List.length_take]; omega) (HL.out.acc.wf _ (List.getElem_mem hlt)).1 (names_off HD.out k hlt) (wr.heap.size + 1)
            refine wpOp_skip (w' := y) (by rfl) (by rfl) ?_ (hK _ _ ⟨true, true, true, true, true, true, true, u24, u25, u26, u27, u28, u29, rfl, rfl, { h with pool := (hp) }⟩)
            exact exec_mapU rfl (h.p27 rfl) (h.p29 rfl) rfl hr
        · rintro L act x ⟨l0, l1, l2, l3, l4, l5, l6, u24, u25, u26, u27, u28, u29, rfl, rfl, h⟩ hr
          have hall := ready_all hr rfl (by decide)
          have t0 : l0 = true := hall 0 (by decide)
          have t1 : l1 = true := hall 1 (by decide)
          have t2 : l2 = true := hall 2 (by decide)
          have t3 : l3 = true := hall 3 (by decide)
          have t4 : l4 = true := hall 4 (by decide)
          have t5 : l5 = true := hall 5 (by decide)
          have t6 : l6 = true := hall 6 (by decide)
          subst t0 t1 t2 t3 t4 t5 t6
          clear hall hr
          have hp := h.pool.drop (i := 6) rfl
          have HPn : Hid (BoS w ⟨some ⟨b2, off2, none⟩, ca, ha, ch, sa, cs⟩ D q m a1 c1 a2 c2 (ps ++ [wr.heap.size + 1]) (k + 1) x) := hide (by
            unfold BoS
            rw [take_next _ _ hlt, List.map_append, accB'_snoc _ _ _ _ (by have e := HPS.out; rw [List.length_take]; omega)]
            refine hp.perm ?_
            simp only [List.set, List.flatten_cons, List.flatten_nil, List.append_nil, List.nil_append, List.cons_append, List.append_assoc, List.map_cons, List.map_nil, cond]
            refine List.Perm.cons _ (List.Perm.cons _ (List.Perm.cons _ (List.Perm.append_left _ ?_)))
            exact (List.Perm.cons _ (List.Perm.swap _ _ _)).trans (List.Perm.swap _ _ _))
          have HPL : Hid ((ps ++ [wr.heap.size + 1]).length = k + 1) := hide (by have e := HPS.out; simp only [List.length_append, List.length_cons, List.length_nil]; omega)
          clear h hp
          refine hK1 _ _ ?_
          go_wp2
          exact ⟨⟨k + 1, _, by omega, by go_num, HPL.out, HPn⟩, by simp [intOf]; omega⟩
      · have hlt' : ¬ (k : Int) < (D.acc.length : Int) := by omega
        obtain rfl : k = D.acc.length := by omega
        have HPf : Hid _ := hide HPr.out
        go_wp2
        go_ret
        exact ⟨q, m, ps, .slice a1 D.hold.length c1, .slice a2 D.seen.length c2, rfl, HPS.out, (by
          have z := HPf.out
          unfold BoS at z
          rw [List.take_length] at z
          exact (z.drop (i := 0) rfl).cast (by simp [bkS]))⟩
end Go.Proofs.YtjjoeajnhblacaaGreatDoor
