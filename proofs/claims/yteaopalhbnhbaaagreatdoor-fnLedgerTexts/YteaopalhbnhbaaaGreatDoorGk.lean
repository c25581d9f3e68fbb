/- The book of the program as what a call owns. -/
import Derived.Test.YteaopalhbnhbaaaGreatDoorLSe
import Derived.Test.YteaopalhbnhbaaaGreatDoorGd
import Derived.Test.YteaopalhbnhbaaaGreatDoorLMv
import Derived.Test.YteaopalhbnhbaaaGreatDoorGb
import Derived.Shelf.SlSortCmp.WholeK
import Derived.Shelf.SlGeneric
import Derived.Ground.SlsfProg
import Derived.Test.YteaopalhbnhbaaaGreatDoorGa
import Derived.WalkKit
import Derived.LaidEql
import Derived.Stop.Asserts
import Derived.RowKitTokens
import Derived.Lib.SliceRun
import Derived.Deep.RegionLaw
import Derived.Lib.Overlaps
import Derived.Lib.AppendZerosOnto
import Derived.Laws.Externs
import Derived.Laws.CopyRow
import Derived.Laws.NewBlocks
import Derived.Shelf.SlIter.Nil
import Derived.Shelf.SortM.Plain
import Derived.Shelf.SortM.SortNone
import Derived.Ground.GgzProg
import Derived.Ground.SlgmProg
import Derived.Test.YteaopalhbnhbaaaGreatDoorProg
import Derived.Test.YteaopalhbnhbaaaGreatDoorLAp
import Derived.Test.YteaopalhbnhbaaaGreatDoorGc
import Derived.Sort.KeysCollected
namespace Go.Proofs.YteaopalhbnhbaaaGreatDoor
open Go.ChangeShapes Go.WideShapes Go.ChangeAt Go.RowKit Go.Maps
set_option linter.unusedVariables false
set_option maxRecDepth 100000
set_option maxHeartbeats 2000000 in
theorem cloneS_own (a : Option Addr) (l : List Sn) (cap : Nat) (w : World) (hl : l.length ≤ 1048576) (hc : a = none → cap = 0) (h : RowAt 2 snCells w a l) :
    Calls Tryz.prog 73 #[.slice a l.length cap] w fun e w' => Below w.heap.size w w' ∧ ∃ v, e = .returned v ∧ w'.ownsRow w.heap.size 55 2 v l.length (l.flatMap snCells) := by
  obtain ⟨i0, hi0, hz0, hz1, hz2⟩ := info_parts infoSn
  have hu : Tryz.prog.underlying 26 = some (.slice 55) := by kernel_rfl
  have HN : Hid _ := hide (h.news_any snLen (by decide))
  cases a with
  | none =>
    have e0 : l = [] := List.eq_nil_of_length_eq_zero (row_none h rfl)
    subst e0
    obtain rfl := hc rfl
    clear h
    have he : ∀ w : World, (binOp .eql 26 (.slice none 0 0) (.slice none 0 0)).run Tryz.prog w = .ok (.bool true) w := fun _ => rfl
    go_enter Tryz.func73, Tryz.ntmps73
    go_wp2
    go_ret
    exact ⟨Below.refl _ _, _, rfl, ⟨by simp, .inl ⟨rfl, rfl⟩⟩⟩
  | some ad =>
    clear h
    have he : ∀ w : World, (binOp .eql 26 (.slice (some ad) l.length cap) (.slice none 0 0)).run Tryz.prog w = .ok (.bool false) w := fun _ => rfl
    go_enter Tryz.func73, Tryz.ntmps73
    go_wp2_with (first | (at_builtin; refine Shut2.mk ?_) | go_in)
    refine Shut2.mk' ?_
    refine wpList_append_own_at _ rfl _ _ 26 rfl w.heap.size 55 i0 _ 2 16 hu hi0 hz0 hz1 hz2 rfl (by decide) _ 0 [] rfl ?own ad l.length cap (l.flatMap snCells) rfl (flat_len snCells 2 snLen l) ?news (sn_one l) (by unfold maxLen; omega) (by omega) ?base ?_
    case own => exact World.ownsRow_made w #[] 0 (Nat.le_refl _) (by unfold maxLen; omega) rfl
    case news => exact fun j u hj => (World.grownBy_alloc w _ none).cell (HN.out ad rfl j u hj) (by simp)
    case base => simp
    intro v' w1 hown' hgrow hnil hloc
    have HB : Hid (Below w.heap.size w w1) := hide (below_grown hgrow (below_alloc (Below.refl _ _) _) (fun j hj => by cases hj; exact Nat.le_refl _))
    have HO : Hid _ := hide hown'
    clear hown' hgrow hnil hloc
    go_wp2
    go_ret
    have ho := HO.out
    rw [List.nil_append, Nat.zero_add] at ho
    exact ⟨HB.out, v', rfl, ho⟩
set_option maxHeartbeats 2000000 in
theorem cloneH_own (a : Option Addr) (l : List Hld) (cap : Nat) (w : World) (hl : l.length ≤ 1048576) (hc : a = none → cap = 0) (h : RowAt 4 hldCells w a l) :
    Calls Tryz.prog 72 #[.slice a l.length cap] w fun e w' => Below w.heap.size w w' ∧ ∃ v, e = .returned v ∧ w'.ownsRow w.heap.size 53 4 v l.length (l.flatMap hldCells) := by
  obtain ⟨i0, hi0, hz0, hz1, hz2⟩ := info_parts infoHld
  have hu : Tryz.prog.underlying 25 = some (.slice 53) := by kernel_rfl
  have HN : Hid _ := hide (h.news_any hldLen (by decide))
  cases a with
  | none =>
    have e0 : l = [] := List.eq_nil_of_length_eq_zero (row_none h rfl)
    subst e0
    obtain rfl := hc rfl
    clear h
    have he : ∀ w : World, (binOp .eql 25 (.slice none 0 0) (.slice none 0 0)).run Tryz.prog w = .ok (.bool true) w := fun _ => rfl
    go_enter Tryz.func72, Tryz.ntmps72
    go_wp2
    go_ret
    exact ⟨Below.refl _ _, _, rfl, ⟨by simp, .inl ⟨rfl, rfl⟩⟩⟩
  | some ad =>
    clear h
    have he : ∀ w : World, (binOp .eql 25 (.slice (some ad) l.length cap) (.slice none 0 0)).run Tryz.prog w = .ok (.bool false) w := fun _ => rfl
    go_enter Tryz.func72, Tryz.ntmps72
    go_wp2_with (first | (at_builtin; refine Shut2.mk ?_) | go_in)
    refine Shut2.mk' ?_
    refine wpList_append_own_at _ rfl _ _ 25 rfl w.heap.size 53 i0 _ 4 48 hu hi0 hz0 hz1 hz2 rfl (by decide) _ 0 [] rfl ?own ad l.length cap (l.flatMap hldCells) rfl (flat_len hldCells 4 hldLen l) ?news (hld_one l) (by unfold maxLen; omega) (by omega) ?base ?_
    case own => exact World.ownsRow_made w #[] 0 (Nat.le_refl _) (by unfold maxLen; omega) rfl
    case news => exact fun j u hj => (World.grownBy_alloc w _ none).cell (HN.out ad rfl j u hj) (by simp)
    case base => simp
    intro v' w1 hown' hgrow hnil hloc
    have HB : Hid (Below w.heap.size w w1) := hide (below_grown hgrow (below_alloc (Below.refl _ _) _) (fun j hj => by cases hj; exact Nat.le_refl _))
    have HO : Hid _ := hide hown'
    clear hown' hgrow hnil hloc
    go_wp2
    go_ret
    have ho := HO.out
    rw [List.nil_append, Nat.zero_add] at ho
    exact ⟨HB.out, v', rfl, ho⟩
/-- what a map of names to blocks has -/
structure MapKs (D : DataW Unit) (ns : List ByteArray) (ps : List Nat) : Prop where
  size : Maps.size D = ns.length
  at_ : ∀ i (h : i < ns.length), ∀ z, D.atKey (kn ns[i]) z = ptrD (ps.getD i 0)
  only : ∀ kl, Maps.has D kl = true → ∃ i, ∃ h : i < ns.length, kl = kn ns[i]
/-- the map's block -/
def mapR (m : Nat) (ns : List ByteArray) (ps : List Nat) : Rs := ⟨[m], fun x => ∃ D, x.ownsMap Tryz.prog 9 ptrElem m ns.length D ∧ MapKs D ns ps, fun x y e h => by
  obtain ⟨D, ⟨es, clock, hb, r⟩, k⟩ := h
  exact ⟨D, ⟨es, clock, (e m (by simp)).trans hb, r⟩, k⟩⟩
theorem mapR_fp (m : Nat) (ns : List ByteArray) (ps : List Nat) : (mapR m ns ps).fp = [m] := rfl
theorem mapKs_nil : MapKs (.map []) [] [] := ⟨rfl, fun i h => by simp at h, fun kl h => by simp [Maps.has] at h⟩
theorem MapKs.put {D : DataW Unit} {ns : List ByteArray} {ps : List Nat} (h : MapKs D ns ps) (hl : ps.length = ns.length) (ht : Maps.Tidy D) (hm : Maps.IsMap D) {nm : ByteArray} (hn : ∀ n ∈ ns, n ≠ nm) (p : Nat) : MapKs (D.put (kn nm) (ptrD p)) (ns ++ [nm]) (ps ++ [p]) := by
  have hno : Maps.has D (kn nm) = false := by
    rw [Bool.eq_false_iff]
    intro q
    obtain ⟨i, hi, e⟩ := h.only _ q
    exact hn _ (List.getElem_mem hi) (kn_inj e).symm
  refine ⟨by rw [Maps.size_put ht, hno, h.size]; simp, fun i hi z => ?_, fun kl hk => ?_⟩
  · rcases Nat.lt_or_ge i ns.length with q | q
    · rw [List.getElem_append_left q, atKey_put_other (fun e => hn _ (List.getElem_mem q) (kn_inj e))]
      rw [h.at_ i q z]
      congr 1
      simp [List.getElem?_append_left (show i < ps.length by omega)]
    · obtain rfl : i = ns.length := by simp at hi; omega
      rw [show (ns ++ [nm])[ns.length] = nm by simp, atKey_put_same hm (kn_key _)]
      congr 1
      simp [← hl]
  · by_cases e : kl = kn nm
    · exact ⟨ns.length, by simp, by simp [e]⟩
    · rw [has_put_other e] at hk
      obtain ⟨i, hi, rfl⟩ := h.only kl hk
      exact ⟨i, by simp; omega, by rw [List.getElem_append_left hi]⟩
def accB' (ps : List Nat) (l : List Acc) : List Rs := (List.zip ps l).map (fun x => blk x.1 (accCells x.2))
def mpB : Value → Nat
  | .map (some m) => m
  | _ => 0
/-- a book of the call's own -/
def bkS (q m : Nat) (ps : List Nat) (hv sv : Value) (A : List Acc) (H : List Hld) (S : List Sn) : List (List Rs) := [[blk q [.map (some m), hv, sv]], [mapR m (A.map Acc.name) ps], accB' ps A, [row 53 4 hv H.length (H.flatMap hldCells)], [row 55 2 sv S.length (S.flatMap snCells)]]
def BkEnd (D : Led) (w : World) (e : Ending) (w' : World) : Prop := ∃ (q m : Nat) (ps : List Nat) (hv sv : Value), e = .returned (.pointer (some ⟨q, 0, none⟩)) ∧ ps.length = D.acc.length ∧ Pool [] w (bkS q m ps hv sv D.acc D.hold D.seen) w'
theorem Pool.newMap {F : List Nat} {w x : World} {S : List (List Rs)} (h : Pool F w S x) {i : Nat} (hi : S[i]? = some []) : Pool F w (S.set i [mapR x.heap.size [] []]) (x.alloc (.map #[] 0)) :=
  h.new hi (below_alloc (Below.refl _ _) _) (Star.one ⟨_, World.ownsMap_made _ _ _ _, mapKs_nil⟩ (by simp [mapR]) (fun b hb => by simp only [mapR, List.mem_singleton] at hb; subst hb; simp)) (fun c hc => by simp only [fps_one, mapR, List.mem_singleton] at hc; omega)
/-- an account more in the map -/
theorem Pool.putMap {F : List Nat} {w x : World} {S : List (List Rs)} (h : Pool F w S x) {i m : Nat} {ns : List ByteArray} {ps : List Nat} (hi : S[i]? = some [mapR m ns ps]) (hl : ps.length = ns.length) (hs : ns.length < maxLen) {nm : ByteArray} (hz : nm.size ≤ maxLen) (hn : ∀ n ∈ ns, n ≠ nm) (p : Nat) :
    ∃ y, (Instr.mapUpdate 100 (.map (some m)) (.string nm) (.pointer (some ⟨p, 0, none⟩))).run Tryz.prog x = .ok () y ∧ Pool F w (S.set i [mapR m (ns ++ [nm]) (ps ++ [p])]) y := by
  obtain ⟨D, ho, hk⟩ := (h.get hi).get (r := mapR m ns ps) (by simp)
  obtain ⟨y, hrun, ho2, hg⟩ := ho.update (t := 100) (e := 105) law9 u64 hs (kn_of hz) (ptr_mk p)
  refine ⟨y, hrun, h.step hi (Fr.grown hg |>.mono (fun b hb => .inl (by simpa [fps, mapR] using hb))) (Star.one ⟨_, by simpa using ho2, hk.put hl (ho.tidy law9) (ho.tidy law9).isMap hn p⟩ (by simp [mapR]) (fun b hb => ?_)) (fun b hb => .inl (by simpa [fps, mapR] using hb))⟩
  simp only [mapR, List.mem_singleton] at hb
  subst hb
  have q := (h.get hi).lt b (by simp [fps, mapR])
  exact Nat.lt_of_lt_of_le q hg.size
theorem accB'_snoc (ps : List Nat) (l : List Acc) (p : Nat) (x : Acc) (h : ps.length = l.length) : accB' (ps ++ [p]) (l ++ [x]) = accB' ps l ++ [blk p (accCells x)] := by
  unfold accB'; rw [List.zip_append h]; simp
/-- the book while it is made: its first k accounts -/
def BoS (w : World) (p : LP) (D : Led) (q m : Nat) (a1 : Option Addr) (c1 : Nat) (a2 : Option Addr) (c2 : Nat) (ps : List Nat) (k : Nat) (x : World) : Prop := Pool [] w [[blk w.heap.size (ledC p D)], [blk q [.map (some m), .slice a1 D.hold.length c1, .slice a2 D.seen.length c2]], [mapR m ((D.acc.take k).map Acc.name) ps], (accB' ps (D.acc.take k)), [row 53 4 (.slice a1 D.hold.length c1) D.hold.length (D.hold.flatMap hldCells)], [row 55 2 (.slice a2 D.seen.length c2) D.seen.length (D.seen.flatMap snCells)], [], []] x
theorem Pool.newRowB {F : List Nat} {w x y : World} {S : List (List Rs)} (h : Pool F w S x) {i : Nat} (hi : S[i]? = some []) {T : TypeId} {sz n : Nat} {v : Value} {xs : List Value} (hb : Below x.heap.size x y) (ho : y.ownsRow x.heap.size T sz v n xs) : Pool F w (S.set i [row T sz v n xs]) y :=
  h.new hi hb (Star.ofRow ho) (fun c hc => by
    rw [fps_one, row_fp, Option.mem_toList] at hc
    exact (ho.lt c hc).1)
structure BoF (p : LP) (D : Led) (s : Nat) (w : World) (l0 l1 l2 l3 l4 l5 l6 l7 l8 l9 : Bool) (u3 u7 u8 u9 u10 u11 u12 u13 u14 u15 : Value) (x : World) : Prop where
  pool : Pool [] w [[blk s (ledC p D)], cond l8 [blk (ptB u15) [u7, u10, u13]] [], cond l0 [mapR (mpB u7) [] []] [], [], cond l3 [row 53 4 u10 D.hold.length (D.hold.flatMap hldCells)] [], cond l6 [row 55 2 u13 D.seen.length (D.seen.flatMap snCells)] [], [], []] x
  m7 : l0 = true → u7 = .map (some (mpB u7))
  q14 : l7 = true → u14 = .agg #[u7, u10, u13]
  q15 : l8 = true → u15 = .pointer (some ⟨ptB u15, 0, none⟩)
  q3 : l9 = true → u3 = u15
  d7_0 : l7 = true → l0 = true
  d7_3 : l7 = true → l3 = true
  d7_6 : l7 = true → l6 = true
  d8_7 : l8 = true → l7 = true
  d8_0 : l8 = true → l0 = true
  d8_3 : l8 = true → l3 = true
  d8_6 : l8 = true → l6 = true
  d9_8 : l9 = true → l8 = true
  p8 : l1 = true → u8 = .pointer (some ⟨s, 1, none⟩)
  p11 : l4 = true → u11 = .pointer (some ⟨s, 2, none⟩)
  p9 : l2 = true → u9 = .slice p.ha D.hold.length p.ch
  p12 : l5 = true → u12 = .slice p.sa D.seen.length p.cs
theorem exec_mapU {P : Program} {w w' : World} {o : Oper} {ev : Operand → Value} {mm kk vv : Operand} {t : TypeId} {a b c : Value} (hop : o.op = Op.mapUpdate t mm kk vv) (h1 : ev mm = a) (h2 : ev kk = b) (h3 : ev vv = c) (hr : (Instr.mapUpdate t a b c).run P w = .ok () w') : (execOp ev o).run P w = .ok .skip w' := by
  unfold execOp
  simp only [hop, Sem.run_bind, Sem.run_pure, h1, h2, h3, hr, Result.andThen_ok]
theorem names_off {l : List Acc} (hd : ∀ i j (hi : i < l.length) (hj : j < l.length), i < j → l[i].name ≠ l[j].name) (k : Nat) (hk : k < l.length) : ∀ n ∈ (l.take k).map Acc.name, n ≠ l[k].name := by
  intro n hn
  rw [List.mem_map] at hn
  obtain ⟨x, hx, rfl⟩ := hn
  obtain ⟨i, hi, rfl⟩ := List.getElem_of_mem hx
  rw [List.length_take] at hi
  rw [List.getElem_take]
  exact hd i k (by omega) hk (by omega)
structure BoG (p : LP) (D : Led) (w : World) (q m : Nat) (a1 : Option Addr) (c1 : Nat) (a2 : Option Addr) (c2 : Nat) (ps : List Nat) (k : Nat) (hlt : k < D.acc.length) (W : Nat) (l0 l1 l2 l3 l4 l5 l6 : Bool) (u24 u25 u26 u27 u28 u29 : Value) (x : World) : Prop where
  pool : Pool [] w [[blk w.heap.size (ledC p D)], [blk q [.map (some m), .slice a1 D.hold.length c1, .slice a2 D.seen.length c2]], cond l6 [mapR m ((D.acc.take k).map Acc.name ++ [D.acc[k].name]) (ps ++ [W + 1])] [mapR m ((D.acc.take k).map Acc.name) ps], (accB' ps (D.acc.take k)), [row 53 4 (.slice a1 D.hold.length c1) D.hold.length (D.hold.flatMap hldCells)], [row 55 2 (.slice a2 D.seen.length c2) D.seen.length (D.seen.flatMap snCells)], [blk W (accCells D.acc[k])], [blk (W + 1) (accCells D.acc[k])]] x
  p24 : l0 = true → u24 = .pointer (some ⟨q, 0, none⟩)
  p25 : l1 = true → u25 = .pointer (some ⟨q, 0, none⟩)
  p26 : l2 = true → u26 = .pointer (some ⟨q, 0, none⟩)
  p27 : l3 = true → u27 = .map (some m)
  p28 : l4 = true → u28 = .pointer (some ⟨W, 0, none⟩)
  p29 : l5 = true → u29 = .string D.acc[k].name
set_option maxHeartbeats 4000000 in
theorem bookOf_pool (p : LP) (D : Led) (w : World) (g1 : D.acc.length ≤ 12) (g2 : D.hold.length ≤ 10) (g3 : D.seen.length ≤ 40) (hpk : PlOk p D) (h : LedAt w p.aa p.ha p.sa D) (hd : ∀ i j (hi : i < D.acc.length) (hj : j < D.acc.length), i < j → D.acc[i].name ≠ D.acc[j].name) :
    Calls Tryz.prog 30 #[ledV p D] w fun e w' => BkEnd D w e w' := by
  obtain ⟨aa, ca, ha, ch, sa, cs⟩ := p
  have HL : Hid (LedAt w aa ha sa D) := hide h
  have HK : Hid _ := hide hpk
  have HD : Hid _ := hide hd
  obtain ⟨W1, hW1⟩ : ∃ W1, W1 = w.alloc (.cells #[.slice aa D.acc.length ca, .slice ha D.hold.length ch, .slice sa D.seen.length cs] 28) := ⟨_, rfl⟩
  have HP0 : Hid (Pool [] w [[blk w.heap.size (ledC ⟨aa, ca, ha, ch, sa, cs⟩ D)], [], [], [], [], [], [], []] W1) := hide (by rw [hW1]; exact (Pool.start w [[], [], [], [], [], [], [], []] rfl).newBlk (i := 0) rfl (ledC ⟨aa, ca, ha, ch, sa, cs⟩ D) 28)
  have HW1 : Hid (_ = W1) := hide hW1.symm
  clear hW1 h hpk hd
  have hmm := @run_makeMap Tryz.prog
  unfold ledV
  simp only
  go_enter Tryz.func30, Tryz.ntmps30
  go_upto_region 1 with fail
  rw [HW1.out]
  rename_i K0 hK0
  refine wp_region_inv (by kernel_rfl) (fun L act x => ∃ l0 l1 l2 l3 l4 l5 l6 l7 l8 l9 : Bool, ∃ u3 u7 u8 u9 u10 u11 u12 u13 u14 u15 : Value, L = #[l0, l1, l2, l3, l4, l5, l6, l7, l8, l9] ∧ act = { tmps := #[Value.agg #[Value.slice aa D.acc.length ca, Value.slice ha D.hold.length ch, Value.slice sa D.seen.length cs], Value.pointer (some { block := w.heap.size, off := 0 }), Value.pointer none, u3, undef, undef, undef, u7, u8, u9, u10, u11, u12, u13, u14, u15, undef, undef, undef, undef, undef, undef, undef, undef, undef, undef, undef, undef, undef, undef, undef, undef], defers := [] } ∧ BoF ⟨aa, ca, ha, ch, sa, cs⟩ D w.heap.size w l0 l1 l2 l3 l4 l5 l6 l7 l8 l9 u3 u7 u8 u9 u10 u11 u12 u13 u14 u15 x) ?_ ?_ ?_
  rotate_left 2
  · exact ⟨false, false, false, false, false, false, false, false, false, false, (undef), (undef), (undef), (undef), (undef), (undef), (undef), (undef), (undef), (undef), rfl, rfl, ⟨HP0.out.drew, fun q => (by cases q), fun q => (by cases q), fun q => (by cases q), fun q => (by cases q), fun q => (by cases q), fun q => (by cases q), fun q => (by cases q), fun q => (by cases q), fun q => (by cases q), fun q => (by cases q), fun q => (by cases q), fun q => (by cases q), fun q => (by cases q), fun q => (by cases q), fun q => (by cases q), fun q => (by cases q)⟩⟩
  · rintro L act x i ⟨l0, l1, l2, l3, l4, l5, l6, l7, l8, l9, u3, u7, u8, u9, u10, u11, u12, u13, u14, u15, rfl, rfl, h⟩ hi K hK
    have hi15 : i < 10 := by
      obtain ⟨_, o, ho, _⟩ := mem_ready.1 hi
      exact (Array.getElem?_eq_some_iff.1 ho).1
    have hl := (mem_ready.1 hi).1
    obtain rfl | rfl | rfl | rfl | rfl | rfl | rfl | rfl | rfl | rfl := (by omega : i = 0 ∨ i = 1 ∨ i = 2 ∨ i = 3 ∨ i = 4 ∨ i = 5 ∨ i = 6 ∨ i = 7 ∨ i = 8 ∨ i = 9)
    · have e : l0 = false := hl
      subst e
      have z7 : l7 = false := by
        cases hz : l7
        · rfl
        · exact absurd (h.d7_0 hz) (by simp)
      subst z7
      have z8 : l8 = false := by
        cases hz : l8
        · rfl
        · exact absurd (h.d8_0 hz) (by simp)
      subst z8
      refine wpOp_run (v := .map (some x.heap.size)) (w' := x.alloc (.map #[] 0)) (by rfl) (by rfl) ?_ (hK _ _ ⟨true, l1, l2, l3, l4, l5, l6, false, false, l9, u3, (.map (some x.heap.size)), u8, u9, u10, u11, u12, u13, u14, u15, rfl, rfl, { h with m7 := (fun _ => rfl), q14 := (fun z => by cases z), pool := (h.pool.newMap (i := 2) rfl), d7_0 := fun _ => rfl, d8_0 := fun _ => rfl }⟩)
      go_simp
    · have e : l1 = false := hl
      subst e
      refine wpOp_run (v := .pointer (some ⟨w.heap.size, 1, none⟩)) (w' := x) (by rfl) (by rfl) ?_ (hK _ _ ⟨l0, true, l2, l3, l4, l5, l6, l7, l8, l9, u3, u7, (.pointer (some ⟨w.heap.size, 1, none⟩)), u9, u10, u11, u12, u13, u14, u15, rfl, rfl, { h with p8 := fun _ => rfl }⟩)
      go_simp
    · have e : l2 = false := hl
      subst e
      have d1 : l1 = true := ready_on hi 1 (by kernel_rfl)
      subst d1
      have c0 : x.cell? ⟨w.heap.size, 1, none⟩ = some (.slice ha D.hold.length ch) := (h.pool.blkAt (i := 0) rfl).c 1 _ rfl
      refine wpOp_run (v := .slice ha D.hold.length ch) (w' := x) (by rfl) (by rfl) ?_ (hK _ _ ⟨l0, true, true, l3, l4, l5, l6, l7, l8, l9, u3, u7, u8, (.slice ha D.hold.length ch), u10, u11, u12, u13, u14, u15, rfl, rfl, { h with p9 := fun _ => rfl }⟩)
      rw [h.p8 rfl]
      go_simp
    · have e : l3 = false := hl
      subst e
      have d2 : l2 = true := ready_on hi 2 (by kernel_rfl)
      subst d2
      have z7 : l7 = false := by
        cases hz : l7
        · rfl
        · exact absurd (h.d7_3 hz) (by simp)
      subst z7
      have z8 : l8 = false := by
        cases hz : l8
        · rfl
        · exact absurd (h.d8_3 hz) (by simp)
      subst z8
      refine wpOp_call (by rfl) (by rfl) ?_ (cloneH_own ha D.hold ch x (by omega) HK.out.h.nocap (HL.out.hold.row.below h.pool.below)) ?_
      · rw [h.p9 rfl]; go_simp
      · rintro e w' ⟨hb, v, rfl, ho⟩
        exact ⟨_, rfl, hK _ _ ⟨l0, l1, true, true, l4, l5, l6, false, false, l9, u3, u7, u8, u9, (v), u11, u12, u13, u14, u15, rfl, rfl, { h with q14 := (fun z => by cases z), pool := (h.pool.newRowB (i := 4) rfl hb ho), d7_3 := fun _ => rfl, d8_3 := fun _ => rfl }⟩⟩
    · have e : l4 = false := hl
      subst e
      refine wpOp_run (v := .pointer (some ⟨w.heap.size, 2, none⟩)) (w' := x) (by rfl) (by rfl) ?_ (hK _ _ ⟨l0, l1, l2, l3, true, l5, l6, l7, l8, l9, u3, u7, u8, u9, u10, (.pointer (some ⟨w.heap.size, 2, none⟩)), u12, u13, u14, u15, rfl, rfl, { h with p11 := fun _ => rfl }⟩)
      go_simp
    · have e : l5 = false := hl
      subst e
      have d4 : l4 = true := ready_on hi 4 (by kernel_rfl)
      subst d4
      have c0 : x.cell? ⟨w.heap.size, 2, none⟩ = some (.slice sa D.seen.length cs) := (h.pool.blkAt (i := 0) rfl).c 2 _ rfl
      refine wpOp_run (v := .slice sa D.seen.length cs) (w' := x) (by rfl) (by rfl) ?_ (hK _ _ ⟨l0, l1, l2, l3, true, true, l6, l7, l8, l9, u3, u7, u8, u9, u10, u11, (.slice sa D.seen.length cs), u13, u14, u15, rfl, rfl, { h with p12 := fun _ => rfl }⟩)
      rw [h.p11 rfl]
      go_simp
    · have e : l6 = false := hl
      subst e
      have d3 : l3 = true := ready_on hi 3 (by kernel_rfl)
      subst d3
      have d5 : l5 = true := ready_on hi 5 (by kernel_rfl)
      subst d5
      have z7 : l7 = false := by
        cases hz : l7
        · rfl
        · exact absurd (h.d7_6 hz) (by simp)
      subst z7
      have z8 : l8 = false := by
        cases hz : l8
        · rfl
        · exact absurd (h.d8_6 hz) (by simp)
      subst z8
      refine wpOp_call (by rfl) (by rfl) ?_ (cloneS_own sa D.seen cs x (by omega) HK.out.s.nocap (HL.out.seen.row.below h.pool.below)) ?_
      · rw [h.p12 rfl]; go_simp
      · rintro e w' ⟨hb, v, rfl, ho⟩
        exact ⟨_, rfl, hK _ _ ⟨l0, l1, l2, true, l4, true, true, false, false, l9, u3, u7, u8, u9, u10, u11, u12, (v), u14, u15, rfl, rfl, { h with q14 := (fun z => by cases z), pool := (h.pool.newRowB (i := 5) rfl hb ho), d7_6 := fun _ => rfl, d8_6 := fun _ => rfl }⟩⟩
    · have e : l7 = false := hl
      subst e
      have d0 : l0 = true := ready_on hi 0 (by kernel_rfl)
      subst d0
      have d3 : l3 = true := ready_on hi 3 (by kernel_rfl)
      subst d3
      have d6 : l6 = true := ready_on hi 6 (by kernel_rfl)
      subst d6
      have z8 : l8 = false := by
        cases hz : l8
        · rfl
        · exact absurd (h.d8_7 hz) (by simp)
      subst z8
      obtain ⟨a1, c1, e1⟩ := row_shape (h.pool.rowAt (i := 4) rfl)
      obtain ⟨a2, c2, e2⟩ := row_shape (h.pool.rowAt (i := 5) rfl)
      obtain ⟨m7, e0⟩ : ∃ m7, u7 = .map (some m7) := ⟨_, h.m7 rfl⟩
      refine wpOp_run (v := .agg #[u7, u10, u13]) (w' := x) (by rfl) (by rfl) ?_ (hK _ _ ⟨true, l1, l2, true, l4, l5, true, true, false, l9, u3, u7, u8, u9, u10, u11, u12, u13, (.agg #[u7, u10, u13]), u15, rfl, rfl, { h with q14 := (fun _ => rfl), d7_0 := fun _ => rfl, d7_3 := fun _ => rfl, d7_6 := fun _ => rfl, d8_7 := fun _ => rfl }⟩)
      rw [e0, e1, e2]
      go_simp
    · have e : l8 = false := hl
      subst e
      have d7 : l7 = true := ready_on hi 7 (by kernel_rfl)
      subst d7
      have z9 : l9 = false := by
        cases hz : l9
        · rfl
        · exact absurd (h.d9_8 hz) (by simp)
      subst z9
      have y0 := h.d7_0 rfl
      subst y0
      have y3 := h.d7_3 rfl
      subst y3
      have y6 := h.d7_6 rfl
      subst y6
      obtain ⟨a1, c1, e1⟩ := row_shape (h.pool.rowAt (i := 4) rfl)
      obtain ⟨a2, c2, e2⟩ := row_shape (h.pool.rowAt (i := 5) rfl)
      obtain ⟨m7, e0⟩ : ∃ m7, u7 = .map (some m7) := ⟨_, h.m7 rfl⟩
      refine wpOp_run (v := .pointer (some ⟨x.heap.size, 0, none⟩)) (w' := x.alloc (.cells #[u7, u10, u13] 104)) (by rfl) (by rfl) ?_ (hK _ _ ⟨true, l1, l2, true, l4, l5, true, true, true, false, u3, u7, u8, u9, u10, u11, u12, u13, u14, (.pointer (some ⟨x.heap.size, 0, none⟩)), rfl, rfl, { h with q15 := (fun _ => rfl), q3 := (fun z => by cases z), pool := (h.pool.newBlk (i := 1) rfl [u7, u10, u13] 104), d8_7 := fun _ => rfl, d8_0 := fun _ => h.d7_0 rfl, d8_3 := fun _ => h.d7_3 rfl, d8_6 := fun _ => h.d7_6 rfl, d9_8 := fun _ => rfl }⟩)
      rw [h.q14 rfl, e0, e1, e2]
      go_simp
    · have e : l9 = false := hl
      subst e
      have d0 : l0 = true := ready_on hi 0 (by kernel_rfl)
      subst d0
      have d1 : l1 = true := ready_on hi 1 (by kernel_rfl)
      subst d1
      have d2 : l2 = true := ready_on hi 2 (by kernel_rfl)
      subst d2
      have d3 : l3 = true := ready_on hi 3 (by kernel_rfl)
      subst d3
      have d4 : l4 = true := ready_on hi 4 (by kernel_rfl)
      subst d4
      have d5 : l5 = true := ready_on hi 5 (by kernel_rfl)
      subst d5
      have d6 : l6 = true := ready_on hi 6 (by kernel_rfl)
      subst d6
      have d7 : l7 = true := ready_on hi 7 (by kernel_rfl)
      subst d7
      have d8 : l8 = true := ready_on hi 8 (by kernel_rfl)
      subst d8
      refine wpOp_run (v := u15) (w' := x) (by rfl) (by rfl) ?_ (hK _ _ ⟨true, true, true, true, true, true, true, true, true, true, (u15), u7, u8, u9, u10, u11, u12, u13, u14, u15, rfl, rfl, { h with q3 := (fun _ => rfl), d9_8 := fun _ => rfl }⟩)
      go_simp
  · rintro L act x ⟨l0, l1, l2, l3, l4, l5, l6, l7, l8, l9, u3, u7, u8, u9, u10, u11, u12, u13, u14, u15, rfl, rfl, h⟩ hr
    have hall := ready_all hr rfl (by decide)
    have t0 : l0 = true := hall 0 (by decide)
    have t1 : l1 = true := hall 1 (by decide)
    have t2 : l2 = true := hall 2 (by decide)
    have t3 : l3 = true := hall 3 (by decide)
    have t4 : l4 = true := hall 4 (by decide)
    have t5 : l5 = true := hall 5 (by decide)
    have t6 : l6 = true := hall 6 (by decide)
    have t7 : l7 = true := hall 7 (by decide)
    have t8 : l8 = true := hall 8 (by decide)
    have t9 : l9 = true := hall 9 (by decide)
    subst t0 t1 t2 t3 t4 t5 t6 t7 t8 t9
    clear hall hr
    have hp := h.pool
    have e15 := h.q15 rfl
    have e3 := h.q3 rfl
    have e0 := h.m7 rfl
    obtain ⟨a1, c1, e1⟩ := row_shape (h.pool.rowAt (i := 4) rfl)
    obtain ⟨a2, c2, e2⟩ := row_shape (h.pool.rowAt (i := 5) rfl)
    obtain ⟨q, hq⟩ : ∃ q, q = ptB u15 := ⟨_, rfl⟩
    obtain ⟨m, hm⟩ : ∃ m, m = mpB u7 := ⟨_, rfl⟩
    obtain ⟨ps, hps⟩ : ∃ ps : List Nat, ps = [] := ⟨_, rfl⟩
    rw [← hm] at hp e0
    rw [← hq] at hp e15
    subst e1 e2 e0 e3
    have HPZ : Hid (BoS w ⟨aa, ca, ha, ch, sa, cs⟩ D q m a1 c1 a2 c2 ps 0 x) := hide (by rw [hps]; exact hp)
    have HPL : Hid (ps.length = 0) := hide (by rw [hps]; rfl)
    rw [e15]
    clear h hp e15 hq hm hps
    refine hK0 _ _ ?_
    have d0 := (HPZ.out.blkAt (i := 0) rfl).c 0 _ rfl
    go_wp2_with fail
    go_loopw [19] (fun iv wr => ∃ (k : Nat) (ps : List Nat), k ≤ D.acc.length ∧ iv = .int .i64 (k : Int) ∧ ps.length = k ∧ Hid (BoS w ⟨aa, ca, ha, ch, sa, cs⟩ D q m a1 c1 a2 c2 ps k wr)) (fun iv wr => D.acc.length - (intOf iv).toNat)
    case atStart => exact ⟨0, ps, Nat.zero_le _, rfl, HPL.out, HPZ⟩
    case round =>
      clear HPZ HPL d0 ps
      obtain ⟨k, ps, hk, rfl, hpl, HPr⟩ := hrel
      have HPS : Hid _ := hide hpl
      clear hpl
      by_cases hlt : k < D.acc.length
      · have hlt' : (k : Int) < (D.acc.length : Int) := by omega
        obtain ⟨b2, off2, rfl, hb2, z0, z1, z2, z3⟩ := acc_row (HL.out.acc.row.below HPr.out.below) k hlt
        go_upto_region 6 with fail
        rename_i K1 hK1
        obtain ⟨W2, hW2⟩ : ∃ W2, W2 = (wr.alloc (.cells (accCells D.acc[k]).toArray 50)).alloc (.cells (accCells D.acc[k]).toArray 50) := ⟨_, rfl⟩
        have HPw : Hid (Pool [] w [[blk w.heap.size (ledC ⟨some ⟨b2, off2, none⟩, ca, ha, ch, sa, cs⟩ D)], [blk q [.map (some m), .slice a1 D.hold.length c1, .slice a2 D.seen.length c2]], [mapR m ((D.acc.take k).map Acc.name) ps], (accB' ps (D.acc.take k)), [row 53 4 (.slice a1 D.hold.length c1) D.hold.length (D.hold.flatMap hldCells)], [row 55 2 (.slice a2 D.seen.length c2) D.seen.length (D.seen.flatMap snCells)], [blk wr.heap.size (accCells D.acc[k])], [blk (wr.heap.size + 1) (accCells D.acc[k])]] W2) := hide (by
          have z0 := HPr.out
          unfold BoS at z0
          have z := (z0.newBlk (i := 6) rfl (accCells D.acc[k]) 50).newBlk (i := 7) rfl (accCells D.acc[k]) 50
          rw [← hW2, World.size_alloc] at z
          exact z)
        have HW2 : Hid (_ = W2) := hide hW2.symm
        clear hW2 HPr z0 z1 z2 z3
        unfold accCells at HW2
        rw [HW2.out]
        refine wp_region_inv (by kernel_rfl) (fun L act x => ∃ l0 l1 l2 l3 l4 l5 l6 : Bool, ∃ u24 u25 u26 u27 u28 u29 : Value, L = #[l0, l1, l2, l3, l4, l5, l6] ∧ act = { tmps := #[Value.agg #[Value.slice (some { block := b2, off := off2 }) D.acc.length ca, Value.slice ha D.hold.length ch, Value.slice sa D.seen.length cs], Value.pointer (some { block := w.heap.size, off := 0 }), Value.pointer none, Value.pointer (some { block := q, off := 0 }), undef, Value.pointer (some { block := wr.heap.size, off := 0 }), Value.pointer (some { block := wr.heap.size + 1, off := 0 }), Value.map (some m), u8, u9, Value.slice a1 D.hold.length c1, u11, u12, Value.slice a2 D.seen.length c2, u14, Value.pointer (some { block := q, off := 0 }), Value.pointer (some { block := w.heap.size, off := 0 }), Value.slice (some { block := b2, off := off2 }) D.acc.length ca, Value.int IntKind.i64 ↑D.acc.length, Value.int IntKind.i64 ↑k, Value.bool true, Value.pointer (some { block := b2, off := off2 + k * 4 }), Value.agg #[Value.string D.acc[k].name, Value.string D.acc[k].cur, Value.int IntKind.i64 D.acc[k].limit, Value.int IntKind.i64 D.acc[k].posted], Value.agg #[Value.string D.acc[k].name, Value.string D.acc[k].cur, Value.int IntKind.i64 D.acc[k].limit, Value.int IntKind.i64 D.acc[k].posted], u24, u25, u26, u27, u28, u29, u30, undef], defers := [] } ∧ BoG ⟨some ⟨b2, off2, none⟩, ca, ha, ch, sa, cs⟩ D w q m a1 c1 a2 c2 ps k hlt wr.heap.size l0 l1 l2 l3 l4 l5 l6 u24 u25 u26 u27 u28 u29 x) ?_ ?_ ?_
        rotate_left 2
        · exact ⟨false, false, false, false, false, false, false, (u24), (u25), (u26), (u27), (u28), (u29), rfl, rfl, ⟨HPw.out.drew, fun q => (by cases q), fun q => (by cases q), fun q => (by cases q), fun q => (by cases q), fun q => (by cases q), fun q => (by cases q)⟩⟩
        · rintro L act x i ⟨l0, l1, l2, l3, l4, l5, l6, u24, u25, u26, u27, u28, u29, rfl, rfl, h⟩ hi K hK
          have hi15 : i < 7 := by
            obtain ⟨_, o, ho, _⟩ := mem_ready.1 hi
            exact (Array.getElem?_eq_some_iff.1 ho).1
          have hl := (mem_ready.1 hi).1
          obtain rfl | rfl | rfl | rfl | rfl | rfl | rfl := (by omega : i = 0 ∨ i = 1 ∨ i = 2 ∨ i = 3 ∨ i = 4 ∨ i = 5 ∨ i = 6)
          · have e : l0 = false := hl
            subst e
            refine wpOp_run (v := .pointer (some ⟨q, 0, none⟩)) (w' := x) (by rfl) (by rfl) ?_ (hK _ _ ⟨true, l1, l2, l3, l4, l5, l6, (.pointer (some ⟨q, 0, none⟩)), u25, u26, u27, u28, u29, rfl, rfl, { h with p24 := fun _ => rfl }⟩)
            go_simp
          · have e : l1 = false := hl
            subst e
            have d0 : l0 = true := ready_on hi 0 (by kernel_rfl)
            subst d0
            refine wpOp_run (v := .pointer (some ⟨q, 0, none⟩)) (w' := x) (by rfl) (by rfl) ?_ (hK _ _ ⟨true, true, l2, l3, l4, l5, l6, u24, (.pointer (some ⟨q, 0, none⟩)), u26, u27, u28, u29, rfl, rfl, { h with p25 := fun _ => rfl }⟩)
            rw [h.p24 rfl]
            go_simp
          · have e : l2 = false := hl
            subst e
            have d1 : l1 = true := ready_on hi 1 (by kernel_rfl)
            subst d1
            refine wpOp_run (v := .pointer (some ⟨q, 0, none⟩)) (w' := x) (by rfl) (by rfl) ?_ (hK _ _ ⟨l0, true, true, l3, l4, l5, l6, u24, u25, (.pointer (some ⟨q, 0, none⟩)), u27, u28, u29, rfl, rfl, { h with p26 := fun _ => rfl }⟩)
            rw [h.p25 rfl]
            go_simp
          · have e : l3 = false := hl
            subst e
            have d2 : l2 = true := ready_on hi 2 (by kernel_rfl)
            subst d2
            have c0 : x.cell? ⟨q, 0, none⟩ = some (.map (some m)) := (h.pool.blkAt (i := 1) rfl).c 0 _ rfl
            refine wpOp_run (v := .map (some m)) (w' := x) (by rfl) (by rfl) ?_ (hK _ _ ⟨l0, l1, true, true, l4, l5, l6, u24, u25, u26, (.map (some m)), u28, u29, rfl, rfl, { h with p27 := fun _ => rfl }⟩)
            rw [h.p26 rfl]
            go_simp
          · have e : l4 = false := hl
            subst e
            refine wpOp_run (v := .pointer (some ⟨wr.heap.size, 0, none⟩)) (w' := x) (by rfl) (by rfl) ?_ (hK _ _ ⟨l0, l1, l2, l3, true, l5, l6, u24, u25, u26, u27, (.pointer (some ⟨wr.heap.size, 0, none⟩)), u29, rfl, rfl, { h with p28 := fun _ => rfl }⟩)
            go_simp
          · have e : l5 = false := hl
            subst e
            have d4 : l4 = true := ready_on hi 4 (by kernel_rfl)
            subst d4
            have c0 : x.cell? ⟨wr.heap.size, 0, none⟩ = some (.string D.acc[k].name) := (h.pool.blkAt (i := 6) rfl).c 0 _ rfl
            refine wpOp_run (v := .string D.acc[k].name) (w' := x) (by rfl) (by rfl) ?_ (hK _ _ ⟨l0, l1, l2, l3, true, true, l6, u24, u25, u26, u27, u28, (.string D.acc[k].name), rfl, rfl, { h with p29 := fun _ => rfl }⟩)
            rw [h.p28 rfl]
            go_simp
          · have e : l6 = false := hl
            subst e
            have d0 : l0 = true := ready_on hi 0 (by kernel_rfl)
            subst d0
            have d1 : l1 = true := ready_on hi 1 (by kernel_rfl)
            subst d1
            have d2 : l2 = true := ready_on hi 2 (by kernel_rfl)
            subst d2
            have d3 : l3 = true := ready_on hi 3 (by kernel_rfl)
            subst d3
            have d4 : l4 = true := ready_on hi 4 (by kernel_rfl)
            subst d4
            have d5 : l5 = true := ready_on hi 5 (by kernel_rfl)
            subst d5
            obtain ⟨y, hr, hp⟩ := h.pool.putMap (i := 2) rfl (by have e := HPS.out; simp only [List.length_map, List.length_take]; omega) (by unfold maxLen; simp only [List.length_map, List.length_take]; omega) (HL.out.acc.wf _ (List.getElem_mem hlt)).1 (names_off HD.out k hlt) (wr.heap.size + 1)
            refine wpOp_skip (w' := y) (by rfl) (by rfl) ?_ (hK _ _ ⟨true, true, true, true, true, true, true, u24, u25, u26, u27, u28, u29, rfl, rfl, { h with pool := (hp) }⟩)
            exact exec_mapU rfl (h.p27 rfl) (h.p29 rfl) rfl hr
        · rintro L act x ⟨l0, l1, l2, l3, l4, l5, l6, u24, u25, u26, u27, u28, u29, rfl, rfl, h⟩ hr
          have hall := ready_all hr rfl (by decide)
          have t0 : l0 = true := hall 0 (by decide)
          have t1 : l1 = true := hall 1 (by decide)
          have t2 : l2 = true := hall 2 (by decide)
          have t3 : l3 = true := hall 3 (by decide)
          have t4 : l4 = true := hall 4 (by decide)
          have t5 : l5 = true := hall 5 (by decide)
          have t6 : l6 = true := hall 6 (by decide)
          subst t0 t1 t2 t3 t4 t5 t6
          clear hall hr
          have hp := h.pool.drop (i := 6) rfl
          have HPn : Hid (BoS w ⟨some ⟨b2, off2, none⟩, ca, ha, ch, sa, cs⟩ D q m a1 c1 a2 c2 (ps ++ [wr.heap.size + 1]) (k + 1) x) := hide (by
            unfold BoS
            rw [take_next _ _ hlt, List.map_append, accB'_snoc _ _ _ _ (by have e := HPS.out; rw [List.length_take]; omega)]
            refine hp.perm ?_
            simp only [List.set, List.flatten_cons, List.flatten_nil, List.append_nil, List.nil_append, List.cons_append, List.append_assoc, List.map_cons, List.map_nil, cond]
            refine List.Perm.cons _ (List.Perm.cons _ (List.Perm.cons _ (List.Perm.append_left _ ?_)))
            exact (List.Perm.cons _ (List.Perm.swap _ _ _)).trans (List.Perm.swap _ _ _))
          have HPL : Hid ((ps ++ [wr.heap.size + 1]).length = k + 1) := hide (by have e := HPS.out; simp only [List.length_append, List.length_cons, List.length_nil]; omega)
          clear h hp
          refine hK1 _ _ ?_
          go_wp2
          exact ⟨⟨k + 1, _, by omega, by go_num, HPL.out, HPn⟩, by simp [intOf]; omega⟩
      · have hlt' : ¬ (k : Int) < (D.acc.length : Int) := by omega
        obtain rfl : k = D.acc.length := by omega
        have HPf : Hid _ := hide HPr.out
        go_wp2
        go_ret
        exact ⟨q, m, ps, .slice a1 D.hold.length c1, .slice a2 D.seen.length c2, rfl, HPS.out, (by
          have z := HPf.out
          unfold BoS at z
          rw [List.take_length] at z
          exact (z.drop (i := 0) rfl).cast (by simp [bkS]))⟩
end Go.Proofs.YteaopalhbnhbaaaGreatDoor
/- The contracts of the program's seenPlace, holdPlace, full and admit. -/
namespace Go.Proofs.YteaopalhbnhbaaaGreatDoor
open Go.ChangeShapes Go.WideShapes Go.ChangeAt Go.RowKit
set_option linter.unusedVariables false
set_option maxRecDepth 100000
def ixV : Option Nat → Int
  | none => -1
  | some k => k
end Go.Proofs.YteaopalhbnhbaaaGreatDoor
/- What a book of the call's own says, and the program's full. -/
namespace Go.Proofs.YteaopalhbnhbaaaGreatDoor
open Go.ChangeShapes Go.WideShapes Go.ChangeAt Go.RowKit Go.Maps
set_option linter.unusedVariables false
set_option maxRecDepth 100000
/-- a book, read -/
structure BkIs (x : World) (q m : Nat) (ps : List Nat) (ha : Option Addr) (ch : Nat) (sa : Option Addr) (cs : Nat) (A : List Acc) (H : List Hld) (S : List Sn) : Prop where
  lt : q < x.heap.size
  c0 : x.cell? ⟨q, 0, none⟩ = some (.map (some m))
  c1 : x.cell? ⟨q, 1, none⟩ = some (.slice ha H.length ch)
  c2 : x.cell? ⟨q, 2, none⟩ = some (.slice sa S.length cs)
  map : (mapR m (A.map Acc.name) ps).P x
  acc : ∀ i (h : i < A.length), Blk (ps.getD i 0) (accCells A[i]) x
  hold : RowAt 4 hldCells x ha H
  seen : RowAt 2 snCells x sa S
theorem Star.bk {x : World} {q m : Nat} {ps : List Nat} {hv sv : Value} {A : List Acc} {H : List Hld} {S : List Sn} (h : Star (bkS q m ps hv sv A H S).flatten x) (hl : ps.length = A.length) :
    ∃ ha ch sa cs, hv = .slice ha H.length ch ∧ sv = .slice sa S.length cs ∧ BkIs x q m ps ha ch sa cs A H S := by
  have hr : ∀ r, r ∈ (bkS q m ps hv sv A H S).flatten → r.P x := fun r hr => h.get hr
  have b : Blk q [.map (some m), hv, sv] x := hr (blk q [.map (some m), hv, sv]) (by simp [bkS])
  have r1 : x.ownsRow 0 53 4 hv H.length (H.flatMap hldCells) := hr (row 53 4 hv H.length (H.flatMap hldCells)) (by simp [bkS])
  have r2 : x.ownsRow 0 55 2 sv S.length (S.flatMap snCells) := hr (row 55 2 sv S.length (S.flatMap snCells)) (by simp [bkS])
  obtain ⟨ha, ch, e1, s1, _⟩ := Star.of_row hldLen r1
  obtain ⟨sa, cs, e2, s2, _⟩ := Star.of_row snLen r2
  have o1 : OwnRow 4 hldCells x (gOf ha) ha ch H := (s1.get (r := orow 4 hldCells ha ch H) (by simp)).2
  have o2 : OwnRow 2 snCells x (gOf sa) sa cs S := (s2.get (r := orow 2 snCells sa cs S) (by simp)).2
  subst e1 e2
  refine ⟨ha, ch, sa, cs, rfl, rfl, ⟨b.lt, b.c 0 _ rfl, b.c 1 _ rfl, b.c 2 _ rfl, hr (mapR m (A.map Acc.name) ps) (by simp [bkS]), fun i hi => ?_, o1.rows, o2.rows⟩⟩
  have hp : i < ps.length := by omega
  refine hr (blk (ps.getD i 0) (accCells A[i])) ?_
  have : blk (ps.getD i 0) (accCells A[i]) ∈ accB' ps A := by
    unfold accB'
    rw [List.mem_map]
    refine ⟨(ps[i], A[i]), ?_, by simp [hp]⟩
    have hz : i < (List.zip ps A).length := by simp [List.length_zip]; omega
    have e : (List.zip ps A)[i] = (ps[i], A[i]) := by simp
    rw [← e]
    exact List.getElem_mem hz
  simp only [bkS, List.flatten_cons, List.flatten_nil, List.mem_append]
  exact .inr (.inr (.inl this))
theorem BkIs.below {x y : World} {q m : Nat} {ps : List Nat} {ha : Option Addr} {ch : Nat} {sa : Option Addr} {cs : Nat} {A : List Acc} {H : List Hld} {S : List Sn} (h : BkIs x q m ps ha ch sa cs A H S) (b : Below x.heap.size x y) : BkIs y q m ps ha ch sa cs A H S := by
  obtain ⟨D, ho, hk⟩ := h.map
  exact ⟨Nat.lt_of_lt_of_le h.lt b.size, below_keeps b _ _ h.c0, below_keeps b _ _ h.c1, below_keeps b _ _ h.c2, ⟨D, ho.kept (below_grownBy b) (by simp), hk⟩,
    fun i hi => ((Star.ofBlk (h.acc i hi)).below b).get (r := blk (ps.getD i 0) (accCells A[i])) (by simp), h.hold.below b, h.seen.below b⟩
theorem BkIs.mapHas {x : World} {q m : Nat} {ps : List Nat} {ha : Option Addr} {ch : Nat} {sa : Option Addr} {cs : Nat} {A : List Acc} {H : List Hld} {S : List Sn} (h : BkIs x q m ps ha ch sa cs A H S) : MapHas x m A := by
  obtain ⟨D, ho, hk⟩ := h.map
  refine ⟨D, by simpa using ho, ⟨fun i hi => ⟨ps.getD i 0, fun z => ?_, ?_⟩, fun kl hkl => ?_⟩⟩
  · have := hk.at_ i (by simpa using hi) z
    simpa using this
  · have b := h.acc i hi
    exact ⟨b.lt, b.c 0 _ rfl, b.c 1 _ rfl, b.c 2 _ rfl, b.c 3 _ rfl⟩
  · obtain ⟨i, hi, e⟩ := hk.only kl hkl
    exact ⟨i, by simpa using hi, by simpa using e⟩
theorem BkIs.book {x : World} {q m : Nat} {ps : List Nat} {ha : Option Addr} {ch : Nat} {sa : Option Addr} {cs : Nat} {L : Led} (h : BkIs x q m ps ha ch sa cs L.acc L.hold L.seen) (hh : ∀ y ∈ L.hold, HldW y) (hs : ∀ y ∈ L.seen, SnW y) : BookAt x q L :=
  ⟨h.lt, m, ha, sa, ch, cs, h.c0, h.c1, h.c2, h.hold.hold hh, h.seen.ans hs, h.mapHas⟩
theorem ix_any {l : List Hld} {id : Int} : (decide (ixV (fi (l.map Hld.id) id) ≥ 0)) = l.any (fun h => h.id == id) := by
  cases e : fi (l.map Hld.id) id with
  | none =>
    have := fi_none e
    have h2 : l.any (fun h => h.id == id) = false := by
      rw [List.any_eq_false]
      intro x hx q
      exact this x.id (List.mem_map_of_mem hx) (by simpa using q)
    rw [h2]; rfl
  | some k =>
    obtain ⟨hk, he⟩ := fi_some e
    have h2 : l.any (fun h => h.id == id) = true := by
      rw [List.any_eq_true]
      exact ⟨l[k]'(by simpa using hk), List.getElem_mem _, by simpa using he⟩
    rw [h2]
    simp [ixV]
end Go.Proofs.YteaopalhbnhbaaaGreatDoor
/- The contracts of aside and of the book's admit. -/
namespace Go.Proofs.YteaopalhbnhbaaaGreatDoor
open Go.ChangeShapes Go.WideShapes Go.ChangeAt Go.RowKit Go.Maps
set_option linter.unusedVariables false
set_option maxRecDepth 100000
/-- the code of what is put aside -/
def admC (D : Led) (c : Cm) : Option Int :=
  if c.B = false then some 2 else if 0 ≤ seenV D.seen c.id then some (seenV D.seen c.id) else if fullB D c then some 3 else none
def RefEnd (o : Option Int) (g : Value) (w : World) (e : Ending) (w' : World) : Prop := Below w.heap.size w w' ∧
  match o with
  | none => e = .returned .nilIface
  | some code => ∃ n, Pool [] w [[blk n [.int .i64 code, g]]] w' ∧ e = .returned (.iface 139 (.pointer (some ⟨n, 0, none⟩)))
theorem refEnd_new {w x : World} {o : Option Int} {code : Int} {g : Value} (ho : o = some code) (b : Below w.heap.size w x) : RefEnd o g w (.returned (.iface 139 (.pointer (some ⟨x.heap.size, 0, none⟩)))) (x.alloc (.cells #[.int .i64 code, g] 141)) := by
  subst ho
  exact ⟨below_alloc b _, _, ((Pool.start w [[]] rfl).keep b).newBlk (i := 0) rfl [.int .i64 code, g] 141, rfl⟩
theorem seenV_none {l : List Sn} {id : Int} (h : fi (l.map Sn.id) id = none) : seenV l id = -1 := by simp [seenV, h]
theorem seenV_some {l : List Sn} {id : Int} {k : Nat} (h : fi (l.map Sn.id) id = some k) (hk : k < l.length) : seenV l id = l[k].code := by simp [seenV, h, hk]
end Go.Proofs.YteaopalhbnhbaaaGreatDoor
/- The contract of the book's open. -/
namespace Go.Proofs.YteaopalhbnhbaaaGreatDoor
open Go.ChangeShapes Go.WideShapes Go.ChangeAt Go.RowKit Go.Maps
set_option linter.unusedVariables false
set_option maxRecDepth 100000
/-- what a change of the book leaves: the book, and a refusal of the call's own -/
def DoEnd (o : Option Int) (g : Value) (F : List Nat) (rs : List Rs) (w : World) (e : Ending) (w' : World) : Prop :=
  match o with
  | none => e = .returned .nilIface ∧ Pool F w [rs, []] w'
  | some code => ∃ n, e = .returned (.iface 139 (.pointer (some ⟨n, 0, none⟩))) ∧ Pool F w [rs, [blk n [.int .i64 code, g]]] w'
def OpnEnd (q m : Nat) (ps : List Nat) (hv sv : Value) (A : List Acc) (H : List Hld) (S : List Sn) (a : Acc) (g : Value) (F : List Nat) (w : World) (e : Ending) (w' : World) : Prop :=
  match idxA A a.name with
  | some _ => DoEnd (some 4) g F (bkS q m ps hv sv A H S).flatten w e w'
  | none => ∃ p, DoEnd none g F (bkS q m (ps ++ [p]) hv sv (A ++ [a]) H S).flatten w e w'
theorem idxA_off {l : List Acc} {nm : ByteArray} (h : idxA l nm = none) : ∀ i (hi : i < l.length), l[i].name ≠ nm := by
  intro i hi e
  rw [idxA, List.findIdx?_eq_none_iff] at h
  have := h _ (List.getElem_mem hi)
  rw [sameB_iff.2 e] at this
  cases this
theorem off_map {l : List Acc} {nm : ByteArray} (h : ∀ i (hi : i < l.length), l[i].name ≠ nm) : ∀ n ∈ l.map Acc.name, n ≠ nm := by
  intro n hn
  rw [List.mem_map] at hn
  obtain ⟨x, hx, rfl⟩ := hn
  obtain ⟨i, hi, rfl⟩ := List.getElem_of_mem hx
  exact h i hi
structure OpF (FF : List Nat) (w : World) (q m : Nat) (ps : List Nat) (ha : Option Addr) (ch : Nat) (sa : Option Addr) (cs : Nat) (A : List Acc) (H : List Hld) (S : List Sn) (a : Acc) (W : Nat) (l0 l1 l2 l3 l4 l5 l6 : Bool) (u14 u15 u16 u17 u18 u19 : Value) (x : World) : Prop where
  pool : Pool FF w [[blk q [.map (some m), .slice ha H.length ch, .slice sa S.length cs]], cond l6 [mapR m (A.map Acc.name ++ [a.name]) (ps ++ [W])] [mapR m (A.map Acc.name) ps], accB' ps A, [row 53 4 (.slice ha H.length ch) H.length (H.flatMap hldCells)], [row 55 2 (.slice sa S.length cs) S.length (S.flatMap snCells)], [blk W (accCells a)]] x
  p14 : l0 = true → u14 = .pointer (some ⟨q, 0, none⟩)
  p15 : l1 = true → u15 = .pointer (some ⟨q, 0, none⟩)
  p16 : l2 = true → u16 = .pointer (some ⟨q, 0, none⟩)
  p17 : l3 = true → u17 = .map (some m)
  p18 : l4 = true → u18 = .pointer (some ⟨W, 0, none⟩)
  p19 : l5 = true → u19 = .string a.name
end Go.Proofs.YteaopalhbnhbaaaGreatDoor
/- The contract of the book's pair, with whose blocks it tells. -/
namespace Go.Proofs.YteaopalhbnhbaaaGreatDoor
open Go.ChangeShapes Go.WideShapes Go.ChangeAt Go.RowKit Go.Maps
set_option linter.unusedVariables false
set_option maxRecDepth 100000
/-- 'm[k]' of the book's map -/
theorem look_bk {w : World} {q m : Nat} {ps : List Nat} {ha : Option Addr} {ch : Nat} {sa : Option Addr} {cs : Nat} {A : List Acc} {H : List Hld} {S : List Sn} (h : BkIs w q m ps ha ch sa cs A H S) {nm : ByteArray} (hn : nm.size ≤ maxLen) :
    (∃ j, ∃ hj : j < A.length, idxA A nm = some j ∧ AccBlk w (ps.getD j 0) A[j] ∧ ∀ k, (Instr.lookup 100 (.map (some m)) (.string nm) false).run Tryz.prog (w.drewN k) = .ok (.pointer (some ⟨ps.getD j 0, 0, none⟩)) (w.drewN k)) ∨
    (idxA A nm = none ∧ ∀ k, (Instr.lookup 100 (.map (some m)) (.string nm) false).run Tryz.prog (w.drewN k) = .ok (.pointer none) (w.drewN k)) := by
  obtain ⟨D, ho, hi⟩ := h.map
  have hoN : ∀ k, (w.drewN k).ownsMap Tryz.prog 9 ptrElem m (A.map Acc.name).length D := fun k => ho.kept (below_grownBy (drewN_below w k)) (by simp)
  cases e : idxA A nm with
  | some j =>
    obtain ⟨hj, en, _⟩ := idxA_lt e
    have hq := hi.at_ j (by simpa using hj)
    have b := h.acc j hj
    have hq' : ∀ z, D.atKey (kn nm) z = ptrD (ps.getD j 0) := fun z => by
      have := hq z
      simpa [en] using this
    exact .inl ⟨j, hj, rfl, ⟨b.lt, b.c 0 _ rfl, b.c 1 _ rfl, b.c 2 _ rfl, b.c 3 _ rfl⟩, fun k => look_at (hoN k) hn hq'⟩
  | none =>
    refine .inr ⟨rfl, fun k => look_no (hoN k) hn ?_⟩
    rw [Bool.eq_false_iff]
    intro hh
    obtain ⟨j, hj, e2⟩ := hi.only _ hh
    exact idxA_off e j (by simpa using hj) (by simpa using (kn_inj e2).symm)
def pairC (A : List Acc) (fr tn : ByteArray) : Option Int := match idxA A fr, idxA A tn with
  | some i, some j => if sameC A i j then none else some 6
  | _, _ => some 5
def PrEnd (A : List Acc) (ps : List Nat) (fr tn : ByteArray) (g : Value) (w : World) (e : Ending) (w' : World) : Prop :=
  match pairC A fr tn with
  | none => ∃ i j, idxA A fr = some i ∧ idxA A tn = some j ∧ Below w.heap.size w w' ∧ e = .returned (.tuple #[.pointer (some ⟨ps.getD i 0, 0, none⟩), .pointer (some ⟨ps.getD j 0, 0, none⟩), .nilIface])
  | some code => ∃ n, e = .returned (.tuple #[.pointer none, .pointer none, .iface 139 (.pointer (some ⟨n, 0, none⟩))]) ∧ Pool [] w [[blk n [.int .i64 code, g]]] w'
theorem pr_yes {A : List Acc} {ps : List Nat} {fr tn : ByteArray} {g : Value} {w x : World} {i j : Nat} (hfin : Below w.heap.size w x) (hi : idxA A fr = some i) (hj : idxA A tn = some j) (hc : sameC A i j = true) :
    PrEnd A ps fr tn g w (.returned (.tuple #[.pointer (some ⟨ps.getD i 0, 0, none⟩), .pointer (some ⟨ps.getD j 0, 0, none⟩), .nilIface])) x := by
  have e : pairC A fr tn = none := by simp [pairC, hi, hj, hc]
  unfold PrEnd
  rw [e]
  exact ⟨i, j, hi, hj, hfin, rfl⟩
theorem pr_code {A : List Acc} {ps : List Nat} {fr tn : ByteArray} {g : Value} {w : World} {N : Nat} {code : Int} (h : pairC A fr tn = some code) :
    PrEnd A ps fr tn g w (.returned (.tuple #[.pointer none, .pointer none, .iface 139 (.pointer (some ⟨w.heap.size, 0, none⟩))])) ((w.drewN N).alloc (.cells #[.int .i64 code, g] 141)) := by
  unfold PrEnd
  rw [h]
  exact ⟨_, rfl, (Pool.start w [[]] rfl).newDrawn (i := 0) rfl N [.int .i64 code, g] 141⟩
theorem sameC_at {A : List Acc} {i j : Nat} (hi : i < A.length) (hj : j < A.length) : sameC A i j = sameB A[i].cur A[j].cur := by simp [sameC, hi, hj]
set_option maxHeartbeats 2000000 in
theorem pair_bk {q m : Nat} {ps : List Nat} {ha : Option Addr} {ch : Nat} {sa : Option Addr} {cs : Nat} {A : List Acc} {H : List Hld} {S : List Sn} (fr tn : ByteArray) (t : TypeId) (v : Value) (w : World) (s1 : fr.size ≤ maxLen) (s2 : tn.size ≤ maxLen) (hB : BkIs w q m ps ha ch sa cs A H S) (hg : w.cell? ⟨1, 0, none⟩ = some (.iface t v)) :
    Calls Tryz.prog 74 #[.pointer (some ⟨q, 0, none⟩), .string fr, .string tn] w fun e w' => PrEnd A ps fr tn (.iface t v) w e w' := by
  have hd : ∀ x : World, ∀ code, x.cell? ⟨1, 0, none⟩ = some (.iface t v) → Calls Tryz.prog 98 #[.int .i64 code] x fun e w' => DeniedEnd code (.iface t v) x e w' := fun x code h => denied_any code t v x h
  have HH : Hid _ := hide hB
  have hq := hB.lt
  have c0 := hB.c0
  clear hB
  rcases look_bk HH.out s1 with ⟨i, hi, en1, hp, r1⟩ | ⟨no1, r1⟩
  · rcases look_bk HH.out s2 with ⟨j, hj, en2, hr, r2⟩ | ⟨no2, r2⟩
    · obtain ⟨p0, p1, p2, p3, p4⟩ := hp
      obtain ⟨t0, t1, t2, t3, t4⟩ := hr
      have HN1 : Hid _ := hide en1
      have HN2 : Hid _ := hide en2
      have HC : Hid _ := hide (sameC_at hi hj)
      obtain ⟨p, hpe⟩ : ∃ p, p = ps.getD i 0 := ⟨_, rfl⟩
      obtain ⟨r, hre⟩ : ∃ r, r = ps.getD j 0 := ⟨_, rfl⟩
      have p2' : w.cell? ⟨p, 1, none⟩ = some (.string A[i].cur) := by rw [hpe]; exact p2
      have t2' : w.cell? ⟨r, 1, none⟩ = some (.string A[j].cur) := by rw [hre]; exact t2
      rw [← hpe] at r1 p0
      rw [← hre] at r2 t0
      have HPE : Hid _ := hide hpe
      have HRE : Hid _ := hide hre
      clear en1 en2 p1 p2 p3 p4 t1 t2 t3 t4 hpe hre HH
      cases q1 : (A[i].cur.toList == A[j].cur.toList)
      · have q1' : (A[i].cur.toList != A[j].cur.toList) = true := by simp [bne, q1]
        have HQ : Hid (pairC A fr tn = some 6) := hide (by
          have e : sameC A i j = false := by
            rw [HC.out, Bool.eq_false_iff]
            intro e
            rw [beq_bytes.2 (sameB_iff.1 e)] at q1
            cases q1
          simp [pairC, HN1.out, HN2.out, e])
        go_enter Tryz.func74, Tryz.ntmps74
        go_wp2_with fail
        go_quiet (fail)
        go_wp2_with fail
        go_quiet (fail)
        go_wp2_with (first | (go_at_call 98; refine (hd _ _ (by simpa using hg)).mono ?_; rintro e w1 ⟨rfl, rfl⟩))
        go_ret3
        exact pr_code HQ.out
      · have q1' : (A[i].cur.toList != A[j].cur.toList) = false := by simp [bne, q1]
        have HQ : Hid (sameC A i j = true) := hide (by rw [HC.out]; exact sameB_iff.2 (beq_bytes.1 q1))
        go_enter Tryz.func74, Tryz.ntmps74
        go_wp2_with fail
        go_quiet (fail)
        go_wp2_with fail
        go_quiet (fail)
        go_wp2
        go_ret3
        rw [HPE.out, HRE.out]
        exact pr_yes (below_drewN (drewN_below w _) _) HN1.out HN2.out HQ.out
    · have HN : Hid (pairC A fr tn = some 5) := hide (by simp [pairC, en1, no2])
      obtain ⟨p, hpe⟩ : ∃ p, p = ps.getD i 0 := ⟨_, rfl⟩
      rw [← hpe] at r1
      clear no2 hp en1 hpe HH
      go_enter Tryz.func74, Tryz.ntmps74
      go_wp2_with fail
      go_quiet (fail)
      go_wp2_with (first | (go_at_call 98; refine (hd _ _ (by simpa using hg)).mono ?_; rintro e w1 ⟨rfl, rfl⟩))
      go_ret3
      exact pr_code HN.out
  · have HN : Hid (pairC A fr tn = some 5) := hide (by simp [pairC, no1])
    have hr2 : ∃ u, ∀ k, (Instr.lookup 100 (.map (some m)) (.string tn) false).run Tryz.prog (w.drewN k) = .ok u (w.drewN k) := by
      rcases look_bk HH.out s2 with ⟨j, hj, en2, hr, r2⟩ | ⟨no2, r2⟩
      · exact ⟨_, r2⟩
      · exact ⟨_, r2⟩
    obtain ⟨u, r2⟩ := hr2
    clear no1 HH
    go_enter Tryz.func74, Tryz.ntmps74
    go_wp2_with fail
    go_quiet (fail)
    go_wp2_with (first | (go_at_call 98; refine (hd _ _ (by simpa using hg)).mono ?_; rintro e w1 ⟨rfl, rfl⟩))
    go_ret3
    exact pr_code HN.out
end Go.Proofs.YteaopalhbnhbaaaGreatDoor
/- The contract of the book's post. -/
namespace Go.Proofs.YteaopalhbnhbaaaGreatDoor
open Go.ChangeShapes Go.WideShapes Go.ChangeAt Go.RowKit Go.Maps
set_option linter.unusedVariables false
set_option maxRecDepth 100000
theorem accB'_split (ps : List Nat) (A : List Acc) (i : Nat) (hi : i < A.length) (hps : ps.length = A.length) :
    accB' ps A = accB' (ps.take i) (A.take i) ++ blk (ps.getD i 0) (accCells A[i]) :: accB' (ps.drop (i + 1)) (A.drop (i + 1)) := by
  have hp : i < ps.length := by omega
  have e1 : ps = ps.take i ++ (ps[i] :: ps.drop (i + 1)) := by rw [← List.drop_eq_getElem_cons hp, List.take_append_drop]
  have e2 : A = A.take i ++ (A[i] :: A.drop (i + 1)) := by rw [← List.drop_eq_getElem_cons hi, List.take_append_drop]
  have e3 : ps.getD i 0 = ps[i] := by simp [hp]
  rw [e3]
  conv => lhs; rw [e1, e2]
  unfold accB'
  rw [List.zip_append (by simp [List.length_take]; omega), List.zip_cons_cons, List.map_append, List.map_cons]
theorem List.getElem?_concat_length' {X : Type} (a : List X) (x : X) (b : List X) : (a ++ x :: b)[a.length]? = some x := by simp
theorem Pool.setAcc {F : List Nat} {w x : World} {S1 S2 : List (List Rs)} {ps : List Nat} {A : List Acc} (h : Pool F w (S1 ++ accB' ps A :: S2) x) (i : Nat) (hi : i < A.length) (hps : ps.length = A.length) (d : Int) :
    Pool F w (S1 ++ accB' ps (setP A i d) :: S2) (x.setCell ⟨ps.getD i 0, 3, none⟩ (.int .i64 (A[i].posted + d))) := by
  have h1 : Pool F w ((S1 ++ [accB' (ps.take i) (A.take i)]) ++ [blk (ps.getD i 0) (accCells A[i])] :: accB' (ps.drop (i + 1)) (A.drop (i + 1)) :: S2) x := h.cast (by rw [accB'_split ps A i hi hps]; simp)
  have h2 := h1.setBlk (i := (S1 ++ [accB' (ps.take i) (A.take i)]).length) (b := ps.getD i 0) (cur := accCells A[i]) (List.getElem?_concat_length' _ _ _) 3 (.int .i64 (A[i].posted + d)) (by simp [accCells])
  refine h2.cast ?_
  have hi' : i < (setP A i d).length := by rw [setP_len]; exact hi
  rw [accB'_split ps (setP A i d) i hi' (by rw [setP_len]; exact hps)]
  have e1 : (setP A i d).take i = A.take i := by rw [setP_at hi, List.take_set_of_le (Nat.le_refl _)]
  have e2 : (setP A i d).drop (i + 1) = A.drop (i + 1) := by rw [setP_at hi, List.drop_set_of_lt (Nat.lt_succ_self _)]
  have e3 : (setP A i d)[i] = postA A[i] d := by simp [setP_at hi]
  rw [e1, e2, e3, List.set_append_right _ _ (Nat.le_refl _)]
  simp [accCells, postA]
theorem Pool.accAt {F : List Nat} {w x : World} {S1 S2 : List (List Rs)} {ps : List Nat} {A : List Acc} (h : Pool F w (S1 ++ accB' ps A :: S2) x) (i : Nat) (hi : i < A.length) (hps : ps.length = A.length) : Blk (ps.getD i 0) (accCells A[i]) x := by
  have h1 : Pool F w ((S1 ++ [accB' (ps.take i) (A.take i)]) ++ [blk (ps.getD i 0) (accCells A[i])] :: accB' (ps.drop (i + 1)) (A.drop (i + 1)) :: S2) x := h.cast (by rw [accB'_split ps A i hi hps]; simp)
  exact h1.blkAt (i := (S1 ++ [accB' (ps.take i) (A.take i)]).length) (List.getElem?_concat_length' _ _ _)
theorem setP_other {A : List Acc} {i j : Nat} (hi : i < A.length) (hj : j < A.length) (hne : i ≠ j) (d : Int) (hj' : j < (setP A i d).length) : (setP A i d)[j] = A[j] := by
  simp [setP_at hi, hne]
theorem setP_names {A : List Acc} {i : Nat} (d : Int) : (setP A i d).map Acc.name = A.map Acc.name := by
  rcases Nat.lt_or_ge i A.length with hi | hi
  · rw [setP_at hi, List.map_set]
    have e : (postA A[i] d).name = (A.map Acc.name)[i]'(by simpa using hi) := by simp [postA]
    rw [e, List.set_getElem_self]
  · simp [setP, hi]
/-- the code of a post that is denied -/
def postC (A : List Acc) (H : List Hld) (fr tn : ByteArray) (am : Int) : Option Int := match pairC A fr tn with
  | some c => some c
  | none => match idxA A fr, idxA A tn with
    | some i, some j => if rangeB (setP A i (-am)) i && rangeB (setP A j am) j then (match A[i]? with
      | some x => if covB x (heldL x.name H) am then none else some 7
      | none => none) else some 8
    | _, _ => none
def postL (A : List Acc) (H : List Hld) (fr tn : ByteArray) (am : Int) : List Acc := match postC A H fr tn am, idxA A fr, idxA A tn with
  | none, some i, some j => payA A i j am
  | _, _, _ => A
theorem postC_at {A : List Acc} {H : List Hld} {fr tn : ByteArray} {am : Int} {i j : Nat} (hp : pairC A fr tn = none) (hi : idxA A fr = some i) (hj : idxA A tn = some j) (hil : i < A.length) (hjl : j < A.length) :
    postC A H fr tn am = if inB (-1000000000000) 1000000000000 (A[i].posted + -am) && inB (-1000000000000) 1000000000000 (A[j].posted + am) then (if covB A[i] (heldL A[i].name H) am then none else some 7) else some 8 := by
  simp [postC, hp, hi, hj, rangeB, setP_at hil, setP_at hjl, hil, hjl, postA]
end Go.Proofs.YteaopalhbnhbaaaGreatDoor
/- The program's post is the model's pay. -/
namespace Go.Proofs.YteaopalhbnhbaaaGreatDoor
open Go.ChangeShapes Go.WideShapes Go.ChangeAt Go.RowKit Go.Maps
set_option linter.unusedVariables false
theorem payA_i {A : List Acc} {i j : Nat} (hi : i < A.length) (hj : j < A.length) (hne : i ≠ j) (am : Int) : (payA A i j am)[i]? = some (postA A[i] (-am)) := by
  have hj' : j < (setP A i (-am)).length := by rw [setP_len]; exact hj
  unfold payA
  rw [setP_at hj', List.getElem?_set_ne (Ne.symm hne), setP_at hi]
  simp [hi]
theorem payA_j {A : List Acc} {i j : Nat} (hi : i < A.length) (hj : j < A.length) (hne : i ≠ j) (am : Int) : (payA A i j am)[j]? = some (postA A[j] am) := by
  have hj' : j < (setP A i (-am)).length := by rw [setP_len]; exact hj
  unfold payA
  rw [setP_at hj', List.getElem?_set_self hj', setP_other hi hj hne]
theorem cov_within {x : Acc} {held am : Int} (hl : -1 ≤ x.limit) (hh : held ≤ 1000000000000) (hr : inB (-1000000000000) 1000000000000 (x.posted + -am) = true) : withinB (postA x (-am)) held = covB x held am := by
  rw [Bool.eq_iff_iff]
  simp only [inB, decide_eq_true_eq] at hr
  simp only [withinB, covB, postA, inB, Bool.and_eq_true, Bool.or_eq_true, decide_eq_true_eq]
  constructor
  · rintro ⟨⟨h1, h2⟩, h3 | h3⟩
    · have h3 := of_decide_eq_true h3
      exact .inl (by omega)
    · have h3 := of_decide_eq_true h3
      exact .inr (by omega)
  · rintro (h3 | h3)
    · exact ⟨⟨decide_eq_true hr, hh⟩, .inl (decide_eq_true (by omega))⟩
    · exact ⟨⟨decide_eq_true hr, hh⟩, .inr (decide_eq_true (by omega))⟩
/-- what the program's post leaves is what the model's pay leaves -/
theorem post_pay {L : Led} {fr tn : ByteArray} {am : Int} {i j : Nat} (hp : pairC L.acc fr tn = none) (hi : idxA L.acc fr = some i) (hj : idxA L.acc tn = some j) (hne : fr ≠ tn) (hlim : ∀ x ∈ L.acc, -1 ≤ x.limit) (hheld : ∀ x ∈ L.acc, heldL x.name L.hold ≤ 1000000000000) :
    payM L i j am = (⟨postL L.acc L.hold fr tn am, L.hold, L.seen⟩, (postC L.acc L.hold fr tn am).getD 0) := by
  obtain ⟨hil, eni, _⟩ := idxA_lt hi
  obtain ⟨hjl, enj, _⟩ := idxA_lt hj
  have hij : i ≠ j := by
    rintro rfl
    exact hne (eni.symm.trans enj)
  have hc := postC_at (H := L.hold) (am := am) hp hi hj hil hjl
  have r1 : rangeB (payA L.acc i j am) i = inB (-1000000000000) 1000000000000 (L.acc[i].posted + -am) := by simp [rangeB, payA_i hil hjl hij, postA]
  have r2 : rangeB (payA L.acc i j am) j = inB (-1000000000000) 1000000000000 (L.acc[j].posted + am) := by simp [rangeB, payA_j hil hjl hij, postA]
  unfold payM
  rw [r1, r2]
  cases hr : (inB (-1000000000000) 1000000000000 (L.acc[i].posted + -am) && inB (-1000000000000) 1000000000000 (L.acc[j].posted + am))
  · rw [hr] at hc
    have hc : postC L.acc L.hold fr tn am = some 8 := by rw [hc]; rfl
    simp [postL, hc]
  · rw [hr] at hc
    rw [Bool.and_eq_true] at hr
    have k : keepsB (payA L.acc i j am) L.hold i = covB L.acc[i] (heldL L.acc[i].name L.hold) am := by
      have e : keepsB (payA L.acc i j am) L.hold i = withinB (postA L.acc[i] (-am)) (heldL L.acc[i].name L.hold) := by simp [keepsB, payA_i hil hjl hij, postA]
      rw [e, cov_within (hlim _ (List.getElem_mem hil)) (hheld _ (List.getElem_mem hil)) hr.1]
    rw [k]
    cases hv : covB L.acc[i] (heldL L.acc[i].name L.hold) am
    · have hc : postC L.acc L.hold fr tn am = some 7 := by rw [hc, hv]; rfl
      simp [postL, hc]
    · have hc : postC L.acc L.hold fr tn am = none := by rw [hc, hv]; rfl
      simp [postL, hc, hi, hj]
end Go.Proofs.YteaopalhbnhbaaaGreatDoor
/- Sorting a list with one more: where it comes to stand. -/
namespace Go.Proofs.YteaopalhbnhbaaaGreatDoor
set_option linter.unusedVariables false
theorem ins_perm {X : Type} (p : X → Bool) (l : List X) (x : X) : (l.takeWhile p ++ x :: l.dropWhile p).Perm (l ++ [x]) := by
  have h1 : (l.takeWhile p ++ x :: l.dropWhile p).Perm (x :: (l.takeWhile p ++ l.dropWhile p)) := List.perm_middle
  rw [List.takeWhile_append_dropWhile] at h1
  exact h1.trans (List.perm_append_comm (l₁ := [x]))
theorem ins_pw {X : Type} (f : X → Int) (l : List X) (x : X) (h : l.Pairwise (fun a b => f a < f b)) (hx : ∀ y ∈ l, f y ≠ f x) : (l.takeWhile (fun y => decide (f y < f x)) ++ x :: l.dropWhile (fun y => decide (f y < f x))).Pairwise (fun a b => f a < f b) := by
  induction l with
  | nil => simp
  | cons a l ih =>
    rw [List.pairwise_cons] at h
    have hxa := hx a (by simp)
    have hxl : ∀ y ∈ l, f y ≠ f x := fun y hy => hx y (by simp [hy])
    by_cases ha : f a < f x
    · rw [List.takeWhile_cons_of_pos (by simpa using ha), List.dropWhile_cons_of_pos (by simpa using ha), List.cons_append, List.pairwise_cons]
      refine ⟨fun b hb => ?_, ih h.2 hxl⟩
      have hb := (ins_perm _ l x).mem_iff.1 hb
      rw [List.mem_append, List.mem_singleton] at hb
      rcases hb with hb | rfl
      · exact h.1 b hb
      · exact ha
    · rw [List.takeWhile_cons_of_neg (by simpa using ha), List.dropWhile_cons_of_neg (by simpa using ha), List.nil_append, List.pairwise_cons, List.pairwise_cons]
      refine ⟨fun b hb => ?_, h⟩
      rw [List.mem_cons] at hb
      rcases hb with rfl | hb
      · omega
      · have := h.1 b hb
        omega
theorem pw_inj {X : Type} (f : X → Int) {l : List X} (h : l.Pairwise (fun a b => f a < f b)) : ∀ a b, a ∈ l → b ∈ l → f a = f b → a = b := by
  induction l with
  | nil => intro a b ha; cases ha
  | cons c l ih =>
    rw [List.pairwise_cons] at h
    intro a b ha hb e
    rw [List.mem_cons] at ha hb
    rcases ha with rfl | ha
    · rcases hb with rfl | hb
      · rfl
      · have := h.1 b hb; omega
    · rcases hb with rfl | hb
      · have := h.1 a ha; omega
      · exact ih h.2 a b ha hb e
/-- a sorted list of rising keys and one more -/
theorem ins_is {X : Type} (f : X → Int) {l r : List X} {x : X} (h : l.Pairwise (fun a b => f a < f b)) (hx : ∀ y ∈ l, f y ≠ f x) (hp : r.Perm (l ++ [x])) (hr : r.Pairwise (fun a b => f a ≤ f b)) :
    r = l.takeWhile (fun y => decide (f y < f x)) ++ x :: l.dropWhile (fun y => decide (f y < f x)) := by
  have q := ins_pw f l x h hx
  have hp2 := hp.trans (ins_perm (fun y => decide (f y < f x)) l x).symm
  refine List.Perm.eq_of_pairwise (le := fun a b => f a ≤ f b) ?_ hr (q.imp (fun h => Int.le_of_lt h)) hp2
  intro a b ha hb h1 h2
  exact pw_inj f q a b (hp2.mem_iff.1 ha) hb (Int.le_antisymm h1 h2)
theorem seeL_of {l r : List Sn} {id code : Int} (h : (l.map Sn.id).Pairwise (· < ·)) (hx : ∀ y ∈ l, y.id ≠ id) (hp : r.Perm (l ++ [⟨id, code⟩])) (hr : r.Pairwise (fun a b => a.id ≤ b.id)) : r = seeL l id code :=
  ins_is Sn.id (x := ⟨id, code⟩) (List.pairwise_map.1 h) hx hp hr
theorem insH_of {l r : List Hld} {x : Hld} (h : (l.map Hld.id).Pairwise (· < ·)) (hx : ∀ y ∈ l, y.id ≠ x.id) (hp : r.Perm (l ++ [x])) (hr : r.Pairwise (fun a b => a.id ≤ b.id)) : r = insH l x :=
  ins_is Hld.id (List.pairwise_map.1 h) hx hp hr
end Go.Proofs.YteaopalhbnhbaaaGreatDoor
/- slices.SortFunc at the program's own rows. -/
namespace Go.Proofs
open Go.Shelf Go.RowKit Go.Lib Go.Sort
end Go.Proofs
namespace Go.Proofs.YteaopalhbnhbaaaGreatDoor
open Go.ChangeShapes Go.WideShapes Go.ChangeAt Go.RowKit Go.Shelf Go.Lib Go.Sort
set_option linter.unusedVariables false
set_option maxRecDepth 100000
instance : Inhabited Sn := ⟨⟨0, 0⟩⟩
instance : Inhabited Hld := ⟨⟨0, .empty, .empty, 0⟩⟩
theorem ltSn (x y : Sn) : ltOf (fun x y : Sn => Lib.compareInt x.id y.id) x y = decide (x.id < y.id) := by
  unfold ltOf Lib.compareInt
  by_cases h1 : x.id < y.id
  · simp [h1]
  · by_cases h2 : y.id < x.id <;> simp [h1, h2]
theorem swoSn : SWO (ltOf fun x y : Sn => Lib.compareInt x.id y.id) where
  irrefl x := by rw [ltSn]; simp
  trans x y z h1 h2 := by rw [ltSn] at *; simp at *; omega
  ntrans x y z h1 h2 := by rw [ltSn] at *; simp at *; omega
theorem ltHl (x y : Hld) : ltOf (fun x y : Hld => Lib.compareInt x.id y.id) x y = decide (x.id < y.id) := by
  unfold ltOf Lib.compareInt
  by_cases h1 : x.id < y.id
  · simp [h1]
  · by_cases h2 : y.id < x.id <;> simp [h1, h2]
theorem swoHl : SWO (ltOf fun x y : Hld => Lib.compareInt x.id y.id) where
  irrefl x := by rw [ltHl]; simp
  trans x y z h1 h2 := by rw [ltHl] at *; simp at *; omega
  ntrans x y z h1 h2 := by rw [ltHl] at *; simp at *; omega
end Go.Proofs.YteaopalhbnhbaaaGreatDoor
/- A row that was sorted in its place, as what a call owns. -/
namespace Go.Proofs.YteaopalhbnhbaaaGreatDoor
open Go.ChangeShapes Go.WideShapes Go.ChangeAt Go.RowKit Go.Shelf Go.Lib Go.Sort
set_option linter.unusedVariables false
theorem flatK_get {A : Type} [Inhabited A] (enc : A → List Value) (k : Nat) (hk : ∀ x, (enc x).length = k) (h0 : 0 < k) (l : List A) (t : Nat) (ht : t < l.length * k) : (flatK enc k l.toArray)[t]! = (l.flatMap enc)[t]! := by
  have hq : t / k < l.length := (Nat.div_lt_iff_lt_mul h0).2 ht
  have hm : t % k < k := Nat.mod_lt _ h0
  have e : (l.flatMap enc)[t]? = (enc l[t / k])[t % k]? := by
    have := flat_get enc k hk l (t / k) hq (t % k) hm
    rw [Nat.div_add_mod'] at this
    exact this
  rw [get_flatK enc k l.toArray t (by simpa using ht)]
  have e2 : l.toArray[t / k]! = l[t / k] := by simp [hq]
  rw [e2, List.getElem!_eq_getElem?_getD, List.getElem!_eq_getElem?_getD, e]
theorem holdsK_of {A : Type} [Inhabited A] (enc : A → List Value) (k : Nat) (hk : ∀ x, (enc x).length = k) (h0 : 0 < k) {w : World} {g : Nat} {cur : Array Value} {e : TypeId} {l : List A} (hb : w.heap[g]? = some (.cells cur e (0, 0))) (ht : cur.toList.take (l.length * k) = l.flatMap enc) : HoldsK enc k w g 0 l.toArray := by
  intro j hj
  have hj' : j < l.length * k := by simpa using hj
  refine ⟨?_, by simp [World.frozen?, hb]⟩
  have h1 : (cur.toList.take (l.length * k))[j]? = (l.flatMap enc)[j]? := by rw [ht]
  rw [List.getElem?_take_of_lt hj'] at h1
  rw [flatK_get enc k hk h0 l j hj']
  simp only [World.cell?, hb, Nat.zero_add]
  have hlen : j < (l.flatMap enc).length := by rw [flat_len enc k hk l]; exact hj'
  rw [← Array.getElem?_toList, h1, getElem!_pos _ j hlen, List.getElem?_eq_getElem hlen]
  rfl
theorem heap_sortedK {w : World} {g n : Nat} {os : Array Obj} {cur : Array Value} {e : TypeId} {fr : Nat × Nat} (F : Array Value) (hb : w.heap[g]? = some (.cells cur e fr)) :
    (grow (putRow id (Sort.ahead w n) g 0 F) os).heap[g]? = some (.cells (putCells id 0 F cur) e fr) := by
  have hg : g < w.heap.size := (Array.getElem?_eq_some_iff.1 hb).1
  rw [heap_grow_old _ _ (by simpa using hg)]
  simp [putRow, mapBlock, Sort.ahead, Array.getElem?_modify, hb, onCells]
theorem grownBy_sortedK {w : World} {g n : Nat} {os : Array Obj} (F : Array Value) : w.grownBy (grow (putRow id (Sort.ahead w n) g 0 F) os) (some g) := by
  refine ⟨rfl, rfl, rfl, by simp, fun k hk hne => ?_⟩
  rw [heap_grow_old _ _ (by simpa using hk)]
  have : g ≠ k := fun e => hne (by rw [e])
  simp [putRow, mapBlock, Sort.ahead, Array.getElem?_modify, this]
theorem take_putCellsK {A : Type} [Inhabited A] (enc : A → List Value) (k : Nat) (hk : ∀ x, (enc x).length = k) (h0 : 0 < k) (cur : Array Value) (l : List A) (h : l.length * k ≤ cur.size) : (putCells id 0 (flatK enc k l.toArray) cur).toList.take (l.length * k) = l.flatMap enc := by
  apply List.ext_getElem?
  intro j
  by_cases hj : j < l.length * k
  · have hlen : j < (l.flatMap enc).length := by rw [flat_len enc k hk l]; exact hj
    have e := flatK_get enc k hk h0 l j hj
    rw [List.getElem?_take_of_lt hj, Array.getElem?_toList, List.getElem?_eq_getElem hlen]
    have e2 : (l.flatMap enc)[j]! = (l.flatMap enc)[j] := getElem!_pos _ j hlen
    rw [← e2, ← e]
    simp [putCells, hj, show j < cur.size by omega]
  · rw [List.getElem?_take_eq_none (by omega), List.getElem?_eq_none (by rw [flat_len enc k hk l]; omega)]
/-- a row sorted in its place -/
theorem Pool.sorted {A : Type} [Inhabited A] (enc : A → List Value) (k : Nat) (hk : ∀ x, (enc x).length = k) (h0 : 0 < k) {F : List Nat} {w x : World} {S : List (List Rs)} (h : Pool F w S x) {i : Nat} {T : TypeId} {g cap : Nat} {l : List A} (hi : S[i]? = some [row T k (.slice (some ⟨g, 0, none⟩) l.length cap) l.length (l.flatMap enc)]) {r : List A} (hr : r.length = l.length) (m : Nat) (os : Array Obj) :
    Pool F w (S.set i [row T k (.slice (some ⟨g, 0, none⟩) l.length cap) r.length (r.flatMap enc)]) (sortWorldK enc k x g 0 m r.toArray os) := by
  have ho := h.rowAt hi
  obtain ⟨hlen, ⟨hv, _⟩ | ⟨g', cap', cur, hv, hb0, hb, h1, h2, h3, h4⟩⟩ := ho
  · cases hv
  · cases hv
    refine h.grow hi (v' := .slice (some ⟨g, 0, none⟩) l.length cap) ?_ (grownBy_sortedK _) (.inl rfl)
    have h5 : r.length * k ≤ cur.size := by rw [h3, hr]; exact Nat.mul_le_mul_right _ h1
    refine ⟨by rw [flat_len enc k hk r], .inr ⟨g, cap, _, by rw [hr], hb0, heap_sortedK _ hb, by rw [hr]; exact h1, h2, by simp [putCells, h3], take_putCellsK enc k hk h0 cur r h5⟩⟩
end Go.Proofs.YteaopalhbnhbaaaGreatDoor
/- slices.SortFunc at rows of a pool. -/
namespace Go.Proofs.YteaopalhbnhbaaaGreatDoor
open Go.ChangeShapes Go.WideShapes Go.ChangeAt Go.RowKit Go.Shelf Go.Lib Go.Sort
set_option linter.unusedVariables false
end Go.Proofs.YteaopalhbnhbaaaGreatDoor
/- The contract of the book's note. -/
namespace Go.Proofs.YteaopalhbnhbaaaGreatDoor
open Go.ChangeShapes Go.WideShapes Go.ChangeAt Go.RowKit Go.Maps
set_option linter.unusedVariables false
set_option maxRecDepth 100000
end Go.Proofs.YteaopalhbnhbaaaGreatDoor
/- errors.Is and errors.As at the program's own refusals. -/
namespace Go.Proofs.YteaopalhbnhbaaaGreatDoor
open Go.RowKit Go.Extern.Stop Go.Stop Go.Extern
set_option maxRecDepth 100000
theorem isComp : (Tryz.prog.info? 176).map (·.comparable) = some true := by kernel_rfl
theorem isSize : (Tryz.prog.info? 178).map (·.size) = some 1 := by kernel_rfl
theorem tas_kind25 (w : World) : ((ReflectliteType.abiMethod fun t => (fun a : Nat => Value.int IntKind.u8 (a : Int)) <$> Rtype.kind t) #[.pointer (some ⟨8, 139, none⟩)]).run Tryz.prog w = .ok (.int .u8 22) w := by kernel_rfl
theorem rlm (z : Sem Value) (f : TypeId → Addr → Nat → Nat → Sem Value) (v : Value) :
    ReflectliteValue.method z f #[v] = (do match ← ReflectliteValue.parts v with | none => z | some (t, a, fl) => f t a fl (fl % 32)) := rfl
theorem tas_valueOf25 (e : Addr) (w : World) : (ReflectliteValue.unpack (.iface 139 (.pointer (some e)))).run Tryz.prog w
    = .ok (.agg #[.pointer (some ⟨8, 139, none⟩), .pointer (some ⟨w.heap.size, 0, none⟩), .int .u64 150]) (w.alloc (.cells #[.pointer (some e)] 139)) := by kernel_rfl
theorem tas_mk25 (p : Addr) (w : World) : (ReflectliteValue.mk 139 p ReflectliteValue.flagAddr).run Tryz.prog w = .ok (.agg #[.pointer (some ⟨8, 139, none⟩), .pointer (some p), .int .u64 406]) w := by kernel_rfl
theorem rls (v x : Value) : ReflectliteValue.set #[v, x] = (do
    let (some (dst, a, fl), some (src, b, _)) := (← ReflectliteValue.parts v, ← ReflectliteValue.parts x)
      | unsupported (.noEntry "extern/(internal/reflectlite.Value).Set.zeroValue")
    if fl / ReflectliteValue.flagAddr % 2 == 0 then unsupported (.noEntry "extern/(internal/reflectlite.Value).Set.unaddressable")
    let val ← loadVar src b
    if ← Rtype.directlyAssignable dst src then storeVar dst a val
    else if ← Rtype.implements dst src then
      if (← Rtype.kind src) == 20 then
        match val with
        | .nilIface => unsupported (.noEntry "extern/reflectlite: a nil value of one interface type handed on as a value of another")
        | _ => storeVar dst a val
      else storeVar dst a (.iface src val)
    else panicString ("reflectlite.Set: value of type " ++ (← Rtype.spelt src) ++ " is not assignable to type " ++ (← Rtype.spelt dst))
    pure (.tuple #[])) := rfl
theorem tas_parts25a (a : Addr) (w : World) : (ReflectliteValue.parts (.agg #[.pointer (some ⟨8, 139, none⟩), .pointer (some a), .int .u64 406])).run Tryz.prog w = .ok (some (139, a, 406)) w := by kernel_rfl
theorem tas_parts25 (a : Addr) (w : World) : (ReflectliteValue.parts (.agg #[.pointer (some ⟨8, 139, none⟩), .pointer (some a), .int .u64 150])).run Tryz.prog w = .ok (some (139, a, 150)) w := by kernel_rfl
theorem tas_direct25 (w : World) : (Rtype.directlyAssignable 139 139).run Tryz.prog w = .ok true w := by kernel_rfl
theorem tas_size25 (w : World) : (sizeOf 139).run Tryz.prog w = .ok 1 w := by kernel_rfl
theorem tas_set25 (ta b e : Addr) (old : Value) (W : World) (hb : W.cell? b = some (.pointer (some e))) (ht : W.cell? ta = some old) (hf : W.frozen? ta = false) :
    (ReflectliteValue.set #[.agg #[.pointer (some ⟨8, 139, none⟩), .pointer (some ta), .int .u64 406], .agg #[.pointer (some ⟨8, 139, none⟩), .pointer (some b), .int .u64 150]]).run Tryz.prog W
      = .ok (.tuple #[]) (W.setCell ta (.pointer (some e))) := by
  rw [rls]
  simp only [Sem.run_bind, tas_parts25a, tas_parts25, Result.andThen]
  simp [ReflectliteValue.flagAddr, loadVar, isAgg, underlying, Tryz.underlying139, hb, Result.andThen, tas_direct25, storeVar, Value.cells, storeCells, Addr.add]
  rw [run_store Tryz.prog W ta _ _ (by rfl)]
  simp [ht, hf]
end Go.Proofs.YteaopalhbnhbaaaGreatDoor
/- slices.Delete at holds: a row without one of them. -/
namespace Go.Proofs.YteaopalhbnhbaaaGreatDoor
open Go.ChangeShapes Go.WideShapes Go.ChangeAt Go.RowKit Go.Maps
set_option linter.unusedVariables false
set_option maxRecDepth 100000
theorem flat_takeK {A B : Type} (f : A → List B) (n : Nat) (hf : ∀ x, (f x).length = n) (l : List A) (k : Nat) : (l.flatMap f).take (k * n) = (l.take k).flatMap f := by
  induction l generalizing k with
  | nil => simp
  | cons x t ih =>
    cases k with
    | zero => simp
    | succ k =>
      rw [List.flatMap_cons, List.take_succ_cons, List.flatMap_cons, List.take_append, hf x, List.take_of_length_le (by rw [hf x, Nat.succ_mul]; omega), show (k + 1) * n - n = k * n by rw [Nat.succ_mul]; omega, ih k]
theorem flat_dropK {A B : Type} (f : A → List B) (n : Nat) (hf : ∀ x, (f x).length = n) (l : List A) (k : Nat) : (l.flatMap f).drop (k * n) = (l.drop k).flatMap f := by
  induction l generalizing k with
  | nil => simp
  | cons x t ih =>
    cases k with
    | zero => simp
    | succ k =>
      rw [List.flatMap_cons, List.drop_succ_cons, List.drop_append, hf x, List.drop_eq_nil_of_le (by rw [hf x, Nat.succ_mul]; omega), show (k + 1) * n - n = k * n by rw [Nat.succ_mul]; omega, ih k]
      rfl
theorem heap_setCell_here {w : World} {g o : Nat} {cur : Array Value} {t : TypeId} {fr : Nat × Nat} (hg : w.heap[g]? = some (.cells cur t fr)) (v : Value) : (w.setCell ⟨g, o, none⟩ v).heap[g]? = some (.cells (cur.setIfInBounds o v) t fr) := by
  simp [World.setCell, Array.getElem?_modify, hg]
theorem heap_setCells_here {g : Nat} {t : TypeId} {fr : Nat × Nat} : ∀ (vs : List Value) (o : Nat) (w : World) (cur : Array Value), w.heap[g]? = some (.cells cur t fr) → o + vs.length ≤ cur.size → (w.setCells g o vs).heap[g]? = some (.cells (cur.toList.take o ++ vs ++ cur.toList.drop (o + vs.length)).toArray t fr)
  | [], o, w, cur, hg, ho => by
    rw [World.setCells, hg]
    simp
  | v :: r, o, w, cur, hg, ho => by
    rw [World.setCells, heap_setCells_here r (o + 1) _ _ (heap_setCell_here hg v) (by simp at ho ⊢; omega)]
    have := list_seg_step cur.toList o v r (by simpa using ho)
    simp only [Array.toList_setIfInBounds]
    rw [this]
    simp
theorem grown_setRow (w : World) (g : Nat) (cs : Array Value) : w.grownBy (w.setRow g cs) (some g) :=
  ⟨rfl, rfl, rfl, by simp, fun k hk hne => setRow_other w g k cs (fun e => hne (by rw [e]))⟩
theorem grown_trans {a b c : World} {o : Option Nat} (h : a.grownBy b o) (k : b.grownBy c o) : a.grownBy c o :=
  ⟨k.os.trans h.os, k.tape.trans h.tape, k.output.trans h.output, Nat.le_trans h.size k.size, fun i hi hn => (k.block i (Nat.lt_of_lt_of_le hi h.size) hn).trans (h.block i hi hn)⟩
theorem grown_setCells (g : Nat) : ∀ (vs : List Value) (o : Nat) (w : World), w.grownBy (w.setCells g o vs) (some g)
  | [], _, _ => ⟨rfl, rfl, rfl, Nat.le_refl _, fun _ _ _ => rfl⟩
  | v :: r, o, w => grown_trans (grown_set w g o v) (grown_setCells g r (o + 1) _)
/-- clear of one element -/
theorem run_clear_one {P : Program} (w : World) (t e ty : TypeId) (z : Value) (ht : P.underlying t = some (.slice e)) (hv : ∀ w, (zeroValue e).run P w = .ok z w) (zs : List Value) (hz : (Builtin.zeroCells z.cells 1).toList = zs) (h1 : ∀ v ∈ zs, v.oneCell' = true) (g o c : Nat) (cur : Array Value) (te : TypeId) (hg : w.heap[g]? = some (.cells cur te (0, 0))) (hfit : o + zs.length ≤ cur.size) :
    (Builtin.clear_ #[t] ty #[.slice (some ⟨g, o, none⟩) 1 c]).run P w = .ok (.tuple #[]) (w.setRow g (cur.toList.take o ++ zs ++ cur.toList.drop (o + zs.length)).toArray) := by
  have hst := run_storeCells_at P g o te zs 0 cur w hg (by simpa using hfit) h1
  simp only [Nat.add_zero] at hst
  simp [Builtin.clear_, run_underlying ht, hv, hz, hst]
/-- a list without one -/
def cutL {A : Type} (l : List A) (k : Nat) : List A := l.take k ++ l.drop (k + 1)
theorem cutL_len {A : Type} (l : List A) (k : Nat) (hk : k < l.length) : (cutL l k).length = l.length - 1 := by simp [cutL]; omega
/-- a row of the call's own without one -/
def DelEnd (g c : Nat) (l : List Hld) (k : Nat) (w : World) (e : Ending) (w' : World) : Prop := e = .returned (.slice (some ⟨g, 0, none⟩) (l.length - 1) c) ∧ w'.ownsRow 0 53 4 (.slice (some ⟨g, 0, none⟩) (l.length - 1) c) (l.length - 1) ((cutL l k).flatMap hldCells) ∧ w.grownBy w' (some g)
end Go.Proofs.YteaopalhbnhbaaaGreatDoor
/- The contract of slices.Insert over holds: one more, at its place. -/
namespace Go.Proofs.YteaopalhbnhbaaaGreatDoor
open Go.ChangeShapes Go.WideShapes Go.ChangeAt Go.RowKit
set_option linter.unusedVariables false
set_option maxRecDepth 100000
/-- copy of rows whose elements have some cells -/
theorem run_copy_rowK {P : Program} (w : World) (dT sT ty elem : TypeId) (g o dLen dCap : Nat) (a : Addr) (sLen sCap size : Nat) (cur : Array Value) (t : TypeId) (cs : List Value)
    (hu : P.underlying dT = some (.slice elem)) (hs : (P.info? elem).map (·.size) = some size)
    (hg : w.heap[g]? = some (.cells cur t (0, 0))) (hn : cs.length = Nat.min sLen dLen * size)
    (hsrc : ∀ j v, cs[j]? = some v → w.cell? (a.add j) = some v) (hfit : o + cs.length ≤ cur.size) (h1 : ∀ v ∈ cs, v.oneCell' = true) :
    (Builtin.copy_ #[dT, sT] ty #[.slice (some ⟨g, o, none⟩) dLen dCap, .slice (some a) sLen sCap]).run P w =
      .ok (goInt (Nat.min sLen dLen)) (w.setRow g (cur.toList.take o ++ cs ++ cur.toList.drop (o + cs.length)).toArray) := by
  have hl := run_loadCells_list (P := P) w a cs hsrc
  have hst := run_storeCells_at P g o t cs 0 cur w hg (by simpa using hfit) h1
  cases hq : P.info? elem with
  | none => simp [hq] at hs
  | some i =>
    have hi : i.size = size := by simpa [hq] using hs
    simp [Builtin.copy_, run_underlying hu, Builtin.lenOf, Builtin.firstCells, sizeOf, typeInfo, hq, hi, ← hn, hl, hst]
theorem wp_copy_runI {P : Program} (w : World) {o : Oper} {a : Act} {K : Act → World → Prop} {Q : Exit → Act → World → Prop} (d s : Operand) (t t' : TypeId)
    (ho : o.op = .call { callee := .builtin .copy, args := #[d, s], argTypes := #[t, t'] }) (v u : Value) (hd : a.eval d = v) (hs : a.eval s = u) {v' : Value} {w' : World}
    (hr : (Builtin.copy_ #[t, t'] o.type #[v, u]).run P w = .ok v' w') (h : K (a.put o.dst v') w') : o.wp P a w K Q := by
  unfold Oper.wp execOp
  simp only [ho, resolve, invoke, builtin, Sem.run_bind, Sem.run_pure, Result.andThen_ok, List.map_toArray, List.map_cons, List.map_nil, hd, hs, hr]
  exact h
theorem exec_copy {P : Program} {w w' : World} {o : Oper} {ev : Operand → Value} {d s : Operand} {t t' : TypeId} {v u v' : Value} (hop : o.op = Op.call { callee := Callee.builtin Builtin.copy, args := #[d, s], argTypes := #[t, t'] }) (hd : ev d = v) (hs : ev s = u) (hr : (Builtin.copy_ #[t, t'] o.type #[v, u]).run P w = .ok v' w') : (execOp ev o).run P w = .ok (.value v') w' := by
  unfold execOp
  simp only [hop, resolve, invoke, builtin, Sem.run_bind, Sem.run_pure, Result.andThen_ok, List.map_toArray, List.map_cons, List.map_nil, hd, hs, hr]
theorem wpList_copy_runI {P : Program} (w : World) {ops : Array Oper} {rest : List Oper} {o : Oper} {a : Act} {Q : Exit → Act → World → Prop} (hgd : o.guard = none) (d s : Operand) (t t' : TypeId)
    (ho : o.op = .call { callee := .builtin .copy, args := #[d, s], argTypes := #[t, t'] }) (v u : Value) (hd : a.eval d = v) (hs : a.eval s = u) {v' : Value} {w' : World}
    (hr : (Builtin.copy_ #[t, t'] o.type #[v, u]).run P w = .ok v' w') (h : wpList P ops Q rest (a.put o.dst v') w') : wpList P ops Q (o :: rest) a w :=
  wpList_plain hgd fun _ hK => wp_copy_runI w d s t t' ho v u hd hs hr (hK _ _ h)
def insHL (l : List Hld) (k : Nat) (x : Hld) : List Hld := l.take k ++ x :: l.drop k
theorem insHL_len (l : List Hld) (k : Nat) (x : Hld) (hk : k ≤ l.length) : (insHL l k x).length = l.length + 1 := by simp [insHL]; omega
/-- a row of the call's own with one more -/
def InhEnd (v : Value) (l : List Hld) (k : Nat) (x : Hld) (w : World) (e : Ending) (w' : World) : Prop := ∃ v', e = .returned v' ∧ w'.ownsRow 0 53 4 v' (l.length + 1) ((insHL l k x).flatMap hldCells) ∧ w.grownBy w' v.ownBlock ∧ (v'.ownBlock = v.ownBlock ∨ v'.ownBlock = some w.heap.size)
structure InhG (g k n c : Nat) (w W1 : World) (l0 l1 l2 l3 l4 l5 l6 l7 l8 : Bool) (u69 u70 u71 u72 u73 u74 u75 u76 u77 : Value) (x : World) : Prop where
  wb : l8 = false → x = w.drew
  wa : l8 = true → x = W1
  p69 : l0 = true → u69 = .slice (some ⟨g, 0, none⟩) (n + 1) c
  p70 : l1 = true → u70 = .int .i64 (k : Int)
  p71 : l2 = true → u71 = .int .i64 1
  p72 : l3 = true → u72 = .int .i64 ((k : Int) + 1)
  p73 : l4 = true → u73 = .slice (some ⟨g, (k + 1) * 4, none⟩) (n + 1 - (k + 1)) (c - (k + 1))
  p74 : l5 = true → u74 = .slice (some ⟨g, 0, none⟩) (n + 1) c
  p75 : l6 = true → u75 = .int .i64 (k : Int)
  p76 : l7 = true → u76 = .slice (some ⟨g, k * 4, none⟩) (n + 1 - k) (c - k)
end Go.Proofs.YteaopalhbnhbaaaGreatDoor
/- The contracts of maps.Keys and slices.Sorted, laid at this program: the kernel holds each body against the body that the contract was proved of. -/
namespace Go.Proofs
open Go.Shelf
open Go.RowKit Go.Maps Go.Sort
end Go.Proofs
/- The contract of the book's hold. -/
namespace Go.Proofs.YteaopalhbnhbaaaGreatDoor
open Go.ChangeShapes Go.WideShapes Go.ChangeAt Go.RowKit Go.Maps
set_option linter.unusedVariables false
set_option maxRecDepth 100000
/-- the code of a hold that is denied -/
def holdC (A : List Acc) (H : List Hld) (hd : Hld) : Option Int := match pairC A hd.fr hd.to with
  | some c => some c
  | none => match idxA A hd.fr with
    | some i => if 1000000000000 < heldL hd.fr H + hd.amount then some 8 else (match A[i]? with
      | some y => if covB y (heldL y.name H) hd.amount then none else some 7
      | none => none)
    | none => none
def holdL (A : List Acc) (H : List Hld) (hd : Hld) : List Hld := match holdC A H hd with
  | none => insH H hd
  | some _ => H
theorem holdC_at {A : List Acc} {H : List Hld} {hd : Hld} {i : Nat} (hp : pairC A hd.fr hd.to = none) (hi : idxA A hd.fr = some i) (hil : i < A.length) :
    holdC A H hd = if 1000000000000 < heldL hd.fr H + hd.amount then some 8 else if covB A[i] (heldL A[i].name H) hd.amount then none else some 7 := by
  simp [holdC, hp, hi, hil]
/-- what hold leaves -/
def HoldEnd (q m : Nat) (ps : List Nat) (sv : Value) (D : Led) (hd : Hld) (g : Value) (FF : List Nat) (w : World) (e : Ending) (w' : World) : Prop :=
  ∃ hv', DoEnd (holdC D.acc D.hold hd) g FF (bkS q m ps hv' sv D.acc (holdL D.acc D.hold hd) D.seen).flatten w e w'
structure HoF (FF : List Nat) (w : World) (q m : Nat) (ps : List Nat) (ha : Option Addr) (ch : Nat) (sv : Value) (D : Led) (hd : Hld) (W : Nat) (w1 : World) (l0 l1 l2 l3 l4 l5 l6 l7 : Bool) (u21 u22 u23 u24 u25 u26 u27 u28 : Value) (x : World) : Prop where
  pool : Pool FF w [[blk q [.map (some m), .slice ha D.hold.length ch, sv]], [mapR m (D.acc.map Acc.name) ps], accB' ps D.acc, [row 53 4 (.slice ha D.hold.length ch) D.hold.length (D.hold.flatMap hldCells)], [row 55 2 sv D.seen.length (D.seen.flatMap snCells)], [], [blk W (hldCells hd)]] x
  bel : Below w1.heap.size w1 x
  p21 : l0 = true → u21 = .pointer (some ⟨q, 0, none⟩)
  p22 : l1 = true → u22 = .pointer (some ⟨W, 1, none⟩)
  p23 : l2 = true → u23 = .string hd.fr
  p24 : l3 = true → u24 = .int .i64 (heldL hd.fr D.hold)
  p25 : l4 = true → u25 = .pointer (some ⟨W, 3, none⟩)
  p26 : l5 = true → u26 = .int .i64 hd.amount
  p27 : l6 = true → u27 = .int .i64 (heldL hd.fr D.hold + hd.amount)
  p28 : l7 = true → u28 = .bool (decide (heldL hd.fr D.hold + hd.amount > 1000000000000))
structure HoA (FF : List Nat) (w : World) (q m : Nat) (ps : List Nat) (ha : Option Addr) (ch : Nat) (sv : Value) (D : Led) (hd : Hld) (W : Nat) (l0 l1 l2 l3 l4 l5 l6 l7 l8 l9 l10 : Bool) (u37 u38 u39 u40 u41 u42 u43 u44 u45 u46 : Value) (x : World) : Prop where
  pool : Pool FF w [cond l10 [blk q [.map (some m), u44, sv]] [blk q [.map (some m), (.slice ha D.hold.length ch), sv]], [mapR m (D.acc.map Acc.name) ps], accB' ps D.acc, cond l7 [row 53 4 u44 (D.hold.length + 1) (D.hold.flatMap hldCells ++ hldCells hd)] [row 53 4 (.slice ha D.hold.length ch) D.hold.length (D.hold.flatMap hldCells)], [row 55 2 sv D.seen.length (D.seen.flatMap snCells)], [], [blk W (hldCells hd)], cond l6 [blk (gOf (slA u43)) (hldCells hd)] []] x
  q43 : l6 = true → u43 = .slice (some ⟨gOf (slA u43), 0, none⟩) 1 1
  d7_6 : l7 = true → l6 = true
  d7_4 : l7 = true → l4 = true
  d10_7 : l10 = true → l7 = true
  d10_4 : l10 = true → l4 = true
  p37 : l0 = true → u37 = .pointer (some ⟨q, 0, none⟩)
  p38 : l1 = true → u38 = .pointer (some ⟨q, 0, none⟩)
  p39 : l2 = true → u39 = .pointer (some ⟨q, 0, none⟩)
  p45 : l8 = true → u45 = .pointer (some ⟨q, 0, none⟩)
  p40 : l3 = true → u40 = .pointer (some ⟨q, 1, none⟩)
  p46 : l9 = true → u46 = .pointer (some ⟨q, 1, none⟩)
  p41 : l4 = true → u41 = (.slice ha D.hold.length ch)
  p42 : l5 = true → u42 = .agg #[.int .i64 hd.id, .string hd.fr, .string hd.to, .int .i64 hd.amount]
end Go.Proofs.YteaopalhbnhbaaaGreatDoor
/- What a right ledger has besides; what do makes of it, in the program's words and in the model's. -/
namespace Go.Proofs.YteaopalhbnhbaaaGreatDoor
open Go.ChangeShapes Go.WideShapes Go.ChangeAt Go.RowKit Go.Maps
set_option linter.unusedVariables false
theorem lessB_eq : ∀ (x y : List UInt8), Op.bytesLess x y = decide (x < y)
  | [], [] => rfl
  | [], _ :: _ => rfl
  | _ :: _, [] => rfl
  | a :: s, b :: t => by
    rw [Op.bytesLess, lessB_eq s t, Bool.eq_iff_iff]
    simp [List.cons_lt_cons_iff]
theorem less_iff {a b : ByteArray} : Op.bytesLess a.toList b.toList = true ↔ a.toList < b.toList := by rw [lessB_eq]; simp
theorem toList_inj {a b : ByteArray} (h : a.toList = b.toList) : a = b := sameB_iff.1 (beq_iff_eq.2 h)
theorem tri (a b : ByteArray) : a.toList < b.toList ∨ a = b ∨ b.toList < a.toList := by
  by_cases h1 : a.toList < b.toList
  · exact .inl h1
  · by_cases h2 : b.toList < a.toList
    · exact .inr (.inr h2)
    · exact .inr (.inl (toList_inj (List.le_antisymm (List.not_lt.1 h2) (List.not_lt.1 h1))))
theorem ltB_iff {a b : ByteArray} : ltB a b = true ↔ a.toList < b.toList := by
  unfold ltB
  rw [lessB_eq]
  simp only [Bool.and_eq_true, Bool.not_eq_true', decide_eq_false_iff_not, beq_eq_false_iff_ne]
  constructor
  · rintro ⟨h1, h2⟩
    rcases tri a b with h | rfl | h
    · exact h
    · exact absurd rfl h2
    · exact absurd h h1
  · intro h
    refine ⟨List.not_lt.2 (List.le_of_lt h), fun e => ?_⟩
    rw [e] at h
    exact List.lt_irrefl _ h
/-- accounts by their names, rising -/
def Srt (l : List Acc) : Prop := l.Pairwise (fun x y => x.name.toList < y.name.toList)
theorem srt_names {A B : List Acc} (h : A.map Acc.name = B.map Acc.name) (k : Srt A) : Srt B := by
  have k1 : (A.map Acc.name).Pairwise (fun x y => x.toList < y.toList) := List.pairwise_map.2 k
  rw [h] at k1
  have k2 := List.pairwise_map.1 k1
  exact k2
theorem srt_off {l : List Acc} (h : Srt l) : ∀ i j (hi : i < l.length) (hj : j < l.length), i < j → l[i].name ≠ l[j].name := fun i j hi hj hij e => by
  have := List.pairwise_iff_getElem.1 h i j hi hj hij
  rw [e] at this
  exact List.lt_irrefl _ this
theorem tw_all {X : Type} {p : X → Bool} : ∀ {l : List X}, ∀ y ∈ l.takeWhile p, p y = true
  | [], y, h => by simp at h
  | a :: l, y, h => by
    rw [List.takeWhile_cons] at h
    split at h
    · rcases List.mem_cons.1 h with rfl | h
      · assumption
      · exact tw_all y h
    · simp at h
theorem dw_head {X : Type} {p : X → Bool} : ∀ {l : List X} {y : X} {r : List X}, l.dropWhile p = y :: r → p y = false
  | [], y, r, h => by simp at h
  | a :: l, y, r, h => by
    rw [List.dropWhile_cons] at h
    split at h
    · exact dw_head h
    · rename_i q
      cases h
      simpa using q
theorem srt_ins {l : List Acc} {x : Acc} (h : Srt l) (hx : ∀ y ∈ l, y.name ≠ x.name) : Srt (insA l x) := by
  unfold insA
  have e := List.takeWhile_append_dropWhile (p := fun y : Acc => !ltB x.name y.name) (l := l)
  have h2 := h
  unfold Srt at h2
  rw [← e, List.pairwise_append] at h2
  obtain ⟨p1, p2, p3⟩ := h2
  have q1 : ∀ y ∈ l.takeWhile (fun y : Acc => !ltB x.name y.name), y.name.toList < x.name.toList := fun y hy => by
    have a1 := tw_all y hy
    have a2 : y ∈ l := by rw [← e]; exact List.mem_append_left _ hy
    rcases tri y.name x.name with t | t | t
    · exact t
    · exact absurd t (hx y a2)
    · rw [ltB_iff.2 t] at a1
      cases a1
  have q2 : ∀ y ∈ l.dropWhile (fun y : Acc => !ltB x.name y.name), x.name.toList < y.name.toList := fun y hy => by
    cases hd : l.dropWhile (fun y : Acc => !ltB x.name y.name) with
    | nil => rw [hd] at hy; cases hy
    | cons z r =>
      have a1 := dw_head hd
      have a2 : x.name.toList < z.name.toList := ltB_iff.1 (by simpa using a1)
      rw [hd] at hy p2
      rcases List.mem_cons.1 hy with rfl | hy
      · exact a2
      · exact List.lt_trans a2 ((List.pairwise_cons.1 p2).1 y hy)
  unfold Srt
  rw [List.pairwise_append]
  refine ⟨p1, List.pairwise_cons.2 ⟨q2, p2⟩, fun a ha b hb => ?_⟩
  rcases List.mem_cons.1 hb with rfl | hb
  · exact q1 a ha
  · exact p3 a ha b hb
theorem heldL_app (nm : ByteArray) (a b : List Hld) : heldL nm (a ++ b) = heldL nm a + heldL nm b := by
  induction a with
  | nil => simp [heldL]
  | cons x l ih => simp only [List.cons_append, heldL, ih]; omega
theorem heldL_ins (nm : ByteArray) (l : List Hld) (x : Hld) : heldL nm (insH l x) = heldL nm l + (if x.fr = nm then x.amount else 0) := by
  have e := List.takeWhile_append_dropWhile (p := fun y : Hld => decide (y.id < x.id)) (l := l)
  have e2 : heldL nm l = heldL nm (l.takeWhile (fun y : Hld => decide (y.id < x.id))) + heldL nm (l.dropWhile (fun y : Hld => decide (y.id < x.id))) := by rw [← heldL_app, e]
  rw [e2]
  unfold insH
  rw [heldL_app]
  simp only [heldL]
  omega
theorem heldL_pos {nm : ByteArray} {l : List Hld} (h : ∀ x ∈ l, 0 ≤ x.amount) : 0 ≤ heldL nm l := by
  induction l with
  | nil => simp [heldL]
  | cons x l ih =>
    have h1 := ih (fun y hy => h y (List.mem_cons_of_mem _ hy))
    have h2 := h x (List.mem_cons_self ..)
    simp only [heldL]
    split <;> omega
theorem cut_split {X : Type} (l : List X) (k : Nat) (hk : k < l.length) : l = l.take k ++ l[k] :: l.drop (k + 1) := by
  rw [List.getElem_cons_drop, List.take_append_drop]
theorem heldL_cut {nm : ByteArray} {l : List Hld} (h : ∀ x ∈ l, 0 ≤ x.amount) {k : Nat} (hk : k < l.length) : heldL nm (cutL l k) ≤ heldL nm l := by
  have e : heldL nm l = heldL nm (l.take k) + heldL nm (l[k] :: l.drop (k + 1)) := by rw [← heldL_app, ← cut_split l k hk]
  have h2 := h _ (List.getElem_mem hk)
  rw [e]
  unfold cutL
  rw [heldL_app]
  simp only [heldL]
  split <;> omega
theorem cut_mem {X : Type} {l : List X} {k : Nat} {x : X} (h : x ∈ cutL l k) : x ∈ l := by
  rcases List.mem_append.1 h with h | h
  · exact List.mem_of_mem_take h
  · exact List.mem_of_mem_drop h
theorem cut_back {X : Type} (l : List X) (k : Nat) (hk : k < l.length) : (cutL l k).take k ++ l[k] :: (cutL l k).drop k = l := by
  have h1 : (l.take k).length = k := by rw [List.length_take]; omega
  have e1 : (cutL l k).take k = l.take k := by unfold cutL; rw [List.take_append, h1, Nat.sub_self, List.take_zero, List.append_nil, List.take_take, Nat.min_self]
  have e2 : (cutL l k).drop k = l.drop (k + 1) := by unfold cutL; rw [List.drop_append, h1, Nat.sub_self, List.drop_zero, List.drop_eq_nil_of_le (by omega), List.nil_append]
  rw [e1, e2]
  exact (cut_split l k hk).symm
/-- what a right ledger has besides -/
structure LedM (D : Led) : Prop where
  srt : Srt D.acc
  held : ∀ x ∈ D.acc, heldL x.name D.hold ≤ 1000000000000
  prs : ∀ h ∈ D.hold, pairC D.acc h.fr h.to = none ∧ h.fr ≠ h.to ∧ 1 ≤ h.amount ∧ h.amount ≤ 1000000000000
  sx : ∀ x ∈ D.acc, SmallX x
theorem led_m {D : Led} (k : ledS D = true) : LedM D := by
  have hok := led_ok k
  unfold ledS at k
  simp only [Bool.and_eq_true, decide_eq_true_eq] at k
  obtain ⟨⟨⟨⟨⟨⟨k1, k2⟩, k3⟩, k4⟩, k5⟩, k6⟩, k7⟩ := k
  refine ⟨?_, fun x hx => ?_, fun h hh => ?_, fun x hx => ?_⟩
  · unfold Srt
    rw [List.pairwise_iff_getElem]
    intro i j hi hj hij
    induction j with
    | zero => omega
    | succ j ih =>
      have h1 := allTo_get k6 hj
      rw [accB_at hj, rises_name hj] at h1
      simp only [Bool.and_eq_true] at h1
      have h2 := less_iff.1 h1.1.1.2
      rcases Nat.lt_or_ge i j with q | q
      · exact List.lt_trans (ih (by omega) q) h2
      · obtain rfl : i = j := by omega
        exact h2
  · obtain ⟨i, hi, rfl⟩ := List.mem_iff_getElem.1 hx
    have q := allTo_get k6 hi
    rw [accB_at hi] at q
    simp only [Bool.and_eq_true, withinB, decide_eq_true_eq] at q
    exact q.1.2.1.2
  · obtain ⟨i, hi, rfl⟩ := List.mem_iff_getElem.1 hh
    have q := allTo_get k5 hi
    rw [holdB_at hi] at q
    simp only [Bool.and_eq_true] at q
    have q2 := q.2
    cases e1 : idxA D.acc (D.hold[i]).fr with
    | none => rw [pairB_none1 e1] at q2; cases q2
    | some a =>
      cases e2 : idxA D.acc (D.hold[i]).to with
      | none => rw [pairB_none2 e2] at q2; cases q2
      | some b =>
        obtain ⟨ha, na, _⟩ := idxA_lt e1
        obtain ⟨hb, nb, _⟩ := idxA_lt e2
        rw [pairB_some e1 e2 ha hb] at q2
        simp only [Bool.and_eq_true, decide_eq_true_eq] at q2
        refine ⟨?_, fun e => ?_, (inB_iff.1 q2.2).1, (inB_iff.1 q2.2).2⟩
        · unfold pairC
          rw [e1, e2]
          simp only
          rw [sameC_at ha hb, q2.1.2]
          rfl
        · rw [e, e2] at e1
          exact q2.1.1 (by cases e1; rfl)
  · exact ⟨hok.lim x hx, hok.a.2 x hx⟩
/-- the model's hold is the program's -/
theorem hold_move {D : Led} {c : Cm} (hm : LedM D) (hk : c.kind = 3) :
    moveM D c = (⟨D.acc, holdL D.acc D.hold ⟨c.id, c.fr, c.to, c.am⟩, D.seen⟩, (holdC D.acc D.hold ⟨c.id, c.fr, c.to, c.am⟩).getD 0) := by
  unfold moveM
  cases e1 : idxA D.acc c.fr with
  | none =>
    have e : holdC D.acc D.hold ⟨c.id, c.fr, c.to, c.am⟩ = some 5 := by simp [holdC, pairC, e1]
    simp [holdL, e]
  | some i =>
    cases e2 : idxA D.acc c.to with
    | none =>
      have e : holdC D.acc D.hold ⟨c.id, c.fr, c.to, c.am⟩ = some 5 := by simp [holdC, pairC, e1, e2]
      simp [holdL, e]
    | some j =>
      cases e3 : sameC D.acc i j with
      | false =>
        have e : holdC D.acc D.hold ⟨c.id, c.fr, c.to, c.am⟩ = some 6 := by simp [holdC, pairC, e1, e2, e3]
        simp [holdL, e, e3]
      | true =>
        obtain ⟨hil, eni, _⟩ := idxA_lt e1
        have hp : pairC D.acc c.fr c.to = none := by simp [pairC, e1, e2, e3]
        have hc := holdC_at (H := D.hold) (hd := ⟨c.id, c.fr, c.to, c.am⟩) hp e1 hil
        simp only [e3, if_true]
        rw [if_neg (by omega)]
        unfold holdM
        rw [heldL_ins, if_pos rfl]
        have hh : heldL (D.acc[i]).name (insH D.hold ⟨c.id, c.fr, c.to, c.am⟩) = heldL c.fr D.hold + c.am := by rw [heldL_ins, eni, if_pos rfl]
        have hkp : keepsB D.acc (insH D.hold ⟨c.id, c.fr, c.to, c.am⟩) i = withinB D.acc[i] (heldL c.fr D.hold + c.am) := by simp [keepsB, hil, hh]
        rw [hkp]
        simp only at hc
        by_cases k8 : 1000000000000 < heldL c.fr D.hold + c.am
        · rw [if_pos k8] at hc ⊢
          simp [holdL, hc]
        · rw [if_neg k8] at hc ⊢
          have hx := hm.sx _ (List.getElem_mem hil)
          have hcv : withinB D.acc[i] (heldL c.fr D.hold + c.am) = covB D.acc[i] (heldL (D.acc[i]).name D.hold) c.am := by
            obtain ⟨⟨x1, x2⟩, x3, x4⟩ := hx
            have i1 : inB (-1000000000000) 1000000000000 (D.acc[i]).posted = true := inB_iff.2 ⟨x3, x4⟩
            have i2 : decide (heldL c.fr D.hold + c.am ≤ 1000000000000) = true := decide_eq_true (by omega)
            unfold withinB covB
            rw [i1, i2, eni, Bool.true_and, Bool.true_and, Bool.eq_iff_iff]
            simp only [Bool.or_eq_true, decide_eq_true_eq]
            omega
          rw [hcv]
          cases hv : covB D.acc[i] (heldL (D.acc[i]).name D.hold) c.am
          · rw [hv] at hc
            have hc : holdC D.acc D.hold ⟨c.id, c.fr, c.to, c.am⟩ = some 7 := by rw [hc]; rfl
            simp [holdL, hc]
          · rw [hv] at hc
            have hc : holdC D.acc D.hold ⟨c.id, c.fr, c.to, c.am⟩ = none := by rw [hc]; rfl
            simp [holdL, hc]
/-- the model's post is the program's -/
theorem post_move {D : Led} {c : Cm} (hm : LedM D) (hk : c.kind = 2) (hne : c.fr ≠ c.to) :
    moveM D c = (⟨postL D.acc D.hold c.fr c.to c.am, D.hold, D.seen⟩, (postC D.acc D.hold c.fr c.to c.am).getD 0) := by
  unfold moveM
  cases e1 : idxA D.acc c.fr with
  | none =>
    have e : postC D.acc D.hold c.fr c.to c.am = some 5 := by simp [postC, pairC, e1]
    simp [postL, e]
  | some i =>
    cases e2 : idxA D.acc c.to with
    | none =>
      have e : postC D.acc D.hold c.fr c.to c.am = some 5 := by simp [postC, pairC, e1, e2]
      simp [postL, e]
    | some j =>
      cases e3 : sameC D.acc i j with
      | false =>
        have e : postC D.acc D.hold c.fr c.to c.am = some 6 := by simp [postC, pairC, e1, e2, e3]
        simp [postL, e, e3]
      | true =>
        have hp : pairC D.acc c.fr c.to = none := by simp [pairC, e1, e2, e3]
        simp only [e3, if_true]
        rw [if_pos hk]
        exact post_pay hp e1 e2 hne (fun x hx => (hm.sx x hx).1.1) hm.held
theorem fiH_none {l : List Hld} {r : Int} (h : fi (l.map Hld.id) r = none) : l.find? (fun h => h.id == r) = none := by
  rw [fi, List.findIdx?_eq_none_iff] at h
  rw [List.find?_eq_none]
  intro x hx
  have := h x.id (List.mem_map.2 ⟨x, hx, rfl⟩)
  simpa using this
theorem fiH_some {l : List Hld} {r : Int} {k : Nat} (h : fi (l.map Hld.id) r = some k) : ∃ hk : k < l.length, l[k].id = r ∧ l.find? (fun h => h.id == r) = some l[k] := by
  rw [fi, List.findIdx?_eq_some_iff_getElem] at h
  obtain ⟨h1, h2, h3⟩ := h
  have hk : k < l.length := by simpa using h1
  have e : l[k].id = r := by simpa using h2
  refine ⟨hk, e, ?_⟩
  rw [List.find?_eq_some_iff_getElem]
  refine ⟨by simpa using e, k, hk, rfl, fun j hj => ?_⟩
  have := h3 j hj
  simpa using this
theorem filter_cut {l : List Hld} {r : Int} {k : Nat} (hup : (l.map Hld.id).Pairwise (· < ·)) (hk : k < l.length) (e : l[k].id = r) : l.filter (fun h => !(h.id == r)) = cutL l k := by
  have hup2 : l.Pairwise (fun a b => a.id < b.id) := List.pairwise_map.1 hup
  have hs := cut_split l k hk
  have h3 := hup2
  rw [hs, List.pairwise_append] at h3
  obtain ⟨_, p2, p3⟩ := h3
  have a1 : ∀ y ∈ l.take k, y.id < r := fun y hy => by rw [← e]; exact p3 y hy _ (List.mem_cons_self ..)
  have a2 : ∀ y ∈ l.drop (k + 1), r < y.id := fun y hy => by rw [← e]; exact (List.pairwise_cons.1 p2).1 y hy
  have f1 : (l.take k).filter (fun h => !(h.id == r)) = l.take k := List.filter_eq_self.2 fun y hy => by have := a1 y hy; simp; omega
  have f2 : (l.drop (k + 1)).filter (fun h => !(h.id == r)) = l.drop (k + 1) := List.filter_eq_self.2 fun y hy => by have := a2 y hy; simp; omega
  have f3 : (l.take k ++ l[k] :: l.drop (k + 1)).filter (fun h => !(h.id == r)) = l.take k ++ l.drop (k + 1) := by
    rw [List.filter_append, f1, List.filter_cons_of_neg (by simp [e]), f2]
  rw [← hs] at f3
  exact f3
/-- the model's end of a hold is the program's -/
theorem end_none {D : Led} {c : Cm} (h : fi (D.hold.map Hld.id) c.ref = none) : endM D c = (D, 9) := by
  unfold endM
  rw [fiH_none h]
theorem end_drop {D : Led} {c : Cm} {k : Nat} (hup : (D.hold.map Hld.id).Pairwise (· < ·)) (h : fi (D.hold.map Hld.id) c.ref = some k) (hk : c.kind = 5) : endM D c = (⟨D.acc, cutL D.hold k, D.seen⟩, 0) := by
  obtain ⟨hkl, e, hf⟩ := fiH_some h
  unfold endM
  rw [hf]
  simp only
  rw [if_pos hk, filter_cut hup hkl e]
def takeC (A : List Acc) (H : List Hld) (k : Nat) (x : Hld) : Option Int := postC A (cutL H k) x.fr x.to x.amount
def takeA (A : List Acc) (H : List Hld) (k : Nat) (x : Hld) : List Acc := postL A (cutL H k) x.fr x.to x.amount
def takeH (A : List Acc) (H : List Hld) (k : Nat) (x : Hld) : List Hld := match takeC A H k x with
  | none => cutL H k
  | some _ => H
theorem postC_nz {A : List Acc} {H : List Hld} {fr tn : ByteArray} {am : Int} {code : Int} (h : postC A H fr tn am = some code) : 5 ≤ code ∧ code ≤ 8 := by
  cases hp : pairC A fr tn with
  | some c =>
    have e : postC A H fr tn am = some c := by simp [postC, hp]
    rw [e] at h
    cases h
    unfold pairC at hp
    split at hp
    · split at hp
      · cases hp
      · cases hp; omega
    · cases hp; omega
  | none =>
    unfold pairC at hp
    split at hp
    · rename_i i j e1 e2
      obtain ⟨hil, _, _⟩ := idxA_lt e1
      obtain ⟨hjl, _, _⟩ := idxA_lt e2
      split at hp
      · rename_i q
        have := postC_at (H := H) (am := am) (by simp [pairC, e1, e2, q]) e1 e2 hil hjl
        rw [this] at h
        repeat' split at h
        all_goals (cases h <;> omega)
      · cases hp
    · cases hp
theorem postL_no {A : List Acc} {H : List Hld} {fr tn : ByteArray} {am : Int} {code : Int} (h : postC A H fr tn am = some code) : postL A H fr tn am = A := by simp [postL, h]
theorem end_take {D : Led} {c : Cm} {k : Nat} (hm : LedM D) (hup : (D.hold.map Hld.id).Pairwise (· < ·)) (h : fi (D.hold.map Hld.id) c.ref = some k) (hk : c.kind = 4) (hkl : k < D.hold.length) :
    endM D c = (⟨takeA D.acc D.hold k D.hold[k], takeH D.acc D.hold k D.hold[k], D.seen⟩, (takeC D.acc D.hold k D.hold[k]).getD 0) := by
  obtain ⟨_, e, hf⟩ := fiH_some h
  obtain ⟨hp, hne, g1, g2⟩ := hm.prs _ (List.getElem_mem hkl)
  have hp0 := hp
  unfold pairC at hp0
  split at hp0
  · rename_i i j e1 e2
    have hpay := post_pay (L := ⟨D.acc, cutL D.hold k, D.seen⟩) (am := (D.hold[k]).amount) hp e1 e2 hne (fun x hx => (hm.sx x hx).1.1) (fun x hx => Int.le_trans (heldL_cut (fun y hy => by have := (hm.prs y hy).2.2.1; omega) hkl) (hm.held x hx))
    unfold endM
    rw [hf]
    simp only
    rw [if_neg (by omega), filter_cut hup hkl e, e1, e2]
    simp only
    rw [hpay]
    cases hc : postC D.acc (cutL D.hold k) (D.hold[k]).fr (D.hold[k]).to (D.hold[k]).amount with
    | none => simp [takeA, takeH, takeC, hc]
    | some code =>
      have := postC_nz hc
      have hc0 : ¬ code = 0 := by omega
      simp [takeA, takeH, takeC, hc, postL_no hc, hc0]
  · cases hp0
theorem perm_snoc_ins (l : List Acc) (x : Acc) : (l ++ [x]).Perm (insA l x) := (ins_perm (fun y : Acc => !ltB x.name y.name) l x).symm
theorem postL_names (A : List Acc) (H : List Hld) (fr tn : ByteArray) (am : Int) : (postL A H fr tn am).map Acc.name = A.map Acc.name := by
  unfold postL
  split
  · unfold payA
    rw [setP_names, setP_names]
  · rfl
/-- what do leaves in the book, against the model -/
structure DoIs (D : Led) (c : Cm) (o : Option Int) (A' : List Acc) (H' : List Hld) : Prop where
  acc : A'.Perm (doM D c).1.acc
  hold : H' = (doM D c).1.hold
  code : (doM D c).2 = o.getD 0
  nz : ∀ k, o = some k → 0 < k
  srt : Srt (doM D c).1.acc
theorem do_open_no {D : Led} {c : Cm} (hm : LedM D) (hk : c.kind = 1) {i : Nat} (h : idxA D.acc c.fr = some i) : DoIs D c (some 4) D.acc D.hold := by
  have e : doM D c = (D, 4) := by simp [doM, hk, openM, h]
  exact ⟨by rw [e], by rw [e], by rw [e]; rfl, fun k q => by cases q; omega, by rw [e]; exact hm.srt⟩
theorem do_open_yes {D : Led} {c : Cm} (hm : LedM D) (hk : c.kind = 1) (h : idxA D.acc c.fr = none) : DoIs D c none (D.acc ++ [⟨c.fr, c.to, c.am, 0⟩]) D.hold := by
  have e : doM D c = (⟨insA D.acc ⟨c.fr, c.to, c.am, 0⟩, D.hold, D.seen⟩, 0) := by simp [doM, hk, openM, h]
  exact ⟨by rw [e]; exact perm_snoc_ins _ _, by rw [e], by rw [e]; rfl, fun k q => (by cases q), by
    rw [e]
    refine srt_ins hm.srt (fun y hy => ?_)
    obtain ⟨i, hi, rfl⟩ := List.mem_iff_getElem.1 hy
    exact idxA_off h i hi⟩
theorem do_post {D : Led} {c : Cm} (hm : LedM D) (hk : c.kind = 2) (hne : c.fr ≠ c.to) : DoIs D c (postC D.acc D.hold c.fr c.to c.am) (postL D.acc D.hold c.fr c.to c.am) D.hold := by
  have e : doM D c = moveM D c := by simp [doM, hk]
  rw [post_move hm hk hne] at e
  exact ⟨by rw [e], by rw [e], by rw [e], fun k q => by have := postC_nz q; omega, by rw [e]; exact srt_names (postL_names ..).symm hm.srt⟩
theorem holdC_nz {A : List Acc} {H : List Hld} {hd : Hld} {code : Int} (h : holdC A H hd = some code) : 0 < code := by
  unfold holdC at h
  split at h
  · rename_i c hp
    cases h
    unfold pairC at hp
    split at hp
    · split at hp
      · cases hp
      · cases hp; omega
    · cases hp; omega
  · repeat' split at h
    all_goals (cases h <;> omega)
theorem do_hold {D : Led} {c : Cm} (hm : LedM D) (hk : c.kind = 3) : DoIs D c (holdC D.acc D.hold ⟨c.id, c.fr, c.to, c.am⟩) D.acc (holdL D.acc D.hold ⟨c.id, c.fr, c.to, c.am⟩) := by
  have e : doM D c = moveM D c := by simp [doM, hk]
  rw [hold_move hm hk] at e
  exact ⟨by rw [e], by rw [e], by rw [e], fun k q => holdC_nz q, by rw [e]; exact hm.srt⟩
theorem do_end_none {D : Led} {c : Cm} (hm : LedM D) (hk : c.kind = 4 ∨ c.kind = 5) (h : fi (D.hold.map Hld.id) c.ref = none) : DoIs D c (some 9) D.acc D.hold := by
  have e : doM D c = endM D c := by unfold doM; rw [if_neg (by omega), if_neg (by omega)]
  rw [end_none h] at e
  exact ⟨by rw [e], by rw [e], by rw [e]; rfl, fun k q => by cases q; omega, by rw [e]; exact hm.srt⟩
theorem do_drop {D : Led} {c : Cm} {k : Nat} (hm : LedM D) (hup : (D.hold.map Hld.id).Pairwise (· < ·)) (hk : c.kind = 5) (h : fi (D.hold.map Hld.id) c.ref = some k) : DoIs D c none D.acc (cutL D.hold k) := by
  have e : doM D c = endM D c := by unfold doM; rw [if_neg (by omega), if_neg (by omega)]
  rw [end_drop hup h hk] at e
  exact ⟨by rw [e], by rw [e], by rw [e]; rfl, fun k q => (by cases q), by rw [e]; exact hm.srt⟩
theorem do_take {D : Led} {c : Cm} {k : Nat} (hm : LedM D) (hup : (D.hold.map Hld.id).Pairwise (· < ·)) (hk : c.kind = 4) (h : fi (D.hold.map Hld.id) c.ref = some k) (hkl : k < D.hold.length) : DoIs D c (takeC D.acc D.hold k D.hold[k]) (takeA D.acc D.hold k D.hold[k]) (takeH D.acc D.hold k D.hold[k]) := by
  have e : doM D c = endM D c := by unfold doM; rw [if_neg (by omega), if_neg (by omega)]
  rw [end_take hm hup h hk hkl] at e
  exact ⟨by rw [e], by rw [e], by rw [e], fun k q => by have := postC_nz q; omega, by rw [e]; exact srt_names (postL_names ..).symm hm.srt⟩
end Go.Proofs.YteaopalhbnhbaaaGreatDoor
/- The contract of the book's drop. -/
namespace Go.Proofs.YteaopalhbnhbaaaGreatDoor
open Go.ChangeShapes Go.WideShapes Go.ChangeAt Go.RowKit Go.Maps
set_option linter.unusedVariables false
set_option maxRecDepth 100000
theorem row_some {w : World} {base : Nat} {e : TypeId} {size c n : Nat} {a : Option Addr} {xs : List Value} (h : w.ownsRow base e size (.slice a n c) n xs) (h0 : 0 < n) : ∃ g, a = some ⟨g, 0, none⟩ := by
  obtain ⟨_, ⟨_, h1⟩ | ⟨g, c', cur, e0, _⟩⟩ := h
  · omega
  · simp only [Value.slice.injEq] at e0
    exact ⟨g, e0.1⟩
theorem row_room {w : World} {base : Nat} {e : TypeId} {size c n : Nat} {a : Option Addr} {xs : List Value} (h : w.ownsRow base e size (.slice a n c) n xs) (h0 : 0 < n) : n ≤ c := by
  obtain ⟨_, ⟨_, h1⟩ | ⟨g, c', cur, e0, _, _, hc, _⟩⟩ := h
  · omega
  · simp only [Value.slice.injEq] at e0
    rw [e0.2.2]
    exact hc
/-- what do leaves -/
def DoneEnd (q m : Nat) (sv : Value) (D : Led) (c : Cm) (g : Value) (FF : List Nat) (w : World) (e : Ending) (w' : World) : Prop :=
  ∃ (o : Option Int) (ps' : List Nat) (hv' : Value) (A' : List Acc) (H' : List Hld), DoIs D c o A' H' ∧ ps'.length = A'.length ∧ DoEnd o g FF (bkS q m ps' hv' sv A' H' D.seen).flatten w e w'
end Go.Proofs.YteaopalhbnhbaaaGreatDoor
/- The contract of the book's take. -/
namespace Go.Proofs.YteaopalhbnhbaaaGreatDoor
open Go.ChangeShapes Go.WideShapes Go.ChangeAt Go.RowKit Go.Maps
set_option linter.unusedVariables false
set_option maxRecDepth 100000
theorem Pool.apart {F : List Nat} {w x : World} {S : List (List Rs)} (h : Pool F w S x) {i j : Nat} {rs rs' : List Rs} (hij : i < j) (hi : S[i]? = some rs) (hj : S[j]? = some rs') : ∀ b ∈ fps rs, ∀ b' ∈ fps rs', b ≠ b' := by
  have hn := h.st.nd
  have e : fps S.flatten = (S.map fps).flatten := by
    clear h hi hj hn
    induction S with
    | nil => rfl
    | cons a l ih => rw [List.flatten_cons, fps_app, ih]; rfl
  rw [e] at hn
  have hp := (List.pairwise_flatten.1 hn).2
  have k := List.pairwise_iff_getElem.1 hp i j (by have := (List.getElem?_eq_some_iff.1 hi).1; simpa using this) (by have := (List.getElem?_eq_some_iff.1 hj).1; simpa using this) hij
  simp only [List.getElem_map, (List.getElem?_eq_some_iff.1 hi).2, (List.getElem?_eq_some_iff.1 hj).2] at k
  exact k
structure TkF (FF : List Nat) (w : World) (q m : Nat) (ps : List Nat) (g ch : Nat) (sv : Value) (D : Led) (Z : List Hld) (k : Nat) (xh : Hld) (n : Nat) (code : Int) (t : TypeId) (v : Value) (W : Nat) (l0 l1 l2 l3 l4 l5 l6 l7 l8 l9 l10 l11 : Bool) (u42 u43 u44 u45 u46 u47 u48 u49 u50 u51 u52 : Value) (x : World) : Prop where
  pool : Pool FF w [cond l11 [blk q [.map (some m), u50, sv]] [blk q [.map (some m), (.slice (some ⟨g, 0, none⟩) Z.length ch), sv]], [mapR m (D.acc.map Acc.name) ps], accB' ps D.acc, cond l8 [row 53 4 u50 (Z.length + 1) ((insHL Z k xh).flatMap hldCells)] [row 53 4 (.slice (some ⟨g, 0, none⟩) Z.length ch) Z.length (Z.flatMap hldCells)], [row 55 2 sv D.seen.length (D.seen.flatMap snCells)], [blk n [.int .i64 code, .iface t v]], [blk W (hldCells xh)], cond l7 [blk (gOf (slA u49)) (hldCells xh)] []] x
  q49 : l7 = true → u49 = .slice (some ⟨gOf (slA u49), 0, none⟩) 1 1
  hp49 : l7 = true → l8 = false → x.heap[gOf (slA u49)]? = some (.cells #[.int .i64 xh.id, .string xh.fr, .string xh.to, .int .i64 xh.amount] 53 (0, 0))
  d8_7 : l8 = true → l7 = true
  d8_4 : l8 = true → l4 = true
  d11_8 : l11 = true → l8 = true
  d11_4 : l11 = true → l4 = true
  p42 : l0 = true → u42 = .pointer (some ⟨q, 0, none⟩)
  p43 : l1 = true → u43 = .pointer (some ⟨q, 0, none⟩)
  p44 : l2 = true → u44 = .pointer (some ⟨q, 0, none⟩)
  p51 : l9 = true → u51 = .pointer (some ⟨q, 0, none⟩)
  p45 : l3 = true → u45 = .pointer (some ⟨q, 1, none⟩)
  p52 : l10 = true → u52 = .pointer (some ⟨q, 1, none⟩)
  p46 : l4 = true → u46 = (.slice (some ⟨g, 0, none⟩) Z.length ch)
  p47 : l5 = true → u47 = .int .i64 (k : Int)
  p48 : l6 = true → u48 = .agg #[.int .i64 xh.id, .string xh.fr, .string xh.to, .int .i64 xh.amount]
end Go.Proofs.YteaopalhbnhbaaaGreatDoor
/- The contract of the book's do. -/
namespace Go.Proofs.YteaopalhbnhbaaaGreatDoor
open Go.ChangeShapes Go.WideShapes Go.ChangeAt Go.RowKit Go.Maps
set_option linter.unusedVariables false
set_option maxRecDepth 100000
theorem DoEnd.up {F : List Nat} {w x y : World} {rs ex rs' : List Rs} {o : Option Int} {g : Value} {e : Ending} (h : Pool F w [rs, ex] x) (k : DoEnd o g (fps rs) rs' x e y) : DoEnd o g F rs' w e y := by
  unfold DoEnd at k ⊢
  cases o with
  | none =>
    obtain ⟨he, kp⟩ := k
    have z := h.call (i := 0) rfl (rs' := rs') (kp.cast (by simp))
    exact ⟨he, (z.drop (i := 1) rfl)⟩
  | some code =>
    obtain ⟨n, he, kp⟩ := k
    have z := h.call (i := 0) rfl (rs' := rs' ++ [blk n [.int .i64 code, g]]) (kp.cast (by simp))
    exact ⟨n, he, (z.drop (i := 1) rfl).cast (by simp)⟩
theorem DoEnd.val {F : List Nat} {w y : World} {rs' : List Rs} {o : Option Int} {g : Value} {e : Ending} (k : DoEnd o g F rs' w e y) : ∃ v, e = .returned v := by
  unfold DoEnd at k
  cases o with
  | none => exact ⟨_, k.1⟩
  | some code => obtain ⟨n, he, _⟩ := k; exact ⟨_, he⟩
theorem fullB_hold {D : Led} {c : Cm} (hf : fullB D c = false) (hk : c.kind = 3) : ∀ y ∈ D.hold, y.id ≠ c.id := by
  simp only [fullB, Bool.or_eq_false_iff, Bool.and_eq_false_iff, decide_eq_false_iff_not] at hf
  rcases hf.2 with q | q
  · exact absurd hk q
  · intro y hy e
    have := List.any_eq_false.1 q.2 y hy
    simp [e] at this
end Go.Proofs.YteaopalhbnhbaaaGreatDoor
/- The contract of the book's ledger: its accounts, sorted by their names. -/
namespace Go.Proofs.YteaopalhbnhbaaaGreatDoor
open Go.ChangeShapes Go.WideShapes Go.ChangeAt Go.RowKit Go.Maps Go.Sort
set_option linter.unusedVariables false
set_option maxRecDepth 100000
def nmA (l : List Acc) : List (List UInt8) := l.map (fun f => f.name.data.toList)
theorem nmA_toList (s : ByteArray) : s.toList = s.data.toList := Lib.toList_data s
theorem keysA_perm {x : World} {m n : Nat} {A B : List Acc} {D : DataW Unit} {ps : List Nat} (ho : x.ownsMap Tryz.prog 9 ptrElem m n D) (hk : MapKs D (A.map Acc.name) ps) (hB : B.Perm A) (hs : Srt B) : (nmA B).Perm (strKeys D) := by
  have honly : ∀ kl, Maps.has D kl = true → ∃ f ∈ B, kl = kn f.name := fun kl h => by
    obtain ⟨i, hi, e⟩ := hk.only kl h
    have hi' : i < A.length := by simpa using hi
    exact ⟨A[i], hB.mem_iff.2 (List.getElem_mem hi'), by simpa using e⟩
  have hat : ∀ f ∈ B, ∃ p, ∀ z, D.atKey (kn f.name) z = ptrD p := fun f hf => by
    obtain ⟨i, hi, rfl⟩ := List.mem_iff_getElem.1 (hB.mem_iff.1 hf)
    exact ⟨_, fun z => by have := hk.at_ i (by simpa using hi) z; simpa using this⟩
  obtain ⟨es, rfl, hp, _⟩ := ho.entries law9
  refine perm_strKeys hp (fun p hp' => ?_) ?_ (fun x => ?_)
  · have := honly p.1 (by
      rw [has_eq, List.any_eq_true]
      exact ⟨p, hp', WideAt.sameKey_self (by
        obtain ⟨es2, e2, _, h2⟩ := ho.entries law9
        cases e2
        exact h2 p hp')⟩)
    obtain ⟨f, _, e⟩ := this
    exact ⟨_, e⟩
  · unfold nmA
    refine List.pairwise_map.2 (List.Pairwise.imp (fun {a b} h e => ?_) hs)
    rw [nmA_toList, nmA_toList, e] at h
    exact List.lt_irrefl _ h
  · unfold nmA
    rw [List.mem_map]
    constructor
    · rintro ⟨f, hf, rfl⟩
      obtain ⟨p, hp⟩ := hat f hf
      exact has_true_of_atKey hp
    · intro h
      obtain ⟨f, hf, e⟩ := honly _ h
      exact ⟨f, hf, by simp only [kn, Lit.string.injEq] at e; exact e.symm⟩
theorem nmA_sorted {l : List Acc} (hs : Srt l) {ss : List (List UInt8)} (h : (nmA l).Perm ss) : ss.mergeSort (fun x y => decide (x ≤ y)) = nmA l := by
  have tr : ∀ a b c : List UInt8, leB a b = true → leB b c = true → leB a c = true := fun a b c h1 h2 => by simp only [leB, decide_eq_true_eq] at *; exact List.le_trans h1 h2
  have tot : ∀ a b : List UInt8, (leB a b || leB b a) = true := fun a b => by simp only [leB, Bool.or_eq_true, decide_eq_true_eq]; exact List.le_total a b
  refine List.Perm.eq_of_pairwise (le := fun a b => leB a b = true) (fun a b _ _ h1 h2 => ?_) (List.pairwise_mergeSort tr tot ss) ?_ ((List.mergeSort_perm ss leB).trans h.symm)
  · simp only [leB, decide_eq_true_eq] at h1 h2
    exact List.le_antisymm h1 h2
  · unfold nmA
    refine List.pairwise_map.2 (List.Pairwise.imp (fun {a b} h => ?_) hs)
    simp only [leB, decide_eq_true_eq]
    rw [nmA_toList, nmA_toList] at h
    exact List.le_of_lt h
def nmC (f : Acc) : List Value := [.string f.name]
theorem nmCLen (f : Acc) : (nmC f).length = 1 := rfl
theorem nmA_enc (l : List Acc) : (nmA l).map encStr = l.flatMap nmC := by
  induction l with
  | nil => rfl
  | cons f l ih =>
    have e : encStr f.name.data.toList = .string f.name := by simp [encStr]
    show encStr f.name.data.toList :: (nmA l).map encStr = nmC f ++ l.flatMap nmC
    rw [ih, e]
    rfl
theorem nmA_len (l : List Acc) : (nmA l).length = l.length := by simp [nmA]
theorem nmC_row {w : World} {a : Option Addr} {l : List Acc} (h : RowAt 1 nmC w a l) (i : Nat) (hi : i < l.length) : ∃ b off, a = some ⟨b, off, none⟩ ∧ b < w.heap.size ∧ w.cell? ⟨b, off + i, none⟩ = some (.string l[i].name) := by
  obtain ⟨b, off, e, hb, hc⟩ := h i hi
  exact ⟨b, off, e, hb, by simpa using hc 0 _ rfl⟩
theorem look_map {x : World} {m : Nat} {ns : List ByteArray} {ps : List Nat} (h : (mapR m ns ps).P x) {j : Nat} (hj : j < ns.length) (hn : ns[j].size ≤ maxLen) : (Instr.lookup 100 (.map (some m)) (.string ns[j]) false).run Tryz.prog x = .ok (.pointer (some ⟨ps.getD j 0, 0, none⟩)) x := by
  obtain ⟨D, ho, hi⟩ := h
  exact look_at ho hn (hi.at_ j hj)
theorem own_mono {w : World} {base base' : Nat} {T : TypeId} {sz n : Nat} {v : Value} {xs : List Value} (hb : base ≤ base') (h : w.ownsRow base' T sz v n xs) : w.ownsRow base T sz v n xs := by
  obtain ⟨h1, h2 | ⟨g, c, cur, e, hg, r⟩⟩ := h
  · exact ⟨h1, .inl h2⟩
  · exact ⟨h1, .inr ⟨g, c, cur, e, Nat.le_trans hb hg, r⟩⟩
/-- a ledger of the book -/
def LgEnd (B : List Acc) (H : List Hld) (S : List Sn) (FF : List Nat) (w : World) (e : Ending) (w' : World) : Prop := ∃ p : LP, e = .returned (ledV p ⟨B, H, S⟩) ∧ PlOk p ⟨B, H, S⟩ ∧ Pool FF w [ledL p ⟨B, H, S⟩] w'
structure LgF (FF : List Nat) (w : World) (q m : Nat) (ps : List Nat) (ha : Option Addr) (ch : Nat) (sa : Option Addr) (cs : Nat) (A : List Acc) (H : List Hld) (S : List Sn) (l0 l1 l2 l3 l4 l5 l6 l7 l8 l9 l10 : Bool) (u3 u6 u7 u8 u9 u10 u11 u12 u13 u14 : Value) (x : World) : Prop where
  pool : Pool FF w [[blk q [.map (some m), .slice ha H.length ch, .slice sa S.length cs]], [mapR m (A.map Acc.name) ps], accB' ps A, [row 53 4 (.slice ha H.length ch) H.length (H.flatMap hldCells)], [row 55 2 (.slice sa S.length cs) S.length (S.flatMap snCells)], [blk w.heap.size [.slice none 0 0, .slice none 0 0, .slice none 0 0]], cond l9 [blk (ptB u3) (cond l10 [.slice none 0 0, .slice ha H.length ch, .slice sa S.length cs] [.slice none 0 0, .slice none 0 0, .slice none 0 0])] [], [], [], []] x
  q3 : l9 = true → u3 = .pointer (some ⟨ptB u3, 0, none⟩)
  d10_9 : l10 = true → l9 = true
  p6 : l0 = true → u6 = .pointer (some ⟨q, 0, none⟩)
  p7 : l1 = true → u7 = .pointer (some ⟨q, 0, none⟩)
  p10 : l4 = true → u10 = .pointer (some ⟨q, 0, none⟩)
  p11 : l5 = true → u11 = .pointer (some ⟨q, 0, none⟩)
  p8 : l2 = true → u8 = .pointer (some ⟨q, 1, none⟩)
  p12 : l6 = true → u12 = .pointer (some ⟨q, 2, none⟩)
  p9 : l3 = true → u9 = (.slice ha H.length ch)
  p13 : l7 = true → u13 = (.slice sa S.length cs)
  p14 : l8 = true → u14 = .agg #[.slice none 0 0, (.slice ha H.length ch), (.slice sa S.length cs)]
structure LgG (FF : List Nat) (w : World) (q m : Nat) (ps : List Nat) (ha : Option Addr) (ch : Nat) (sa : Option Addr) (cs : Nat) (A B : List Acc) (H : List Hld) (S : List Sn) (L0 : Nat) (a5 : Option Addr) (c5 k g2 c2 pj : Nat) (y : Acc) (l0 l1 l2 l3 l4 l5 l6 l7 l8 l9 l10 l11 l12 l13 : Bool) (u26 u27 u28 u29 u30 u31 u32 u33 u34 u35 u36 u37 u38 : Value) (x : World) : Prop where
  pool : Pool FF w [[blk q [.map (some m), .slice ha H.length ch, .slice sa S.length cs]], [mapR m (A.map Acc.name) ps], accB' ps A, [row 53 4 (.slice ha H.length ch) H.length (H.flatMap hldCells)], [row 55 2 (.slice sa S.length cs) S.length (S.flatMap snCells)], [blk w.heap.size [.slice none 0 0, .slice none 0 0, .slice none 0 0]], cond l13 [blk L0 [u37, (.slice ha H.length ch), (.slice sa S.length cs)]] [blk L0 [(.slice a5 k c5), (.slice ha H.length ch), (.slice sa S.length cs)]], cond l11 [row 50 4 u37 (k + 1) ((B.take k).flatMap accCells ++ accCells y)] [row 50 4 (.slice a5 k c5) k ((B.take k).flatMap accCells)], cond l10 [blk (gOf (slA u36)) (accCells y)] [], [row 9 1 (.slice (some ⟨g2, 0, none⟩) B.length c2) B.length (B.flatMap nmC)]] x
  q36 : l10 = true → u36 = .slice (some ⟨gOf (slA u36), 0, none⟩) 1 1
  d11_10 : l11 = true → l10 = true
  d11_1 : l11 = true → l1 = true
  d13_11 : l13 = true → l11 = true
  d13_1 : l13 = true → l1 = true
  p26 : l0 = true → u26 = .pointer (some ⟨L0, 0, none⟩)
  p38 : l12 = true → u38 = .pointer (some ⟨L0, 0, none⟩)
  p27 : l1 = true → u27 = (.slice a5 k c5)
  p28 : l2 = true → u28 = .pointer (some ⟨q, 0, none⟩)
  p29 : l3 = true → u29 = .pointer (some ⟨q, 0, none⟩)
  p30 : l4 = true → u30 = .pointer (some ⟨q, 0, none⟩)
  p31 : l5 = true → u31 = .map (some m)
  p32 : l6 = true → u32 = .string y.name
  p33 : l7 = true → u33 = .pointer (some ⟨pj, 0, none⟩)
  p34 : l8 = true → u34 = .pointer (some ⟨pj, 0, none⟩)
  p35 : l9 = true → u35 = .agg #[.string y.name, .string y.cur, .int .i64 y.limit, .int .i64 y.posted]
end Go.Proofs.YteaopalhbnhbaaaGreatDoor
/- The contract of codeOf; what Applied makes, put together. -/
namespace Go.Proofs.YteaopalhbnhbaaaGreatDoor
open Go.ChangeShapes Go.WideShapes Go.ChangeAt Go.RowKit Go.Maps
set_option linter.unusedVariables false
set_option maxRecDepth 100000
theorem payM_names (L : Led) (i j : Nat) (am : Int) : ((payM L i j am).1.acc).map Acc.name = L.acc.map Acc.name := by
  unfold payM
  split
  · split
    · simp only [payA]; rw [setP_names, setP_names]
    · rfl
  · rfl
theorem doM_names (D : Led) (c : Cm) : ((doM D c).1.acc).map Acc.name = D.acc.map Acc.name ∨ (doM D c).1.acc = insA D.acc ⟨c.fr, c.to, c.am, 0⟩ := by
  unfold doM
  split
  · unfold openM
    split
    · exact .inl rfl
    · exact .inr rfl
  · split
    · left
      unfold moveM
      split
      · split
        · split
          · exact payM_names ..
          · unfold holdM
            split
            · rfl
            · split <;> rfl
        · rfl
      · rfl
    · left
      unfold endM
      split
      · rfl
      · split
        · rfl
        · split
          · split
            · exact payM_names ..
            · rfl
          · rfl
theorem doM_sz {D : Led} {c : Cm} (hw : LedW D) (hcf : c.fr.size ≤ maxLen) : ∀ y ∈ (doM D c).1.acc, y.name.size ≤ maxLen := by
  intro y hy
  rcases doM_names D c with e | e
  · have h1 : y.name ∈ ((doM D c).1.acc).map Acc.name := List.mem_map.2 ⟨y, hy, rfl⟩
    rw [e] at h1
    obtain ⟨x, hx, e2⟩ := List.mem_map.1 h1
    rw [← e2]
    exact (hw.acc x hx).1
  · rw [e] at hy
    rcases List.mem_append.1 ((perm_snoc_ins D.acc ⟨c.fr, c.to, c.am, 0⟩).mem_iff.2 hy) with h | h
    · exact (hw.acc y h).1
    · rw [List.mem_singleton.1 h]
      exact hcf
theorem doM_lenA {D : Led} {c : Cm} (h : D.acc.length ≤ 12) : (doM D c).1.acc.length ≤ 13 := by
  rcases doM_names D c with e | e
  · have := congrArg List.length e
    simp only [List.length_map] at this
    omega
  · rw [e, insA_len]
    omega
theorem adm_some {D : Led} {c : Cm} {k : Int} (hs : ledS D = true) (h : admC D c = some k) : applM D c = (D, k) := by
  unfold admC at h
  unfold applM
  rw [hs]
  simp only [Bool.true_eq_false, if_false]
  split at h
  · rename_i q; rw [if_pos q]; cases h; rfl
  · rename_i q; rw [if_neg q]
    split at h
    · rename_i q2; rw [if_pos q2]; cases h; rfl
    · rename_i q2; rw [if_neg q2]
      split at h
      · rename_i q3; rw [if_pos q3]; cases h; rfl
      · cases h
theorem adm_none {D : Led} {c : Cm} (hs : ledS D = true) (h : admC D c = none) : c.B = true ∧ ¬ 0 ≤ seenV D.seen c.id ∧ fullB D c = false ∧ applM D c = (⟨(doM D c).1.acc, (doM D c).1.hold, seeL D.seen c.id (doM D c).2⟩, (doM D c).2) := by
  unfold admC at h
  unfold applM
  rw [hs]
  simp only [Bool.true_eq_false, if_false]
  split at h
  · cases h
  · rename_i q
    split at h
    · cases h
    · rename_i q2
      split at h
      · cases h
      · rename_i q3
        refine ⟨by simpa using q, q2, by simpa using q3, ?_⟩
        rw [if_neg q, if_neg q2, if_neg q3]
theorem seen_off {l : List Sn} {id : Int} (hc : ∀ y ∈ l, 0 ≤ y.code) (h : ¬ 0 ≤ seenV l id) : ∀ y ∈ l, y.id ≠ id := by
  intro y hy e
  cases hf : fi (l.map Sn.id) id with
  | none =>
    rw [fi, List.findIdx?_eq_none_iff] at hf
    have := hf y.id (List.mem_map.2 ⟨y, hy, rfl⟩)
    simp [e] at this
  | some k =>
    have hf2 := hf
    rw [fi, List.findIdx?_eq_some_iff_getElem] at hf2
    have hk : k < l.length := by simpa using hf2.1
    rw [seenV_some hf hk] at h
    exact h (hc _ (List.getElem_mem hk))
end Go.Proofs.YteaopalhbnhbaaaGreatDoor
