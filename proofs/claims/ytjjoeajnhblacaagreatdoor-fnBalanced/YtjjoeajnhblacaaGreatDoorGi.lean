/- The contracts of the program's seenPlace, holdPlace, full and admit. -/
import Derived.Test.YtjjoeajnhblacaaGreatDoorLMv
import Derived.Test.YtjjoeajnhblacaaGreatDoorBkP
import Derived.Test.YtjjoeajnhblacaaGreatDoorGb
namespace Go.Proofs.YtjjoeajnhblacaaGreatDoor
open Go.ChangeShapes Go.WideShapes Go.ChangeAt Go.RowKit
set_option linter.unusedVariables false
set_option maxRecDepth 100000
def ixV : Option Nat → Int
  | none => -1
  | some k => k
set_option maxHeartbeats 2000000 in
theorem indexSn_any (a : Option Addr) (l : List Sn) (cap : Nat) (q : Nat) (id : Int) (w : World) (hl : l.length ≤ 1048576) (h : RowAt 2 snCells w a l) (hq : q < w.heap.size) (hc : w.cell? ⟨q, 0, none⟩ = some (.int .i64 id)) :
    Calls Tryz.prog 90 #[.slice a l.length cap, .func (.func 91) #[] #[.pointer (some ⟨q, 0, none⟩)]] w fun e w' => e = .returned (.int .i64 (ixV (fi (l.map Sn.id) id))) ∧ Below w.heap.size w w' := by
  have HC : Hid _ := hide h
  have HQ : Hid _ := hide hc
  clear h hc
  go_enter Tryz.func90, Tryz.ntmps90
  go_wp2
  go_loopw [8] (fun i wr => ∃ k : Nat, k ≤ l.length ∧ i = .int .i64 (k : Int) ∧ Below w.heap.size w wr ∧ Hid (∀ j (hj : j < l.length), j < k → l[j].id ≠ id)) (fun i wr => l.length - (intOf i).toNat)
  case atStart => exact ⟨0, Nat.zero_le _, rfl, Below.refl _ _, hide (fun j _ hj => by omega)⟩
  case round =>
    obtain ⟨k, hk, rfl, HB, HN⟩ := hrel
    by_cases hlt : k < l.length
    · obtain ⟨b, off, rfl, hb, c0, c1⟩ := sn_row (HC.out.below HB) k hlt
      have hqc : wr.cell? ⟨q, 0, none⟩ = some (.int .i64 id) := (HB.cell hq).trans HQ.out
      have hq2 : q < wr.heap.size := Nat.lt_of_lt_of_le hq HB.size
      cases hq : ((l[k]).id == id)
      · have HS : Hid (∀ j (hj : j < l.length), j < k + 1 → l[j].id ≠ id) := hide (fun j hj hjk => by
          rcases Nat.lt_or_ge j k with h | h
          · exact HN.out j hj h
          · obtain rfl : j = k := by omega
            simpa using hq)
        go_wp2_with (go_in)
        exact ⟨⟨k + 1, by omega, by go_num, below_alloc HB _, HS⟩, by simp [intOf]; omega⟩
      · have HE : Hid (fi (l.map Sn.id) id = some k) := hide (fi_hit (by simpa using hlt) (by simpa using hq) (fun j hj hjk => by have := HN.out j (by simpa using hj) hjk; simpa using this))
        go_wp2_with (go_in)
        go_ret
        exact ⟨by rw [HE.out]; rfl, below_alloc HB _⟩
    · have HE : Hid (fi (l.map Sn.id) id = none) := hide (fi_miss (fun i hi => by have := HN.out i (by simpa using hi) (by have : i < l.length := (by simpa using hi); omega); simpa using this))
      go_wp2
      go_ret
      exact ⟨by rw [HE.out]; rfl, HB⟩
set_option maxHeartbeats 1000000 in
theorem seenPlace_any (q : Nat) (a : Option Addr) (l : List Sn) (cap : Nat) (id : Int) (w : World) (hl : l.length ≤ 1048576) (h : RowAt 2 snCells w a l) (hq : q < w.heap.size) (hc : w.cell? ⟨q, 2, none⟩ = some (.slice a l.length cap)) :
    Calls Tryz.prog 57 #[.pointer (some ⟨q, 0, none⟩), .int .i64 id] w fun e w' => e = .returned (.int .i64 (ixV (fi (l.map Sn.id) id))) ∧ Below w.heap.size w w' := by
  have HC : Hid _ := hide h
  have HQ : Hid _ := hide hc
  clear h hc
  have hmf : ∀ (fn : Fn) (first cap : Array Value) (w : World), (Instr.makeFunc fn first cap).run Tryz.prog w = .ok (.func fn first cap) w := fun _ _ _ _ => rfl
  have HB : Hid _ := hide (below_alloc (Below.refl w.heap.size w) (.cells #[.int .i64 id] 2))
  have hc1 := (HB.out.cell (p := ⟨q, 2, none⟩) hq).trans HQ.out
  have hqn : q ≠ w.heap.size := by omega
  go_enter Tryz.func57, Tryz.ntmps57
  go_wp2_with fail
  refine (indexSn_any a l cap w.heap.size id _ hl (HC.out.below HB.out) (by simp) (by simp)).mono ?_
  rintro e w2 ⟨rfl, hb2⟩
  have HB2 : Hid _ := hide (below_trans HB.out hb2)
  clear hb2
  go_wp2
  go_ret
  exact ⟨rfl, HB2.out⟩
set_option maxHeartbeats 2000000 in
theorem indexHld_any (a : Option Addr) (l : List Hld) (cap : Nat) (q : Nat) (id : Int) (w : World) (hl : l.length ≤ 1048576) (h : RowAt 4 hldCells w a l) (hq : q < w.heap.size) (hc : w.cell? ⟨q, 0, none⟩ = some (.int .i64 id)) :
    Calls Tryz.prog 110 #[.slice a l.length cap, .func (.func 111) #[] #[.pointer (some ⟨q, 0, none⟩)]] w fun e w' => e = .returned (.int .i64 (ixV (fi (l.map Hld.id) id))) ∧ Below w.heap.size w w' := by
  have HC : Hid _ := hide h
  have HQ : Hid _ := hide hc
  clear h hc
  go_enter Tryz.func110, Tryz.ntmps110
  go_wp2
  go_loopw [8] (fun i wr => ∃ k : Nat, k ≤ l.length ∧ i = .int .i64 (k : Int) ∧ Below w.heap.size w wr ∧ Hid (∀ j (hj : j < l.length), j < k → l[j].id ≠ id)) (fun i wr => l.length - (intOf i).toNat)
  case atStart => exact ⟨0, Nat.zero_le _, rfl, Below.refl _ _, hide (fun j _ hj => by omega)⟩
  case round =>
    obtain ⟨k, hk, rfl, HB, HN⟩ := hrel
    by_cases hlt : k < l.length
    · obtain ⟨b, off, rfl, hb, c0, c1, c2, c3⟩ := hld_row (HC.out.below HB) k hlt
      have hqc : wr.cell? ⟨q, 0, none⟩ = some (.int .i64 id) := (HB.cell hq).trans HQ.out
      have hq2 : q < wr.heap.size := Nat.lt_of_lt_of_le hq HB.size
      cases hq : ((l[k]).id == id)
      · have HS : Hid (∀ j (hj : j < l.length), j < k + 1 → l[j].id ≠ id) := hide (fun j hj hjk => by
          rcases Nat.lt_or_ge j k with h | h
          · exact HN.out j hj h
          · obtain rfl : j = k := by omega
            simpa using hq)
        go_wp2_with (go_in)
        exact ⟨⟨k + 1, by omega, by go_num, below_alloc HB _, HS⟩, by simp [intOf]; omega⟩
      · have HE : Hid (fi (l.map Hld.id) id = some k) := hide (fi_hit (by simpa using hlt) (by simpa using hq) (fun j hj hjk => by have := HN.out j (by simpa using hj) hjk; simpa using this))
        go_wp2_with (go_in)
        go_ret
        exact ⟨by rw [HE.out]; rfl, below_alloc HB _⟩
    · have HE : Hid (fi (l.map Hld.id) id = none) := hide (fi_miss (fun i hi => by have := HN.out i (by simpa using hi) (by have : i < l.length := (by simpa using hi); omega); simpa using this))
      go_wp2
      go_ret
      exact ⟨by rw [HE.out]; rfl, HB⟩
set_option maxHeartbeats 1000000 in
theorem holdPlace_any (q : Nat) (a : Option Addr) (l : List Hld) (cap : Nat) (id : Int) (w : World) (hl : l.length ≤ 1048576) (h : RowAt 4 hldCells w a l) (hq : q < w.heap.size) (hc : w.cell? ⟨q, 1, none⟩ = some (.slice a l.length cap)) :
    Calls Tryz.prog 92 #[.pointer (some ⟨q, 0, none⟩), .int .i64 id] w fun e w' => e = .returned (.int .i64 (ixV (fi (l.map Hld.id) id))) ∧ Below w.heap.size w w' := by
  have HC : Hid _ := hide h
  have HQ : Hid _ := hide hc
  clear h hc
  have hmf : ∀ (fn : Fn) (first cap : Array Value) (w : World), (Instr.makeFunc fn first cap).run Tryz.prog w = .ok (.func fn first cap) w := fun _ _ _ _ => rfl
  have HB : Hid _ := hide (below_alloc (Below.refl w.heap.size w) (.cells #[.int .i64 id] 2))
  have hc1 := (HB.out.cell (p := ⟨q, 1, none⟩) hq).trans HQ.out
  have hqn : q ≠ w.heap.size := by omega
  go_enter Tryz.func92, Tryz.ntmps92
  go_wp2_with fail
  refine (indexHld_any a l cap w.heap.size id _ hl (HC.out.below HB.out) (by simp) (by simp)).mono ?_
  rintro e w2 ⟨rfl, hb2⟩
  have HB2 : Hid _ := hide (below_trans HB.out hb2)
  clear hb2
  go_wp2
  go_ret
  exact ⟨rfl, HB2.out⟩
end Go.Proofs.YtjjoeajnhblacaaGreatDoor
/- What a book of the call's own says, and the program's full. -/
namespace Go.Proofs.YtjjoeajnhblacaaGreatDoor
open Go.ChangeShapes Go.WideShapes Go.ChangeAt Go.RowKit Go.Maps
set_option linter.unusedVariables false
set_option maxRecDepth 100000
/-- a book, read -/
structure BkIs (x : World) (q m : Nat) (ps : List Nat) (ha : Option Addr) (ch : Nat) (sa : Option Addr) (cs : Nat) (A : List Acc) (H : List Hld) (S : List Sn) : Prop where
  lt : q < x.heap.size
  c0 : x.cell? ⟨q, 0, none⟩ = some (.map (some m))
  c1 : x.cell? ⟨q, 1, none⟩ = some (.slice ha H.length ch)
  c2 : x.cell? ⟨q, 2, none⟩ = some (.slice sa S.length cs)
  map : (mapR m (A.map Acc.name) ps).P x
  acc : ∀ i (h : i < A.length), Blk (ps.getD i 0) (accCells A[i]) x
  hold : RowAt 4 hldCells x ha H
  seen : RowAt 2 snCells x sa S
theorem Star.bk {x : World} {q m : Nat} {ps : List Nat} {hv sv : Value} {A : List Acc} {H : List Hld} {S : List Sn} (h : Star (bkS q m ps hv sv A H S).flatten x) (hl : ps.length = A.length) :
    ∃ ha ch sa cs, hv = .slice ha H.length ch ∧ sv = .slice sa S.length cs ∧ BkIs x q m ps ha ch sa cs A H S := by
  have hr : ∀ r, r ∈ (bkS q m ps hv sv A H S).flatten → r.P x := fun r hr => h.get hr
  have b : Blk q [.map (some m), hv, sv] x := hr (blk q [.map (some m), hv, sv]) (by simp [bkS])
  have r1 : x.ownsRow 0 71 4 hv H.length (H.flatMap hldCells) := hr (row 71 4 hv H.length (H.flatMap hldCells)) (by simp [bkS])
  have r2 : x.ownsRow 0 47 2 sv S.length (S.flatMap snCells) := hr (row 47 2 sv S.length (S.flatMap snCells)) (by simp [bkS])
  obtain ⟨ha, ch, e1, s1, _⟩ := Star.of_row hldLen r1
  obtain ⟨sa, cs, e2, s2, _⟩ := Star.of_row snLen r2
  have o1 : OwnRow 4 hldCells x (gOf ha) ha ch H := (s1.get (r := orow 4 hldCells ha ch H) (by simp)).2
  have o2 : OwnRow 2 snCells x (gOf sa) sa cs S := (s2.get (r := orow 2 snCells sa cs S) (by simp)).2
  subst e1 e2
  refine ⟨ha, ch, sa, cs, rfl, rfl, ⟨b.lt, b.c 0 _ rfl, b.c 1 _ rfl, b.c 2 _ rfl, hr (mapR m (A.map Acc.name) ps) (by simp [bkS]), fun i hi => ?_, o1.rows, o2.rows⟩⟩
  have hp : i < ps.length := by omega
  refine hr (blk (ps.getD i 0) (accCells A[i])) ?_
  have : blk (ps.getD i 0) (accCells A[i]) ∈ accB' ps A := by
    unfold accB'
    rw [List.mem_map]
    refine ⟨(ps[i], A[i]), ?_, by simp [hp]⟩
    have hz : i < (List.zip ps A).length := by simp [List.length_zip]; omega
    have e : (List.zip ps A)[i] = (ps[i], A[i]) := by simp
    rw [← e]
    exact List.getElem_mem hz
  simp only [bkS, List.flatten_cons, List.flatten_nil, List.mem_append]
  exact .inr (.inr (.inl this))
theorem BkIs.below {x y : World} {q m : Nat} {ps : List Nat} {ha : Option Addr} {ch : Nat} {sa : Option Addr} {cs : Nat} {A : List Acc} {H : List Hld} {S : List Sn} (h : BkIs x q m ps ha ch sa cs A H S) (b : Below x.heap.size x y) : BkIs y q m ps ha ch sa cs A H S := by
  obtain ⟨D, ho, hk⟩ := h.map
  exact ⟨Nat.lt_of_lt_of_le h.lt b.size, below_keeps b _ _ h.c0, below_keeps b _ _ h.c1, below_keeps b _ _ h.c2, ⟨D, ho.kept (below_grownBy b) (by simp), hk⟩,
    fun i hi => ((Star.ofBlk (h.acc i hi)).below b).get (r := blk (ps.getD i 0) (accCells A[i])) (by simp), h.hold.below b, h.seen.below b⟩
theorem BkIs.mapHas {x : World} {q m : Nat} {ps : List Nat} {ha : Option Addr} {ch : Nat} {sa : Option Addr} {cs : Nat} {A : List Acc} {H : List Hld} {S : List Sn} (h : BkIs x q m ps ha ch sa cs A H S) : MapHas x m A := by
  obtain ⟨D, ho, hk⟩ := h.map
  refine ⟨D, by simpa using ho, ⟨fun i hi => ⟨ps.getD i 0, fun z => ?_, ?_⟩, fun kl hkl => ?_⟩⟩
  · have := hk.at_ i (by simpa using hi) z
    simpa using this
  · have b := h.acc i hi
    exact ⟨b.lt, b.c 0 _ rfl, b.c 1 _ rfl, b.c 2 _ rfl, b.c 3 _ rfl⟩
  · obtain ⟨i, hi, e⟩ := hk.only kl hkl
    exact ⟨i, by simpa using hi, by simpa using e⟩
theorem BkIs.book {x : World} {q m : Nat} {ps : List Nat} {ha : Option Addr} {ch : Nat} {sa : Option Addr} {cs : Nat} {L : Led} (h : BkIs x q m ps ha ch sa cs L.acc L.hold L.seen) (hh : ∀ y ∈ L.hold, HldW y) (hs : ∀ y ∈ L.seen, SnW y) : BookAt x q L :=
  ⟨h.lt, m, ha, sa, ch, cs, h.c0, h.c1, h.c2, h.hold.hold hh, h.seen.ans hs, h.mapHas⟩
theorem ix_any {l : List Hld} {id : Int} : (decide (ixV (fi (l.map Hld.id) id) ≥ 0)) = l.any (fun h => h.id == id) := by
  cases e : fi (l.map Hld.id) id with
  | none =>
    have := fi_none e
    have h2 : l.any (fun h => h.id == id) = false := by
      rw [List.any_eq_false]
      intro x hx q
      exact this x.id (List.mem_map_of_mem hx) (by simpa using q)
    rw [h2]; rfl
  | some k =>
    obtain ⟨hk, he⟩ := fi_some e
    have h2 : l.any (fun h => h.id == id) = true := by
      rw [List.any_eq_true]
      exact ⟨l[k]'(by simpa using hk), List.getElem_mem _, by simpa using he⟩
    rw [h2]
    simp [ixV]
set_option maxHeartbeats 4000000 in
theorem full_any (q m : Nat) (ps : List Nat) (ha : Option Addr) (ch : Nat) (sa : Option Addr) (cs : Nat) (D : Led) (c : Cm) (w : World) (n2 : D.hold.length ≤ 1048576) (h : BkIs w q m ps ha ch sa cs D.acc D.hold D.seen) :
    Calls Tryz.prog 58 #[.pointer (some ⟨q, 0, none⟩), c.v] w fun e w' => e = .returned (.bool (fullB D c)) ∧ Below w.heap.size w w' := by
  have HB : Hid _ := hide (below_alloc (Below.refl w.heap.size w) (.cells #[.int .i64 c.id, .int .i64 c.kind, .string c.fr, .string c.to, .int .i64 c.am, .int .i64 c.ref] 30))
  have HK : Hid _ := hide (h.below HB.out)
  have hqn : q ≠ w.heap.size := Nat.ne_of_lt h.lt
  have d0 := HK.out.c0
  have d1 := HK.out.c1
  have d2 := HK.out.c2
  have hln : ∀ ty, (Builtin.len_ #[63] ty #[.map (some m)]).run Tryz.prog (w.alloc (.cells #[.int .i64 c.id, .int .i64 c.kind, .string c.fr, .string c.to, .int .i64 c.am, .int .i64 c.ref] 30)) = .ok (.int .i64 (D.acc.length : Int)) (w.alloc (.cells #[.int .i64 c.id, .int .i64 c.kind, .string c.fr, .string c.to, .int .i64 c.am, .int .i64 c.ref] 30)) := fun ty => by
    obtain ⟨M, ho, hk⟩ := HK.out.map
    rw [ho.len (t := 63) (e := 62) u64 ty, hk.size, List.length_map]
  clear h
  unfold Cm.v
  by_cases s40 : D.seen.length = 40
  · have s40' : ((D.seen.length : Int) == 40) = true := by simp; omega
    have HF : Hid (fullB D c = true) := hide (by simp [fullB, s40])
    clear hln
    go_enter Tryz.func58, Tryz.ntmps58
    go_wp2_with fail
    go_ret
    exact ⟨by rw [HF.out]; rfl, HB.out⟩
  · have s40' : ((D.seen.length : Int) == 40) = false := by simp; omega
    by_cases k1 : c.kind = 1
    · have k1' : (c.kind == 1) = true := by simp [k1]
      have HF : Hid (fullB D c = ((D.acc.length : Int) == 12)) := hide (by
        have e : ((D.acc.length : Int) == 12) = decide (D.acc.length = 12) := by rw [Bool.eq_iff_iff]; simp; omega
        rw [e]; simp [fullB, k1, s40])
      clear k1 s40
      go_enter Tryz.func58, Tryz.ntmps58
      go_wp2_with fail
      go_ret
      exact ⟨by rw [HF.out]; rfl, HB.out⟩
    · have k1' : (c.kind == 1) = false := by simp [k1]
      clear hln
      by_cases k3 : c.kind = 3
      · have k3' : (c.kind == 3) = true := by simp [k3]
        by_cases h10 : D.hold.length = 10
        · have h10' : ((D.hold.length : Int) == 10) = true := by simp; omega
          have HF : Hid (fullB D c = true) := hide (by simp [fullB, k3, h10])
          clear k1 k3 s40 h10
          go_enter Tryz.func58, Tryz.ntmps58
          go_wp2_with fail
          go_ret
          exact ⟨by rw [HF.out]; rfl, HB.out⟩
        · have h10' : ((D.hold.length : Int) == 10) = false := by simp; omega
          have HF : Hid (fullB D c = D.hold.any (fun h => h.id == c.id)) := hide (by simp [fullB, k3, h10, s40])
          clear k1 k3 s40 h10
          go_enter Tryz.func58, Tryz.ntmps58
          go_wp2_with fail
          refine (holdPlace_any q ha D.hold ch c.id _ n2 HK.out.hold HK.out.lt HK.out.c1).mono ?_
          rintro e w2 ⟨rfl, hb2⟩
          have HB2 : Hid _ := hide (below_trans HB.out hb2)
          clear hb2
          go_wp2_with fail
          go_ret
          exact ⟨by rw [HF.out, ← ix_any]; rfl, HB2.out⟩
      · have k3' : (c.kind == 3) = false := by simp [k3]
        have HF : Hid (fullB D c = false) := hide (by simp [fullB, k1, k3, s40])
        clear k1 k3 s40
        go_enter Tryz.func58, Tryz.ntmps58
        go_wp2_with fail
        go_ret
        exact ⟨by rw [HF.out]; rfl, HB.out⟩
end Go.Proofs.YtjjoeajnhblacaaGreatDoor
/- The contracts of aside and of the book's admit. -/
namespace Go.Proofs.YtjjoeajnhblacaaGreatDoor
open Go.ChangeShapes Go.WideShapes Go.ChangeAt Go.RowKit Go.Maps
set_option linter.unusedVariables false
set_option maxRecDepth 100000
theorem aside_any (code : Int) (t : TypeId) (v : Value) (w : World) (hg : w.cell? ⟨0, 0, none⟩ = some (.iface t v)) :
    Calls Tryz.prog 56 #[.int .i64 code] w fun e w' => DeniedEnd code (.iface t v) w e w' := by
  go_enter Tryz.func56, Tryz.ntmps56
  go_wp2
  go_ret
  exact ⟨rfl, rfl⟩
/-- the code of what is put aside -/
def admC (D : Led) (c : Cm) : Option Int :=
  if c.B = false then some 2 else if 0 ≤ seenV D.seen c.id then some (seenV D.seen c.id) else if fullB D c then some 3 else none
def RefEnd (o : Option Int) (g : Value) (w : World) (e : Ending) (w' : World) : Prop := Below w.heap.size w w' ∧
  match o with
  | none => e = .returned .nilIface
  | some code => ∃ n, Pool [] w [[blk n [.int .i64 code, g]]] w' ∧ e = .returned (.iface 91 (.pointer (some ⟨n, 0, none⟩)))
theorem refEnd_new {w x : World} {o : Option Int} {code : Int} {g : Value} (ho : o = some code) (b : Below w.heap.size w x) : RefEnd o g w (.returned (.iface 91 (.pointer (some ⟨x.heap.size, 0, none⟩)))) (x.alloc (.cells #[.int .i64 code, g] 95)) := by
  subst ho
  exact ⟨below_alloc b _, _, ((Pool.start w [[]] rfl).keep b).newBlk (i := 0) rfl [.int .i64 code, g] 95, rfl⟩
theorem seenV_none {l : List Sn} {id : Int} (h : fi (l.map Sn.id) id = none) : seenV l id = -1 := by simp [seenV, h]
theorem seenV_some {l : List Sn} {id : Int} {k : Nat} (h : fi (l.map Sn.id) id = some k) (hk : k < l.length) : seenV l id = l[k].code := by simp [seenV, h, hk]
set_option maxHeartbeats 4000000 in
theorem admit_any (q m : Nat) (ps : List Nat) (ha : Option Addr) (ch : Nat) (sa : Option Addr) (cs : Nat) (D : Led) (c : Cm) (t : TypeId) (v : Value) (w : World) (n2 : D.hold.length ≤ 1048576) (n3 : D.seen.length ≤ 1048576) (hcf : c.fr.size ≤ maxLen) (hct : c.to.size ≤ maxLen) (hco : ∀ y ∈ D.seen, 0 ≤ y.code) (h : BkIs w q m ps ha ch sa cs D.acc D.hold D.seen) (hg : w.cell? ⟨0, 0, none⟩ = some (.iface t v)) :
    Calls Tryz.prog 28 #[.pointer (some ⟨q, 0, none⟩), c.v] w fun e w' => RefEnd (admC D c) (.iface t v) w e w' := by
  have hlt := h.lt
  have HK : Hid _ := hide h
  have HO : Hid _ := hide hco
  have HG : Hid _ := hide hg
  have h0 : 0 < w.heap.size := cell_lt hg
  clear h hco hg
  have HP : Hid _ := hide ((Pool.start w [[]] rfl).newBlk (i := 0) rfl c.cells 30)
  unfold Cm.v
  go_enter Tryz.func28, Tryz.ntmps28
  go_wp2_with fail
  refine (implCommandOk_any _ _ _ _ _ _ _ hcf hct).mono ?_
  rintro e w1 ⟨rfl, hk1⟩
  have HP1 : Hid (Pool [] w [[blk w.heap.size c.cells]] w1) := hide (HP.out.keep hk1.below)
  clear hk1 HP
  cases hB : cmdB c.id c.kind c.fr c.to c.am c.ref
  · have HA : Hid (admC D c = some 2) := hide (by simp [admC, Cm.B, hB])
    have HG1 : Hid _ := hide ((HP1.out.below.cell (p := ⟨0, 0, none⟩) h0).trans HG.out)
    go_wp2_with fail
    refine (aside_any _ t v _ HG1.out).mono ?_
    rintro e w2 ⟨rfl, rfl⟩
    go_wp2_with fail
    go_ret
    exact refEnd_new HA.out HP1.out.below
  · have HBT : Hid (c.B = true) := hide hB
    clear hB
    have c0 := (HP1.out.blkAt (i := 0) rfl).c 0 _ rfl
    go_wp2_with fail
    refine (seenPlace_any q sa D.seen cs c.id _ n3 (HK.out.seen.below HP1.out.below) (Nat.lt_of_lt_of_le hlt HP1.out.below.size) (HK.out.below HP1.out.below).c2).mono ?_
    rintro e w2 ⟨rfl, hb2⟩
    have HP2 : Hid (Pool [] w [[blk w.heap.size c.cells]] w2) := hide (HP1.out.keep hb2)
    clear hb2 HP1 c0
    have HK2 : Hid _ := hide (HK.out.below HP2.out.below)
    cases hf : fi (D.seen.map Sn.id) c.id with
    | some k =>
      obtain ⟨hk, _⟩ := fi_some hf
      have hk : k < D.seen.length := by simpa using hk
      have hk' : (k : Int) < (D.seen.length : Int) := by omega
      have hge : decide ((k : Int) ≥ 0) = true := by simp
      have HA : Hid (admC D c = some D.seen[k].code) := hide (by
        have := HO.out _ (List.getElem_mem hk)
        simp [admC, HBT.out, seenV_some hf hk, this])
      clear hf
      obtain ⟨b, off, ea, hb, z0, z1⟩ := sn_row HK2.out.seen k hk
      have d2 := HK2.out.c2
      rw [ea] at d2
      have HG2 : Hid _ := hide ((HP2.out.below.cell (p := ⟨0, 0, none⟩) h0).trans HG.out)
      unfold ixV
      go_wp2_with fail
      refine (aside_any _ t v _ HG2.out).mono ?_
      rintro e w3 ⟨rfl, rfl⟩
      go_wp2_with fail
      go_ret
      exact refEnd_new HA.out HP2.out.below
    | none =>
      have HN : Hid (seenV D.seen c.id = -1) := hide (seenV_none hf)
      clear hf
      have c0 := (HP2.out.blkAt (i := 0) rfl).c 0 _ rfl
      have c1 := (HP2.out.blkAt (i := 0) rfl).c 1 _ rfl
      have c2 := (HP2.out.blkAt (i := 0) rfl).c 2 _ rfl
      have c3 := (HP2.out.blkAt (i := 0) rfl).c 3 _ rfl
      have c4 := (HP2.out.blkAt (i := 0) rfl).c 4 _ rfl
      have c5 := (HP2.out.blkAt (i := 0) rfl).c 5 _ rfl
      unfold ixV
      go_wp2_with fail
      refine (full_any q m ps ha ch sa cs D c _ n2 HK2.out).mono ?_
      rintro e w3 ⟨rfl, hb3⟩
      have HP3 : Hid (Pool [] w [[blk w.heap.size c.cells]] w3) := hide (HP2.out.keep hb3)
      clear hb3 HP2 HK2 c0 c1 c2 c3 c4 c5
      cases hfu : fullB D c
      · have HA : Hid (admC D c = none) := hide (by simp [admC, HBT.out, HN.out, hfu])
        clear hfu
        go_wp2_with fail
        go_ret
        exact ⟨HP3.out.below, by rw [HA.out]; rfl⟩
      · have HA : Hid (admC D c = some 3) := hide (by simp [admC, HBT.out, HN.out, hfu])
        clear hfu
        have HG3 : Hid _ := hide ((HP3.out.below.cell (p := ⟨0, 0, none⟩) h0).trans HG.out)
        go_wp2_with fail
        refine (aside_any _ t v _ HG3.out).mono ?_
        rintro e w4 ⟨rfl, rfl⟩
        go_wp2_with fail
        go_ret
        exact refEnd_new HA.out HP3.out.below
end Go.Proofs.YtjjoeajnhblacaaGreatDoor
/- The contract of the book's open. -/
namespace Go.Proofs.YtjjoeajnhblacaaGreatDoor
open Go.ChangeShapes Go.WideShapes Go.ChangeAt Go.RowKit Go.Maps
set_option linter.unusedVariables false
set_option maxRecDepth 100000
/-- what a change of the book leaves: the book, and a refusal of the call's own -/
def DoEnd (o : Option Int) (g : Value) (F : List Nat) (rs : List Rs) (w : World) (e : Ending) (w' : World) : Prop :=
  match o with
  | none => e = .returned .nilIface ∧ Pool F w [rs, []] w'
  | some code => ∃ n, e = .returned (.iface 91 (.pointer (some ⟨n, 0, none⟩))) ∧ Pool F w [rs, [blk n [.int .i64 code, g]]] w'
def OpnEnd (q m : Nat) (ps : List Nat) (hv sv : Value) (A : List Acc) (H : List Hld) (S : List Sn) (a : Acc) (g : Value) (F : List Nat) (w : World) (e : Ending) (w' : World) : Prop :=
  match idxA A a.name with
  | some _ => DoEnd (some 4) g F (bkS q m ps hv sv A H S).flatten w e w'
  | none => ∃ p, DoEnd none g F (bkS q m (ps ++ [p]) hv sv (A ++ [a]) H S).flatten w e w'
theorem idxA_off {l : List Acc} {nm : ByteArray} (h : idxA l nm = none) : ∀ i (hi : i < l.length), l[i].name ≠ nm := by
  intro i hi e
  rw [idxA, List.findIdx?_eq_none_iff] at h
  have := h _ (List.getElem_mem hi)
  rw [sameB_iff.2 e] at this
  cases this
theorem off_map {l : List Acc} {nm : ByteArray} (h : ∀ i (hi : i < l.length), l[i].name ≠ nm) : ∀ n ∈ l.map Acc.name, n ≠ nm := by
  intro n hn
  rw [List.mem_map] at hn
  obtain ⟨x, hx, rfl⟩ := hn
  obtain ⟨i, hi, rfl⟩ := List.getElem_of_mem hx
  exact h i hi
structure OpF (FF : List Nat) (w : World) (q m : Nat) (ps : List Nat) (ha : Option Addr) (ch : Nat) (sa : Option Addr) (cs : Nat) (A : List Acc) (H : List Hld) (S : List Sn) (a : Acc) (W : Nat) (l0 l1 l2 l3 l4 l5 l6 : Bool) (u14 u15 u16 u17 u18 u19 : Value) (x : World) : Prop where
  pool : Pool FF w [[blk q [.map (some m), .slice ha H.length ch, .slice sa S.length cs]], cond l6 [mapR m (A.map Acc.name ++ [a.name]) (ps ++ [W])] [mapR m (A.map Acc.name) ps], accB' ps A, [row 71 4 (.slice ha H.length ch) H.length (H.flatMap hldCells)], [row 47 2 (.slice sa S.length cs) S.length (S.flatMap snCells)], [blk W (accCells a)]] x
  p14 : l0 = true → u14 = .pointer (some ⟨q, 0, none⟩)
  p15 : l1 = true → u15 = .pointer (some ⟨q, 0, none⟩)
  p16 : l2 = true → u16 = .pointer (some ⟨q, 0, none⟩)
  p17 : l3 = true → u17 = .map (some m)
  p18 : l4 = true → u18 = .pointer (some ⟨W, 0, none⟩)
  p19 : l5 = true → u19 = .string a.name
set_option maxHeartbeats 4000000 in
theorem opn_any (q m : Nat) (ps : List Nat) (hv sv : Value) (A : List Acc) (H : List Hld) (S : List Sn) (a : Acc) (t : TypeId) (v : Value) (w : World) (n1 : A.length ≤ 1048576) (hps : ps.length = A.length) (hn : a.name.size ≤ maxLen) (h : Star (bkS q m ps hv sv A H S).flatten w) (hg : w.cell? ⟨2, 0, none⟩ = some (.iface t v)) :
    Calls Tryz.prog 59 #[.pointer (some ⟨q, 0, none⟩), .agg #[.string a.name, .string a.cur, .int .i64 a.limit, .int .i64 a.posted]] w fun e w' => OpnEnd q m ps hv sv A H S a (.iface t v) (fps (bkS q m ps hv sv A H S).flatten) w e w' := by
  obtain ⟨FF, hFF⟩ : ∃ FF, FF = fps (bkS q m ps hv sv A H S).flatten := ⟨_, rfl⟩
  obtain ⟨ha, ch, sa, cs, rfl, rfl, hbk⟩ := h.bk hps
  have HP : Hid (Pool FF w [[blk q [.map (some m), .slice ha H.length ch, .slice sa S.length cs]], [mapR m (A.map Acc.name) ps], accB' ps A, [row 71 4 (.slice ha H.length ch) H.length (H.flatMap hldCells)], [row 47 2 (.slice sa S.length cs) S.length (S.flatMap snCells)], []] w) := hide (by
    rw [hFF]
    exact (Pool.of h).cast (by simp [bkS]))
  obtain ⟨W1, hW1⟩ : ∃ W1, W1 = w.alloc (.cells (accCells a).toArray 37) := ⟨_, rfl⟩
  have hB1 : Below w.heap.size w W1 := by rw [hW1]; exact below_alloc (Below.refl _ _) _
  have HP1 : Hid (Pool FF w [[blk q [.map (some m), .slice ha H.length ch, .slice sa S.length cs]], [mapR m (A.map Acc.name) ps], accB' ps A, [row 71 4 (.slice ha H.length ch) H.length (H.flatMap hldCells)], [row 47 2 (.slice sa S.length cs) S.length (S.flatMap snCells)], [blk w.heap.size (accCells a)]] W1) := hide (by rw [hW1]; exact HP.out.newBlk (i := 5) rfl (accCells a) 37)
  have HW1 : Hid (_ = W1) := hide hW1.symm
  have HG : Hid _ := hide ((hB1.cell (p := ⟨2, 0, none⟩) (cell_lt hg)).trans hg)
  have hbk := hbk.below hB1
  have hlt := hbk.lt
  have d0 := hbk.c0
  have HPS : Hid _ := hide hps
  rw [← hFF]
  clear h hg hB1 hW1 HP hFF hps
  unfold accCells at HW1
  have hmh := hbk.mapHas
  clear hbk
  have c0 := (HP1.out.blkAt (i := 5) rfl).c 0 _ rfl
  have c1 := (HP1.out.blkAt (i := 5) rfl).lt
  rcases look_book hmh hn with ⟨i, hi, p, en1, hp, r1⟩ | ⟨no1, r1⟩
  · have HI : Hid (∃ i, idxA A a.name = some i) := hide (by
      cases e : idxA A a.name with
      | some k => exact ⟨k, rfl⟩
      | none => exact absurd en1 (idxA_off e i hi))
    clear hmh hp en1
    go_enter Tryz.func59, Tryz.ntmps59
    go_upto_region 1 with fail
    rw [HW1.out]
    go_quiet (fail)
    go_wp2_with fail
    obtain ⟨W2, hW2⟩ : ∃ W2, W2 = W1.drewN nq := ⟨_, rfl⟩
    have HP2 : Hid (Pool FF w [[blk q [.map (some m), .slice ha H.length ch, .slice sa S.length cs]], [mapR m (A.map Acc.name) ps], accB' ps A, [row 71 4 (.slice ha H.length ch) H.length (H.flatMap hldCells)], [row 47 2 (.slice sa S.length cs) S.length (S.flatMap snCells)], [blk w.heap.size (accCells a)]] W2) := hide (by rw [hW2]; exact HP1.out.keep (drewN_below _ _))
    have HG2 : Hid _ := hide ((by rw [hW2]; exact below_keeps (drewN_below _ _) _ _ HG.out) : W2.cell? ⟨2, 0, none⟩ = some (.iface t v))
    rw [← hW2]
    clear hW2 HP1 HG r1 d0 c0 c1 hlt HW1
    refine (denied_any _ t v _ HG2.out).mono ?_
    rintro e w3 ⟨rfl, rfl⟩
    go_wp2_with fail
    go_ret
    obtain ⟨i, hi⟩ := HI.out
    unfold OpnEnd
    rw [hi]
    refine ⟨_, rfl, ?_⟩
    have z := (HP2.out.drop (i := 5) rfl).newBlk (i := 5) rfl [.int .i64 4, .iface t v] 95
    exact z.cast (by simp [bkS])
  · have HI : Hid (idxA A a.name = none) := hide (idxA_none no1)
    have HN : Hid _ := hide no1
    clear hmh no1
    go_enter Tryz.func59, Tryz.ntmps59
    go_upto_region 1 with fail
    rw [HW1.out]
    go_quiet (fail)
    go_wp2_with fail
    obtain ⟨W2, hW2⟩ : ∃ W2, W2 = W1.drewN nq := ⟨_, rfl⟩
    have HP2 : Hid (Pool FF w [[blk q [.map (some m), .slice ha H.length ch, .slice sa S.length cs]], [mapR m (A.map Acc.name) ps], accB' ps A, [row 71 4 (.slice ha H.length ch) H.length (H.flatMap hldCells)], [row 47 2 (.slice sa S.length cs) S.length (S.flatMap snCells)], [blk w.heap.size (accCells a)]] W2) := hide (by rw [hW2]; exact HP1.out.keep (drewN_below _ _))
    have HG2 : Hid _ := hide ((by rw [hW2]; exact below_keeps (drewN_below _ _) _ _ HG.out) : W2.cell? ⟨2, 0, none⟩ = some (.iface t v))
    rw [← hW2]
    clear hW2 HP1 HG r1 d0 c0 c1 hlt HW1
    rename_i K0 hK0
    refine wp_region_inv (by kernel_rfl) (fun L act x => ∃ l0 l1 l2 l3 l4 l5 l6 : Bool, ∃ u14 u15 u16 u17 u18 u19 : Value, L = #[l0, l1, l2, l3, l4, l5, l6] ∧ act = { tmps := #[Value.pointer (some { block := q, off := 0 }), Value.agg #[Value.string a.name, Value.string a.cur, Value.int IntKind.i64 a.limit, Value.int IntKind.i64 a.posted], undef, Value.pointer (some { block := w.heap.size, off := 0 }), Value.nilIface, Value.pointer (some { block := q, off := 0 }), Value.pointer (some { block := q, off := 0 }), Value.pointer (some { block := q, off := 0 }), Value.map (some m), Value.pointer (some { block := w.heap.size, off := 0 }), Value.string a.name, Value.pointer none, Value.bool false, undef, u14, u15, u16, u17, u18, u19], defers := [] } ∧ OpF FF w q m ps ha ch sa cs A H S a w.heap.size l0 l1 l2 l3 l4 l5 l6 u14 u15 u16 u17 u18 u19 x) ?_ ?_ ?_
    rotate_left 2
    · exact ⟨false, false, false, false, false, false, false, (undef), (undef), (undef), (undef), (undef), (undef), rfl, rfl, ⟨HP2.out.drew, fun q => (by cases q), fun q => (by cases q), fun q => (by cases q), fun q => (by cases q), fun q => (by cases q), fun q => (by cases q)⟩⟩
    · rintro L act x i ⟨l0, l1, l2, l3, l4, l5, l6, u14, u15, u16, u17, u18, u19, rfl, rfl, h⟩ hi K hK
      have hi15 : i < 7 := by
        obtain ⟨_, o, ho, _⟩ := mem_ready.1 hi
        exact (Array.getElem?_eq_some_iff.1 ho).1
      have hl := (mem_ready.1 hi).1
      obtain rfl | rfl | rfl | rfl | rfl | rfl | rfl := (by omega : i = 0 ∨ i = 1 ∨ i = 2 ∨ i = 3 ∨ i = 4 ∨ i = 5 ∨ i = 6)
      · have e : l0 = false := hl
        subst e
        refine wpOp_run (v := .pointer (some ⟨q, 0, none⟩)) (w' := x) (by rfl) (by rfl) ?_ (hK _ _ ⟨true, l1, l2, l3, l4, l5, l6, (.pointer (some ⟨q, 0, none⟩)), u15, u16, u17, u18, u19, rfl, rfl, { h with p14 := fun _ => rfl }⟩)
        go_simp
      · have e : l1 = false := hl
        subst e
        have d0 : l0 = true := ready_on hi 0 (by kernel_rfl)
        subst d0
        refine wpOp_run (v := .pointer (some ⟨q, 0, none⟩)) (w' := x) (by rfl) (by rfl) ?_ (hK _ _ ⟨true, true, l2, l3, l4, l5, l6, u14, (.pointer (some ⟨q, 0, none⟩)), u16, u17, u18, u19, rfl, rfl, { h with p15 := fun _ => rfl }⟩)
        rw [h.p14 rfl]
        go_simp
      · have e : l2 = false := hl
        subst e
        have d1 : l1 = true := ready_on hi 1 (by kernel_rfl)
        subst d1
        refine wpOp_run (v := .pointer (some ⟨q, 0, none⟩)) (w' := x) (by rfl) (by rfl) ?_ (hK _ _ ⟨l0, true, true, l3, l4, l5, l6, u14, u15, (.pointer (some ⟨q, 0, none⟩)), u17, u18, u19, rfl, rfl, { h with p16 := fun _ => rfl }⟩)
        rw [h.p15 rfl]
        go_simp
      · have e : l3 = false := hl
        subst e
        have d2 : l2 = true := ready_on hi 2 (by kernel_rfl)
        subst d2
        have z0 : x.cell? ⟨q, 0, none⟩ = some (.map (some m)) := (h.pool.blkAt (i := 0) rfl).c 0 _ rfl
        refine wpOp_run (v := .map (some m)) (w' := x) (by rfl) (by rfl) ?_ (hK _ _ ⟨l0, l1, true, true, l4, l5, l6, u14, u15, u16, (.map (some m)), u18, u19, rfl, rfl, { h with p17 := fun _ => rfl }⟩)
        rw [h.p16 rfl]
        go_simp
      · have e : l4 = false := hl
        subst e
        refine wpOp_run (v := .pointer (some ⟨w.heap.size, 0, none⟩)) (w' := x) (by rfl) (by rfl) ?_ (hK _ _ ⟨l0, l1, l2, l3, true, l5, l6, u14, u15, u16, u17, (.pointer (some ⟨w.heap.size, 0, none⟩)), u19, rfl, rfl, { h with p18 := fun _ => rfl }⟩)
        go_simp
      · have e : l5 = false := hl
        subst e
        have d4 : l4 = true := ready_on hi 4 (by kernel_rfl)
        subst d4
        have z0 : x.cell? ⟨w.heap.size, 0, none⟩ = some (.string a.name) := (h.pool.blkAt (i := 5) rfl).c 0 _ rfl
        refine wpOp_run (v := .string a.name) (w' := x) (by rfl) (by rfl) ?_ (hK _ _ ⟨l0, l1, l2, l3, true, true, l6, u14, u15, u16, u17, u18, (.string a.name), rfl, rfl, { h with p19 := fun _ => rfl }⟩)
        rw [h.p18 rfl]
        go_simp
      · have e : l6 = false := hl
        subst e
        have d0 : l0 = true := ready_on hi 0 (by kernel_rfl)
        subst d0
        have d1 : l1 = true := ready_on hi 1 (by kernel_rfl)
        subst d1
        have d2 : l2 = true := ready_on hi 2 (by kernel_rfl)
        subst d2
        have d3 : l3 = true := ready_on hi 3 (by kernel_rfl)
        subst d3
        have d4 : l4 = true := ready_on hi 4 (by kernel_rfl)
        subst d4
        have d5 : l5 = true := ready_on hi 5 (by kernel_rfl)
        subst d5
        obtain ⟨y, hr, hp⟩ := h.pool.putMap (i := 1) rfl (by have e := HPS.out; simp only [List.length_map]; omega) (by unfold maxLen; simp only [List.length_map]; omega) hn (off_map HN.out) w.heap.size
        refine wpOp_skip (w' := y) (by rfl) (by rfl) ?_ (hK _ _ ⟨true, true, true, true, true, true, true, u14, u15, u16, u17, u18, u19, rfl, rfl, { h with pool := (hp) }⟩)
        exact exec_mapU rfl (h.p17 rfl) (h.p19 rfl) rfl hr
    · rintro L act x ⟨l0, l1, l2, l3, l4, l5, l6, u14, u15, u16, u17, u18, u19, rfl, rfl, h⟩ hr
      have hall := ready_all hr rfl (by decide)
      have t0 : l0 = true := hall 0 (by decide)
      have t1 : l1 = true := hall 1 (by decide)
      have t2 : l2 = true := hall 2 (by decide)
      have t3 : l3 = true := hall 3 (by decide)
      have t4 : l4 = true := hall 4 (by decide)
      have t5 : l5 = true := hall 5 (by decide)
      have t6 : l6 = true := hall 6 (by decide)
      subst t0 t1 t2 t3 t4 t5 t6
      clear hall hr
      have hp := h.pool
      have HE : Hid (Pool FF w [(bkS q m (ps ++ [w.heap.size]) (.slice ha H.length ch) (.slice sa S.length cs) (A ++ [a]) H S).flatten, []] x) := hide (by
        refine hp.perm ?_
        simp only [bkS, accB'_snoc ps A w.heap.size a HPS.out, List.map_append, List.map_cons, List.map_nil, List.flatten_cons, List.flatten_nil, List.append_nil, List.nil_append, List.cons_append, List.append_assoc, cond]
        refine List.Perm.cons _ (List.Perm.cons _ (List.Perm.append_left _ ?_))
        exact (List.Perm.cons _ (List.Perm.swap _ _ _)).trans (List.Perm.swap _ _ _))
      clear h hp
      refine hK0 _ _ ?_
      go_wp2_with fail
      go_ret
      unfold OpnEnd
      rw [HI.out]
      exact ⟨_, rfl, HE.out⟩
end Go.Proofs.YtjjoeajnhblacaaGreatDoor
/- The contract of the book's pair, with whose blocks it tells. -/
namespace Go.Proofs.YtjjoeajnhblacaaGreatDoor
open Go.ChangeShapes Go.WideShapes Go.ChangeAt Go.RowKit Go.Maps
set_option linter.unusedVariables false
set_option maxRecDepth 100000
/-- 'm[k]' of the book's map -/
theorem look_bk {w : World} {q m : Nat} {ps : List Nat} {ha : Option Addr} {ch : Nat} {sa : Option Addr} {cs : Nat} {A : List Acc} {H : List Hld} {S : List Sn} (h : BkIs w q m ps ha ch sa cs A H S) {nm : ByteArray} (hn : nm.size ≤ maxLen) :
    (∃ j, ∃ hj : j < A.length, idxA A nm = some j ∧ AccBlk w (ps.getD j 0) A[j] ∧ ∀ k, (Instr.lookup 63 (.map (some m)) (.string nm) false).run Tryz.prog (w.drewN k) = .ok (.pointer (some ⟨ps.getD j 0, 0, none⟩)) (w.drewN k)) ∨
    (idxA A nm = none ∧ ∀ k, (Instr.lookup 63 (.map (some m)) (.string nm) false).run Tryz.prog (w.drewN k) = .ok (.pointer none) (w.drewN k)) := by
  obtain ⟨D, ho, hi⟩ := h.map
  have hoN : ∀ k, (w.drewN k).ownsMap Tryz.prog 9 ptrElem m (A.map Acc.name).length D := fun k => ho.kept (below_grownBy (drewN_below w k)) (by simp)
  cases e : idxA A nm with
  | some j =>
    obtain ⟨hj, en, _⟩ := idxA_lt e
    have hq := hi.at_ j (by simpa using hj)
    have b := h.acc j hj
    have hq' : ∀ z, D.atKey (kn nm) z = ptrD (ps.getD j 0) := fun z => by
      have := hq z
      simpa [en] using this
    exact .inl ⟨j, hj, rfl, ⟨b.lt, b.c 0 _ rfl, b.c 1 _ rfl, b.c 2 _ rfl, b.c 3 _ rfl⟩, fun k => look_at (hoN k) hn hq'⟩
  | none =>
    refine .inr ⟨rfl, fun k => look_no (hoN k) hn ?_⟩
    rw [Bool.eq_false_iff]
    intro hh
    obtain ⟨j, hj, e2⟩ := hi.only _ hh
    exact idxA_off e j (by simpa using hj) (by simpa using (kn_inj e2).symm)
def pairC (A : List Acc) (fr tn : ByteArray) : Option Int := match idxA A fr, idxA A tn with
  | some i, some j => if sameC A i j then none else some 6
  | _, _ => some 5
def PrEnd (A : List Acc) (ps : List Nat) (fr tn : ByteArray) (g : Value) (w : World) (e : Ending) (w' : World) : Prop :=
  match pairC A fr tn with
  | none => ∃ i j, idxA A fr = some i ∧ idxA A tn = some j ∧ Below w.heap.size w w' ∧ e = .returned (.tuple #[.pointer (some ⟨ps.getD i 0, 0, none⟩), .pointer (some ⟨ps.getD j 0, 0, none⟩), .nilIface])
  | some code => ∃ n, e = .returned (.tuple #[.pointer none, .pointer none, .iface 91 (.pointer (some ⟨n, 0, none⟩))]) ∧ Pool [] w [[blk n [.int .i64 code, g]]] w'
theorem pr_yes {A : List Acc} {ps : List Nat} {fr tn : ByteArray} {g : Value} {w x : World} {i j : Nat} (hfin : Below w.heap.size w x) (hi : idxA A fr = some i) (hj : idxA A tn = some j) (hc : sameC A i j = true) :
    PrEnd A ps fr tn g w (.returned (.tuple #[.pointer (some ⟨ps.getD i 0, 0, none⟩), .pointer (some ⟨ps.getD j 0, 0, none⟩), .nilIface])) x := by
  have e : pairC A fr tn = none := by simp [pairC, hi, hj, hc]
  unfold PrEnd
  rw [e]
  exact ⟨i, j, hi, hj, hfin, rfl⟩
theorem pr_code {A : List Acc} {ps : List Nat} {fr tn : ByteArray} {g : Value} {w : World} {N : Nat} {code : Int} (h : pairC A fr tn = some code) :
    PrEnd A ps fr tn g w (.returned (.tuple #[.pointer none, .pointer none, .iface 91 (.pointer (some ⟨w.heap.size, 0, none⟩))])) ((w.drewN N).alloc (.cells #[.int .i64 code, g] 95)) := by
  unfold PrEnd
  rw [h]
  exact ⟨_, rfl, (Pool.start w [[]] rfl).newDrawn (i := 0) rfl N [.int .i64 code, g] 95⟩
theorem sameC_at {A : List Acc} {i j : Nat} (hi : i < A.length) (hj : j < A.length) : sameC A i j = sameB A[i].cur A[j].cur := by simp [sameC, hi, hj]
set_option maxHeartbeats 2000000 in
theorem pair_bk {q m : Nat} {ps : List Nat} {ha : Option Addr} {ch : Nat} {sa : Option Addr} {cs : Nat} {A : List Acc} {H : List Hld} {S : List Sn} (fr tn : ByteArray) (t : TypeId) (v : Value) (w : World) (s1 : fr.size ≤ maxLen) (s2 : tn.size ≤ maxLen) (hB : BkIs w q m ps ha ch sa cs A H S) (hg : w.cell? ⟨2, 0, none⟩ = some (.iface t v)) :
    Calls Tryz.prog 85 #[.pointer (some ⟨q, 0, none⟩), .string fr, .string tn] w fun e w' => PrEnd A ps fr tn (.iface t v) w e w' := by
  have hd : ∀ x : World, ∀ code, x.cell? ⟨2, 0, none⟩ = some (.iface t v) → Calls Tryz.prog 93 #[.int .i64 code] x fun e w' => DeniedEnd code (.iface t v) x e w' := fun x code h => denied_any code t v x h
  have HH : Hid _ := hide hB
  have hq := hB.lt
  have c0 := hB.c0
  clear hB
  rcases look_bk HH.out s1 with ⟨i, hi, en1, hp, r1⟩ | ⟨no1, r1⟩
  · rcases look_bk HH.out s2 with ⟨j, hj, en2, hr, r2⟩ | ⟨no2, r2⟩
    · obtain ⟨p0, p1, p2, p3, p4⟩ := hp
      obtain ⟨t0, t1, t2, t3, t4⟩ := hr
      have HN1 : Hid _ := hide en1
      have HN2 : Hid _ := hide en2
      have HC : Hid _ := hide (sameC_at hi hj)
      obtain ⟨p, hpe⟩ : ∃ p, p = ps.getD i 0 := ⟨_, rfl⟩
      obtain ⟨r, hre⟩ : ∃ r, r = ps.getD j 0 := ⟨_, rfl⟩
      have p2' : w.cell? ⟨p, 1, none⟩ = some (.string A[i].cur) := by rw [hpe]; exact p2
      have t2' : w.cell? ⟨r, 1, none⟩ = some (.string A[j].cur) := by rw [hre]; exact t2
      rw [← hpe] at r1 p0
      rw [← hre] at r2 t0
      have HPE : Hid _ := hide hpe
      have HRE : Hid _ := hide hre
      clear en1 en2 p1 p2 p3 p4 t1 t2 t3 t4 hpe hre HH
      cases q1 : (A[i].cur.toList == A[j].cur.toList)
      · have q1' : (A[i].cur.toList != A[j].cur.toList) = true := by simp [bne, q1]
        have HQ : Hid (pairC A fr tn = some 6) := hide (by
          have e : sameC A i j = false := by
            rw [HC.out, Bool.eq_false_iff]
            intro e
            rw [beq_bytes.2 (sameB_iff.1 e)] at q1
            cases q1
          simp [pairC, HN1.out, HN2.out, e])
        go_enter Tryz.func85, Tryz.ntmps85
        go_wp2_with fail
        go_quiet (fail)
        go_wp2_with fail
        go_quiet (fail)
        go_wp2_with (first | (go_at_call 93; refine (hd _ _ (by simpa using hg)).mono ?_; rintro e w1 ⟨rfl, rfl⟩))
        go_ret3
        exact pr_code HQ.out
      · have q1' : (A[i].cur.toList != A[j].cur.toList) = false := by simp [bne, q1]
        have HQ : Hid (sameC A i j = true) := hide (by rw [HC.out]; exact sameB_iff.2 (beq_bytes.1 q1))
        go_enter Tryz.func85, Tryz.ntmps85
        go_wp2_with fail
        go_quiet (fail)
        go_wp2_with fail
        go_quiet (fail)
        go_wp2
        go_ret3
        rw [HPE.out, HRE.out]
        exact pr_yes (below_drewN (drewN_below w _) _) HN1.out HN2.out HQ.out
    · have HN : Hid (pairC A fr tn = some 5) := hide (by simp [pairC, en1, no2])
      obtain ⟨p, hpe⟩ : ∃ p, p = ps.getD i 0 := ⟨_, rfl⟩
      rw [← hpe] at r1
      clear no2 hp en1 hpe HH
      go_enter Tryz.func85, Tryz.ntmps85
      go_wp2_with fail
      go_quiet (fail)
      go_wp2_with (first | (go_at_call 93; refine (hd _ _ (by simpa using hg)).mono ?_; rintro e w1 ⟨rfl, rfl⟩))
      go_ret3
      exact pr_code HN.out
  · have HN : Hid (pairC A fr tn = some 5) := hide (by simp [pairC, no1])
    have hr2 : ∃ u, ∀ k, (Instr.lookup 63 (.map (some m)) (.string tn) false).run Tryz.prog (w.drewN k) = .ok u (w.drewN k) := by
      rcases look_bk HH.out s2 with ⟨j, hj, en2, hr, r2⟩ | ⟨no2, r2⟩
      · exact ⟨_, r2⟩
      · exact ⟨_, r2⟩
    obtain ⟨u, r2⟩ := hr2
    clear no1 HH
    go_enter Tryz.func85, Tryz.ntmps85
    go_wp2_with fail
    go_quiet (fail)
    go_wp2_with (first | (go_at_call 93; refine (hd _ _ (by simpa using hg)).mono ?_; rintro e w1 ⟨rfl, rfl⟩))
    go_ret3
    exact pr_code HN.out
end Go.Proofs.YtjjoeajnhblacaaGreatDoor
