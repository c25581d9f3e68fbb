/- Parcels, ends, nodes and worlds as data, beside slots. -/
import Derived.Test.YtilacamcedjbmaaMov
namespace Go.Proofs.Ytilacamcedjbmaa
open Go.ChangeShapes Go.WideShapes Go.ChangeAt Go.RowKit
set_option linter.unusedVariables false
theorem row_shape {w : World} {base : Nat} {e : TypeId} {size : Nat} {v : Value} {n : Nat} {xs : List Value} (h : w.ownsRow base e size v n xs) : ∃ a c, v = .slice a n c := by
  obtain ⟨_, ⟨h0, h1⟩ | ⟨g, cap, cur, h1, _⟩⟩ := h
  · exact ⟨none, 0, by rw [h0, h1]⟩
  · exact ⟨_, _, h1⟩
theorem own_base {x : World} {base : Nat} {e : TypeId} {sz : Nat} {v : Value} {n : Nat} {xs : List Value} (h : x.ownsRow base e sz v n xs) : ∀ g, v.ownBlock = some g → base ≤ g := by
  intro g hg
  obtain ⟨hl, ⟨h0, h1⟩ | ⟨g', cap, cur, h1, hb, _⟩⟩ := h
  · rw [h0] at hg; cases hg
  · rw [h1] at hg
    simp only [Value.ownBlock, Option.some.injEq] at hg
    omega
theorem own_keep {x y : World} {base : Nat} {e : TypeId} {sz : Nat} {v : Value} {n : Nat} {xs : List Value} (h : x.ownsRow base e sz v n xs) (b : Below x.heap.size x y) : y.ownsRow base e sz v n xs := by
  obtain ⟨hl, ⟨h0, h1⟩ | ⟨g, cap, cur, h1, hb, hg, r⟩⟩ := h
  · exact ⟨hl, .inl ⟨h0, h1⟩⟩
  · exact ⟨hl, .inr ⟨g, cap, cur, h1, hb, (b.block g (Array.getElem?_eq_some_iff.1 hg).1).trans hg, r⟩⟩
theorem cell_new3 {w w1 : World} {v0 v1 v2 : Value} {T : TypeId} (h : Below (w.alloc (.cells #[v0, v1, v2] T)).heap.size (w.alloc (.cells #[v0, v1, v2] T)) w1) : w1.cell? ⟨w.heap.size, 0, none⟩ = some v0 ∧ w1.cell? ⟨w.heap.size, 1, none⟩ = some v1 ∧ w1.cell? ⟨w.heap.size, 2, none⟩ = some v2 := by
  have h1 : w.heap.size < (w.alloc (.cells #[v0, v1, v2] T)).heap.size := by simp
  exact ⟨(h.cell h1).trans (World.cell?_alloc_at _ _ _ _ rfl), (h.cell h1).trans (World.cell?_alloc_at _ _ _ _ rfl), (h.cell h1).trans (World.cell?_alloc_at _ _ _ _ rfl)⟩
structure Prc where
  seq : Int
  amt : Int
def prcCells (x : Prc) : List Value := [.int .i64 x.seq, .int .i64 x.amt]
theorem prcLen (x : Prc) : (prcCells x).length = 2 := rfl
theorem prc_one (l : List Prc) : ∀ u ∈ l.flatMap prcCells, u.oneCell' = true := fun u hu => by
  obtain ⟨x, _, hx⟩ := List.mem_flatMap.1 hu
  simp only [prcCells, List.mem_cons, List.not_mem_nil, or_false] at hx
  rcases hx with rfl | rfl <;> rfl
theorem prc_row {w : World} {a : Option Addr} {l : List Prc} (h : RowAt 2 prcCells w a l) (i : Nat) (hi : i < l.length) : ∃ b off, a = some ⟨b, off, none⟩ ∧ b < w.heap.size ∧ w.cell? ⟨b, off + i * 2, none⟩ = some (.int .i64 l[i].seq) ∧ w.cell? ⟨b, off + i * 2 + 1, none⟩ = some (.int .i64 l[i].amt) := by
  obtain ⟨b, off, e, hb, hc⟩ := h i hi
  exact ⟨b, off, e, hb, hc 0 _ rfl, hc 1 _ rfl⟩
/-- the end of a link -/
structure En where
  out : List Prc
  sent : Int
  got : Int
/-- the parcel at a place is as it must be -/
def prcB (sent : Int) (n : Nat) (j : Nat) (p : Prc) : Bool := (p.seq == sent - (n : Int) + 1 + (j : Int)) && decide (1 ≤ p.seq) && inB 1 1000000000000 p.amt
def endB (E : En) : Bool := decide (E.out.length ≤ 8) && inB 0 1000000000 E.sent && inB 0 1000000000 E.got && decide (∀ j (h : j < E.out.length), prcB E.sent E.out.length j E.out[j] = true)
/-- a number that was answered -/
structure Sn where
  id : Int
  code : Int
def snCells (x : Sn) : List Value := [.int .i64 x.id, .int .i64 x.code]
theorem snLen (x : Sn) : (snCells x).length = 2 := rfl
theorem sn_row {w : World} {a : Option Addr} {l : List Sn} (h : RowAt 2 snCells w a l) (i : Nat) (hi : i < l.length) : ∃ b off, a = some ⟨b, off, none⟩ ∧ b < w.heap.size ∧ w.cell? ⟨b, off + i * 2, none⟩ = some (.int .i64 l[i].id) ∧ w.cell? ⟨b, off + i * 2 + 1, none⟩ = some (.int .i64 l[i].code) := by
  obtain ⟨b, off, e, hb, hc⟩ := h i hi
  exact ⟨b, off, e, hb, hc 0 _ rfl, hc 1 _ rfl⟩
/-- a peer: its number, its end, and where the end's row lies -/
structure Pr where
  id : Int
  a : Option Addr
  cap : Nat
  E : En
structure PD where
  id : Int
  E : En
def Pr.d (p : Pr) : PD := ⟨p.id, p.E⟩
def prCells (p : Pr) : List Value := [.int .i64 p.id, .slice p.a p.E.out.length p.cap, .int .i64 p.E.sent, .int .i64 p.E.got]
theorem prLen (x : Pr) : (prCells x).length = 4 := rfl
theorem pr_row {w : World} {a : Option Addr} {l : List Pr} (h : RowAt 4 prCells w a l) (i : Nat) (hi : i < l.length) : ∃ b off, a = some ⟨b, off, none⟩ ∧ b < w.heap.size ∧ w.cell? ⟨b, off + i * 4, none⟩ = some (.int .i64 l[i].id) ∧ w.cell? ⟨b, off + i * 4 + 1, none⟩ = some (.slice l[i].a l[i].E.out.length l[i].cap) ∧ w.cell? ⟨b, off + i * 4 + 2, none⟩ = some (.int .i64 l[i].E.sent) ∧ w.cell? ⟨b, off + i * 4 + 3, none⟩ = some (.int .i64 l[i].E.got) := by
  obtain ⟨b, off, e, hb, hc⟩ := h i hi
  exact ⟨b, off, e, hb, hc 0 _ rfl, hc 1 _ rfl, hc 2 _ rfl, hc 3 _ rfl⟩
structure PeersAt (w : World) (a : Option Addr) (l : List Pr) : Prop where
  row : RowAt 4 prCells w a l
  ends : ∀ p ∈ l, RowAt 2 prcCells w p.a p.E.out
theorem PeersAt.below {w w' : World} {a : Option Addr} {l : List Pr} (h : PeersAt w a l) (k : Below w.heap.size w w') : PeersAt w' a l :=
  ⟨h.row.below k, fun p hp => (h.ends p hp).below k⟩
theorem PeersAt.nil {w : World} {a : Option Addr} : PeersAt w a [] := ⟨RowAt.nil, fun p hp => by simp at hp⟩
/-- a node: its numbers, its rows and where they lie -/
structure Nd where
  id : Int
  has : Int
  spent : Int
  earned : Int
  sa : Option Addr
  sc : Nat
  seen : List Sn
  pa : Option Addr
  pc : Nat
  peers : List Pr
structure NdD where
  id : Int
  has : Int
  spent : Int
  earned : Int
  seen : List Sn
  peers : List PD
def Nd.d (n : Nd) : NdD := ⟨n.id, n.has, n.spent, n.earned, n.seen, n.peers.map Pr.d⟩
def ndCells (n : Nd) : List Value := [.int .i64 n.id, .int .i64 n.has, .int .i64 n.spent, .int .i64 n.earned, .slice n.sa n.seen.length n.sc, .slice n.pa n.peers.length n.pc]
theorem ndLen (x : Nd) : (ndCells x).length = 6 := rfl
structure NodeAt (w : World) (n : Nd) : Prop where
  seen : RowAt 2 snCells w n.sa n.seen
  peers : PeersAt w n.pa n.peers
theorem NodeAt.below {w w' : World} {n : Nd} (h : NodeAt w n) (k : Below w.heap.size w w') : NodeAt w' n := ⟨h.seen.below k, h.peers.below k⟩
theorem nd_row {w : World} {a : Option Addr} {l : List Nd} (h : RowAt 6 ndCells w a l) (i : Nat) (hi : i < l.length) : ∃ b off, a = some ⟨b, off, none⟩ ∧ b < w.heap.size ∧ w.cell? ⟨b, off + i * 6, none⟩ = some (.int .i64 l[i].id) ∧ w.cell? ⟨b, off + i * 6 + 1, none⟩ = some (.int .i64 l[i].has) ∧ w.cell? ⟨b, off + i * 6 + 2, none⟩ = some (.int .i64 l[i].spent) ∧ w.cell? ⟨b, off + i * 6 + 3, none⟩ = some (.int .i64 l[i].earned) ∧ w.cell? ⟨b, off + i * 6 + 4, none⟩ = some (.slice l[i].sa l[i].seen.length l[i].sc) ∧ w.cell? ⟨b, off + i * 6 + 5, none⟩ = some (.slice l[i].pa l[i].peers.length l[i].pc) := by
  obtain ⟨b, off, e, hb, hc⟩ := h i hi
  exact ⟨b, off, e, hb, hc 0 _ rfl, hc 1 _ rfl, hc 2 _ rfl, hc 3 _ rfl, hc 4 _ rfl, hc 5 _ rfl⟩
structure NodesAt (w : World) (a : Option Addr) (l : List Nd) : Prop where
  row : RowAt 6 ndCells w a l
  each : ∀ n ∈ l, NodeAt w n
theorem NodesAt.below {w w' : World} {a : Option Addr} {l : List Nd} (h : NodesAt w a l) (k : Below w.heap.size w w') : NodesAt w' a l := ⟨h.row.below k, fun n hn => (h.each n hn).below k⟩
theorem NodesAt.nil {w : World} {a : Option Addr} : NodesAt w a [] := ⟨RowAt.nil, fun p hp => by simp at hp⟩
/-- a message -/
structure Mg where
  fr : Int
  to : Int
  kind : Int
  seq : Int
  amt : Int
def mgCells (m : Mg) : List Value := [.int .i64 m.fr, .int .i64 m.to, .int .i64 m.kind, .int .i64 m.seq, .int .i64 m.amt]
theorem mgLen (x : Mg) : (mgCells x).length = 5 := rfl
theorem mg_row {w : World} {a : Option Addr} {l : List Mg} (h : RowAt 5 mgCells w a l) (i : Nat) (hi : i < l.length) : ∃ b off, a = some ⟨b, off, none⟩ ∧ b < w.heap.size ∧ w.cell? ⟨b, off + i * 5, none⟩ = some (.int .i64 l[i].fr) ∧ w.cell? ⟨b, off + i * 5 + 1, none⟩ = some (.int .i64 l[i].to) ∧ w.cell? ⟨b, off + i * 5 + 2, none⟩ = some (.int .i64 l[i].kind) ∧ w.cell? ⟨b, off + i * 5 + 3, none⟩ = some (.int .i64 l[i].seq) ∧ w.cell? ⟨b, off + i * 5 + 4, none⟩ = some (.int .i64 l[i].amt) := by
  obtain ⟨b, off, e, hb, hc⟩ := h i hi
  exact ⟨b, off, e, hb, hc 0 _ rfl, hc 1 _ rfl, hc 2 _ rfl, hc 3 _ rfl, hc 4 _ rfl⟩
def allTo (f : Nat → Bool) : Nat → Bool
  | 0 => true
  | n + 1 => allTo f n && f n
theorem allTo_false {f : Nat → Bool} {n k : Nat} (h : k < n) (hf : f k = false) : allTo f n = false := by
  induction n with
  | zero => omega
  | succ n ih =>
    simp only [allTo]
    rcases Nat.lt_or_ge k n with h1 | h1
    · rw [ih h1]; rfl
    · obtain rfl : k = n := by omega
      rw [hf, Bool.and_false]
theorem allTo_step {f : Nat → Bool} {k : Nat} (h : allTo f k = true) (hf : f k = true) : allTo f (k + 1) = true := by simp [allTo, h, hf]
theorem allTo_get {f : Nat → Bool} {n k : Nat} (h : allTo f n = true) (hk : k < n) : f k = true := by
  induction n with
  | zero => omega
  | succ n ih =>
    simp only [allTo, Bool.and_eq_true] at h
    rcases Nat.lt_or_ge k n with h1 | h1
    · exact ih h.1 h1
    · obtain rfl : k = n := by omega
      exact h.2
theorem allTo_iff {f : Nat → Bool} {n : Nat} : allTo f n = true ↔ ∀ k, k < n → f k = true :=
  ⟨fun h k hk => allTo_get h hk, fun h => by
    induction n with
    | zero => rfl
    | succ n ih => exact allTo_step (ih fun k hk => h k (by omega)) (h n (by omega))⟩
theorem allTo_congr {f g : Nat → Bool} {n : Nat} (h : ∀ k, k < n → f k = g k) : allTo f n = allTo g n := by
  induction n with
  | zero => rfl
  | succ n ih => simp only [allTo]; rw [ih fun k hk => h k (by omega), h n (by omega)]
def risesB (l : List Int) (k : Nat) : Bool := match k with
  | 0 => true
  | m + 1 => match l[m]?, l[m + 1]? with
    | some x, some y => decide (x < y)
    | _, _ => false
theorem rises_at {l : List Int} {m : Nat} (h : m + 1 < l.length) : risesB l (m + 1) = decide (l[m] < l[m + 1]) := by
  simp [risesB, List.getElem?_eq_getElem h, List.getElem?_eq_getElem (show m < l.length by omega)]
def snB (cd : Int → Bool) (l : List Sn) (k : Nat) : Bool := match l[k]? with
  | none => false
  | some x => inB 1 1000000000 x.id && risesB (l.map Sn.id) k && cd x.code
theorem snB_at {cd : Int → Bool} {l : List Sn} {k : Nat} (h : k < l.length) : snB cd l k = (inB 1 1000000000 (l[k]).id && risesB (l.map Sn.id) k && cd (l[k]).code) := by simp [snB, List.getElem?_eq_getElem h]
theorem rises_sn {l : List Sn} {m : Nat} (h : m + 1 < l.length) : risesB (l.map Sn.id) (m + 1) = decide ((l[m]).id < (l[m + 1]).id) := by
  rw [rises_at (by simpa using h)]; simp
def nodeCd (c : Int) : Bool := (c == 0) || (c == 4) || (c == 6)
def pdB (own : Int) (l : List PD) (k : Nat) : Bool := match l[k]? with
  | none => false
  | some x => inB 1 1000000000 x.id && risesB (l.map PD.id) k && !(x.id == own) && endB x.E
theorem pdB_at {own : Int} {l : List Pr} {k : Nat} (h : k < l.length) : pdB own (l.map Pr.d) k = (inB 1 1000000000 (l[k]).id && risesB (l.map Pr.id) k && !((l[k]).id == own) && endB (l[k]).E) := by
  have e : (l.map Pr.d).map PD.id = l.map Pr.id := by simp [Pr.d]
  simp only [pdB, List.getElem?_map, List.getElem?_eq_getElem h, Option.map_some, e]
  rfl
theorem rises_pr {l : List Pr} {m : Nat} (h : m + 1 < l.length) : risesB (l.map Pr.id) (m + 1) = decide ((l[m]).id < (l[m + 1]).id) := by
  rw [rises_at (by simpa using h)]; simp
def nodeB (D : NdD) : Bool := inB 1 1000000000 D.id && inB 0 10000000000000 D.has && inB 0 1000000000000 D.spent && inB 0 1000000000000 D.earned && decide (D.seen.length ≤ 40) && decide (D.peers.length ≤ 8) && allTo (snB nodeCd D.seen) D.seen.length && allTo (pdB D.id D.peers) D.peers.length
end Go.Proofs.Ytilacamcedjbmaa
