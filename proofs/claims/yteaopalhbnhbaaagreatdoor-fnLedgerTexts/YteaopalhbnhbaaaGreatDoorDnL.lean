/- A drawn ledger. -/
import Derived.Test.YteaopalhbnhbaaaGreatDoorDnC
import Derived.Test.YteaopalhbnhbaaaGreatDoorPvM
import Derived.Test.YteaopalhbnhbaaaGreatDoorLAq
import Derived.Test.YteaopalhbnhbaaaGreatDoorApO
namespace Go.Proofs.YteaopalhbnhbaaaGreatDoor
open Go.ChangeShapes Go.WideShapes Go.ChangeAt Go.RowKit
set_option linter.unusedVariables false
set_option maxRecDepth 100000
theorem curB_sz {s : ByteArray} (h : curB s = true) : s.size ≤ maxLen := by
  simp only [curB, Bool.and_eq_true, decide_eq_true_eq] at h
  rw [h.1]
  decide
theorem led_w {D : Led} (r : Rt D) : LedW D := by
  refine ⟨fun x hx => ?_, fun h hh => ?_, fun s hs => ?_⟩
  · obtain ⟨h1, h2, h3, h4, _⟩ := r.ac x hx
    simp only [withinB, inB, Bool.and_eq_true, decide_eq_true_eq] at h4
    exact ⟨nameB_sz h1, curB_sz h2, by unfold I64; omega, by unfold I64; omega⟩
  · obtain ⟨h1, h2, _, x, hx, y, hy, e1, e2, _⟩ := r.ho h hh
    exact ⟨by rw [← e1]; exact nameB_sz (r.ac x hx).1, by rw [← e2]; exact nameB_sz (r.ac y hy).1, by unfold I64; omega, by unfold I64; omega⟩
  · have h1 := r.se s hs
    exact ⟨by unfold I64; omega, by unfold I64; omega⟩
theorem Star.hold_row {p : LP} {D : Led} {w : World} (h : Star (ledL p D) w) : RowAt 4 hldCells w p.ha D.hold := (h.get (r := orow 4 hldCells p.ha p.ch D.hold) (by simp [ledL])).2.rows
/-- few of each -/
structure LedF (D : Led) : Prop where
  w : LedW D
  a : D.acc.length ≤ 1000
  h : D.hold.length ≤ 1000
  s : D.seen.length ≤ 1000
theorem led_f {D : Led} (h : ledS D = true) : LedF D := by
  have r := rt_of h
  exact ⟨led_w r, by have := r.na; omega, by have := r.nh; omega, by have := r.ns; omega⟩
/-- a drawn ledger: of its own; beside it only the reader has turned -/
def LedgerEnd (B : Nat) (w : World) (e : Ending) (w' : World) : Prop := ∃ (p : LP) (D : Led), e = .returned (ledV p D) ∧ PlOk p D ∧ LedF D ∧ RP B w [ledL p D] w'
def lp0 : LP := ⟨none, 0, none, 0, none, 0⟩
theorem led0_star (x : World) : Star (ledL lp0 ⟨[], [], []⟩) x ∧ fps (ledL lp0 ⟨[], [], []⟩) = [] := by
  have z : ∀ {A : Type} (sz : Nat) (f : A → List Value), fps [orow sz f none 0 ([] : List A)] = [] := fun sz f => by simp [fps_one, orow_fp, Value.ownBlock]
  have s : Star ([orow 4 accCells none 0 ([] : List Acc)] ++ ([orow 4 hldCells none 0 ([] : List Hld)] ++ [orow 2 snCells none 0 ([] : List Sn)])) x :=
    Star.ofNone.app (Star.ofNone.app Star.ofNone (fun c hc => by rw [z] at hc; cases hc)) (fun c hc => by rw [z] at hc; cases hc)
  refine ⟨s, ?_⟩
  show fps ([orow 4 accCells none 0 ([] : List Acc)] ++ ([orow 4 hldCells none 0 ([] : List Hld)] ++ [orow 2 snCells none 0 ([] : List Sn)])) = []
  rw [fps_app, fps_app, z, z, z]
  rfl
theorem led0_ok : PlOk lp0 ⟨[], [], []⟩ := ⟨⟨fun _ h => (by cases h), fun _ => rfl, Nat.le_refl _⟩, ⟨fun _ h => (by cases h), fun _ => rfl, Nat.le_refl _⟩, ⟨fun _ h => (by cases h), fun _ => rfl, Nat.le_refl _⟩⟩
theorem led0_right : ledS ⟨[], [], []⟩ = true := by decide
theorem RP.set3 {B : Nat} {w x : World} {S : List (List Rs)} (h : RP B w S x) {i b : Nat} {z0 z1 z2 : Value} (hi : S[i]? = some [blk b [z0, z1, z2]]) (v0 v1 v2 : Value) :
    RP B w (S.set i [blk b [v0, v1, v2]]) (((x.setCell ⟨b, 0, none⟩ v0).setCell ⟨b, 1, none⟩ v1).setCell ⟨b, 2, none⟩ v2) := by
  have hlen : i < S.length := (List.getElem?_eq_some_iff.1 hi).1
  have h0 := h.setBlk (i := i) hi 0 v0 (by simp)
  have h1 := h0.setBlk (i := i) (by rw [List.getElem?_set_self (by simpa using hlen)]) 1 v1 (by simp)
  have h2 := h1.setBlk (i := i) (by rw [List.getElem?_set_self (by simpa using hlen)]) 2 v2 (by simp)
  simpa [List.set_set] using h2
theorem RP.setPost {B : Nat} {w x : World} {S : List (List Rs)} (h : RP B w S x) {k i : Nat} {a : Option Addr} {cap : Nat} {l : List Acc} (hk : S[k]? = some [orow 4 accCells a cap l]) (hi : i < l.length) (d : Int) : RP B w (S.set k [orow 4 accCells a cap (setP l i d)]) (x.setCell ⟨gOf a, i * 4 + 3, none⟩ (.int .i64 (l[i].posted + d))) := by
  have hp := h.p.setPost (k := k + 1) (by simpa using hk) hi d
  have hsh := h.p.shpAt (i := k + 1) (by simpa using hk)
  have hm : gOf a ∈ fps [orow 4 accCells a cap l] := by
    rcases id hsh with ⟨_, _, z⟩ | ⟨g, cur, T, rfl, _⟩
    · omega
    · rw [fps_one, orow_fp]; simp [Value.ownBlock, gOf]
  exact h.up (G := [gOf a]) hp ((Fr.refl _ _).set (.inl (by simp))) (fun c hc => by simp only [List.mem_singleton] at hc; subst hc; exact h.far hk _ hm)
theorem RP.appendO {A : Type} {sz : Nat} {f : A → List Value} (hf : ∀ x, (f x).length = sz) (h0 : 0 < sz) (hone : ∀ y, ∀ u ∈ f y, u.oneCell' = true) {P : Program} {B : Nat} {w x : World} {S : List (List Rs)} (h : RP B w S x) {k : Nat} {a : Option Addr} {cap : Nat} {l : List A} (hk : S[k]? = some [orow sz f a cap l])
    (t ty e : TypeId) (i : TypeInfo) (z : Value) (bytes : Nat) (ht : P.underlying t = some (.slice e)) (hi : P.info? e = some i) (hz : i.zero = some z) (hsize : i.size = sz) (hby : i.bytes = bytes) (hzs : z.cells.size = sz)
    (ad : Addr) (c : Nat) (y : A) (hnews : ∀ j u, (f y)[j]? = some u → x.cell? (ad.add j) = some u) (h63 : l.length + 1 ≤ maxLen) (hbytes : (l.length + 1) * bytes ≤ 140737488355328) :
    ∃ a' cap' X, (Builtin.append_ #[t, t] ty #[.slice a l.length cap, .slice (some ad) 1 c]).run P x = .ok (.slice a' (l.length + 1) cap') X ∧ SlOk a' cap' (l.length + 1) ∧ RP B w (S.set k [orow sz f a' cap' (l ++ [y])]) X := by
  obtain ⟨a', cap', X, r1, r2, r3, r4, r5⟩ := append_orow hf h0 hone ((h.p.shpAt (i := k + 1) (by simpa using hk))) ((h.p.orowAt (i := k + 1) (by simpa using hk))) t ty e i z bytes ht hi hz hsize hby hzs ad c y hnews h63 hbytes
  exact ⟨a', cap', X, r1, r2, h.step hk r4 r3 r5⟩
structure LlF (B : Nat) (w : World) (p : LP) (D : Led) (N : Nat) (l0 l1 l2 l3 l4 l5 l6 l7 l8 : Bool) (u16 u17 u18 u19 u20 u21 u22 u23 : Value) (pm : LP) (m : Led) (p2 : LP) (n2 : Led) (T : List Rs) (x : World) : Prop where
  rp : RP B w [[blk w.heap.size [.slice none 0 0, .slice none 0 0, .slice none 0 0]], [blk N (ledC pm m)], ledL p D, T] x
  m0 : l8 = false → pm = p ∧ m = D
  t4 : l4 = false → T = []
  q21 : l4 = true → T = ledL p2 n2 ∧ PlOk p2 n2 ∧ ledS n2 = true ∧ ∃ cd : Int, u21 = .tuple #[ledV p2 n2, .int .i64 cd]
  q16 : l5 = true → u16 = u21
  q22 : l6 = true → u22 = ledV p2 n2
  m8 : l8 = true → pm = p2 ∧ m = n2
  q20 : l3 = true → ∃ c : Cm, c.fr.size ≤ 8 ∧ c.to.size ≤ 8 ∧ u20 = c.v
  d8 : l8 = true → l0 = true ∧ l2 = true ∧ l4 = true ∧ l5 = true ∧ l6 = true
  d4 : l4 = true → l3 = true
  d5 : l5 = true → l4 = true
  d6 : l6 = true → l5 = true
  p17 : l0 = true → u17 = .agg #[.slice p.aa D.acc.length p.ca, .slice p.ha D.hold.length p.ch, .slice p.sa D.seen.length p.cs]
  p19 : l2 = true → u19 = .agg #[.slice p.aa D.acc.length p.ca, .slice p.ha D.hold.length p.ch, .slice p.sa D.seen.length p.cs]
  p18 : l1 = true → u18 = .pointer (some ⟨B, 0, none⟩)
theorem LlF.row {B : Nat} {w : World} {p : LP} {D : Led} {N : Nat} {l0 l1 l2 l3 l4 l5 l6 l7 l8 : Bool} {u16 u17 u18 u19 u20 u21 u22 u23 : Value} {x : World} {pm : LP} {m : Led} {p2 : LP} {n2 : Led} {T : List Rs} (h : LlF B w p D N l0 l1 l2 l3 l4 l5 l6 l7 l8 u16 u17 u18 u19 u20 u21 u22 u23 pm m p2 n2 T x) {y : World} (ha : Aprt B x y) : RowAt 4 hldCells y p.ha D.hold := by
  have s := h.rp.get (i := 2) rfl
  have f := h.rp.far (i := 2) rfl
  exact (s.keep (F := [B]) (⟨ha.os, ha.tape, ha.output, ha.size, fun k hk hn => ha.block k hk (by simpa using hn)⟩) (fun b hb q => by have := f b hb; simp only [List.mem_singleton] at q; omega)).hold_row
theorem LlF.star {B : Nat} {w : World} {p : LP} {D : Led} {N : Nat} {l0 l1 l2 l3 l4 l5 l6 l7 l8 : Bool} {u16 u17 u18 u19 u20 u21 u22 u23 : Value} {x : World} {pm : LP} {m : Led} {p2 : LP} {n2 : Led} {T : List Rs} (h : LlF B w p D N l0 l1 l2 l3 l4 l5 l6 l7 l8 u16 u17 u18 u19 u20 u21 u22 u23 pm m p2 n2 T x) : Star (ledL p D) x := h.rp.get (i := 2) rfl
theorem LlF.c3 {B : Nat} {w : World} {p : LP} {D : Led} {N : Nat} {l0 l4 l5 l6 l7 l8 : Bool} {u16 u17 u18 u19 u20 u21 u22 u23 : Value} {x : World} {pm : LP} {m : Led} {p2 : LP} {n2 : Led} {T : List Rs} {c : Cm} {y : World} (h : LlF B w p D N l0 true true false l4 l5 l6 l7 l8 u16 u17 u18 u19 u20 u21 u22 u23 pm m p2 n2 T x) (hf : c.fr.size ≤ 8) (ht : c.to.size ≤ 8) (hr : Rd B y) (ha : Aprt B x y) : LlF B w p D N l0 true true true l4 l5 l6 l7 l8 u16 u17 u18 u19 c.v u21 u22 u23 pm m p2 n2 T y :=
  { h with rp := h.rp.read hr ha, q20 := fun _ => ⟨c, hf, ht, rfl⟩, d4 := fun q => (by cases h.d4 q) }
theorem LlF.c4 {B : Nat} {w : World} {p : LP} {D : Led} {N : Nat} {l1 l2 l5 l6 l7 l8 : Bool} {u16 u17 u18 u19 u20 u21 u22 u23 : Value} {x : World} {pm : LP} {m : Led} {p2 : LP} {n2 : Led} {T : List Rs} {q : LP} {n3 : Led} {cd : Int} {y : World} (h : LlF B w p D N true l1 l2 true false l5 l6 l7 l8 u16 u17 u18 u19 u20 u21 u22 u23 pm m p2 n2 T x) (hk : PlOk q n3) (hs : ledS n3 = true) (hp : Pool [] x [ledL q n3] y) : LlF B w p D N true l1 l2 true true l5 l6 l7 l8 u16 u17 u18 u19 u20 (.tuple #[ledV q n3, .int .i64 cd]) u22 u23 pm m q n3 (ledL q n3) y := by
  have eT := h.t4 rfl
  subst eT
  have st : Star (ledL q n3) y := hp.get (i := 0) rfl
  exact { h with
    rp := h.rp.new (i := 3) rfl hp.below st (fun c hc => by
      rcases hp.hi c (by simpa using hc) with q | q
      · cases q
      · exact q)
    t4 := fun q => (by cases q)
    q21 := fun _ => ⟨rfl, hk, hs, cd, rfl⟩
    q16 := fun q => (by cases h.d5 q), q22 := fun q => (by cases h.d5 (h.d6 q)), m8 := fun q => (by cases (h.d8 q).2.2.1), d4 := fun _ => rfl, d5 := fun q => (by cases h.d5 q), d8 := fun q => (by cases (h.d8 q).2.2.1) }
theorem LlF.s8 {B : Nat} {w : World} {p : LP} {D : Led} {N : Nat} {l7 : Bool} {u16 u17 u18 u19 u20 u21 u22 u23 : Value} {x : World} {pm : LP} {m : Led} {p2 : LP} {n2 : Led} {T : List Rs} (h : LlF B w p D N true true true true true true true l7 false u16 u17 u18 u19 u20 u21 u22 u23 pm m p2 n2 T x) : LlF B w p D N true true true true true true true l7 true u16 u17 u18 u19 u20 u21 u22 u23 p2 n2 p2 n2 T (((x.setCell ⟨N, 0, none⟩ (.slice p2.aa n2.acc.length p2.ca)).setCell ⟨N, 1, none⟩ (.slice p2.ha n2.hold.length p2.ch)).setCell ⟨N, 2, none⟩ (.slice p2.sa n2.seen.length p2.cs)) :=
  { h with rp := h.rp.set3 (i := 1) rfl _ _ _, m0 := fun q => (by cases q), m8 := fun _ => ⟨rfl, rfl⟩, d8 := fun _ => ⟨rfl, rfl, rfl, rfl, rfl⟩ }
theorem acc_cell3 {x : World} {a : Option Addr} {cap ga : Nat} {l : List Acc} (o : OwnRow 4 accCells x (gOf a) a cap l) (h0 : 0 < l.length) (ea : a = some ⟨ga, 0, none⟩) : x.cell? ⟨ga, 3, none⟩ = some (.int .i64 (l[0]).posted) ∧ x.frozen? ⟨ga, 3, none⟩ = false := by
  obtain ⟨b, off, e, _, hc⟩ := o.rows 0 h0
  have f := (o.own h0).2 3
  rw [ea] at e f
  simp only [Option.some.injEq, Addr.mk.injEq, and_true] at e
  obtain ⟨rfl, rfl⟩ := e
  have := hc 3 _ rfl
  exact ⟨by simpa using this, by simpa [gOf] using f⟩
theorem led_post {D : Led} (h : LedF D) (hp : 0 < D.acc.length) {v : Int} (hv : I64 v) : LedF ⟨setP D.acc 0 (v - (D.acc[0]'hp).posted), D.hold, D.seen⟩ ∧ (setP D.acc 0 (v - (D.acc[0]'hp).posted)).length = D.acc.length := by
  refine ⟨⟨⟨fun x hx => ?_, h.w.hold, h.w.seen⟩, by rw [setP_len]; exact h.a, h.h, h.s⟩, setP_len _ _ _⟩
  rw [setP_at hp] at hx
  rcases List.mem_or_eq_of_mem_set hx with q | rfl
  · exact h.w.acc x q
  · have q := h.w.acc _ (List.getElem_mem hp)
    exact ⟨q.1, q.2.1, q.2.2.1, by simpa [postA, show (D.acc[0]'hp).posted + (v - (D.acc[0]'hp).posted) = v by omega] using hv⟩
structure L9F (B : Nat) (w : World) (p : LP) (D : Led) (N : Nat) (ga : Nat) (l0 l1 l2 l3 l4 l5 l6 : Bool) (u32 u33 u34 u35 u36 u37 : Value) (m : List Acc) (x : World) : Prop where
  rp : RP B w [[blk w.heap.size [.slice none 0 0, .slice none 0 0, .slice none 0 0]], [blk N (ledC p D)], [orow 4 accCells p.aa p.ca m], [orow 4 hldCells p.ha p.ch D.hold], [orow 2 snCells p.sa p.cs D.seen], []] x
  m0 : l6 = false → m = D.acc
  m6 : LedF ⟨m, D.hold, D.seen⟩ ∧ m.length = D.acc.length
  q35 : l3 = true → ∃ v : Int, I64 v ∧ u35 = .int .i64 v
  p32 : l0 = true → u32 = .pointer (some ⟨N, 0, none⟩)
  p33 : l1 = true → u33 = .slice p.aa D.acc.length p.ca
  p34 : l2 = true → u34 = .pointer (some ⟨B, 0, none⟩)
  p36 : l4 = true → u36 = .pointer (some ⟨ga, 0, none⟩)
  p37 : l5 = true → u37 = .pointer (some ⟨ga, 3, none⟩)
theorem L9F.c3 {B : Nat} {w : World} {p : LP} {D : Led} {N : Nat} {ga : Nat} {l0 l1 l4 l5 l6 : Bool} {u32 u33 u34 u35 u36 u37 : Value} {x : World} {m : List Acc} {v : Int} {y : World} (h : L9F B w p D N ga l0 l1 true false l4 l5 l6 u32 u33 u34 u35 u36 u37 m x) (hr : Rd B y) (ha : Aprt B x y) (hv : I64 v) : L9F B w p D N ga l0 l1 true true l4 l5 l6 u32 u33 u34 (.int .i64 v) u36 u37 m y := { h with rp := h.rp.read hr ha, q35 := fun _ => ⟨v, hv, rfl⟩ }
theorem L9F.s6 {B : Nat} {w : World} {p : LP} {D : Led} {N : Nat} {ga : Nat} {l4 : Bool} {u32 u33 u34 u35 u36 u37 : Value} {x : World} {m : List Acc} {v : Int} (h : L9F B w p D N ga true true true true l4 true false u32 u33 u34 u35 u36 u37 m x) (ea : p.aa = some ⟨ga, 0, none⟩) (hp : 0 < D.acc.length) (hv : I64 v) : L9F B w p D N ga true true true true l4 true true u32 u33 u34 u35 u36 u37 (setP D.acc 0 (v - (D.acc[0]'hp).posted)) (x.setCell ⟨ga, 3, none⟩ (.int .i64 v)) := by
  have em := h.m0 rfl
  subst em
  refine { h with rp := ?_, m0 := fun q => (by cases q), m6 := led_post h.m6.1 hp hv }
  have q := h.rp.setPost (k := 2) rfl hp (v - (D.acc[0]'hp).posted)
  rw [show (D.acc[0]'hp).posted + (v - (D.acc[0]'hp).posted) = v by omega, show gOf p.aa = ga by rw [ea]; rfl] at q
  exact q
theorem sn_one1 (x : Sn) : ∀ u ∈ snCells x, u.oneCell' = true := fun u hu => by
  simp only [snCells, List.mem_cons, List.not_mem_nil, or_false] at hu
  rcases hu with rfl | rfl <;> rfl
theorem led_seen {D : Led} (h : LedF D) (hb : D.seen.length ≤ 100) {y : Sn} (hy : SnW y) : LedF ⟨D.acc, D.hold, D.seen ++ [y]⟩ :=
  ⟨⟨h.w.acc, h.w.hold, fun x hx => by
    rcases List.mem_append.1 hx with q | q
    · exact h.w.seen x q
    · rw [List.mem_singleton.1 q]; exact hy⟩, h.a, h.h, by simp only [List.length_append, List.length_cons, List.length_nil]; omega⟩
structure LeF (B : Nat) (w : World) (p : LP) (D : Led) (N : Nat) (l0 l1 l2 l3 l4 l5 l6 l7 l8 l9 l10 : Bool) (u40 u41 u42 u43 u44 u45 u46 u47 u48 u49 : Value) (sv : Value) (az : Option Addr) (kz : Nat) (lz : List Sn) (T : List Rs) (x : World) : Prop where
  rp : RP B w [[blk w.heap.size [.slice none 0 0, .slice none 0 0, .slice none 0 0]], [blk N [.slice p.aa D.acc.length p.ca, .slice p.ha D.hold.length p.ch, sv]], [orow 4 accCells p.aa p.ca D.acc], [orow 4 hldCells p.ha p.ch D.hold], [orow 2 snCells az kz lz], T] x
  m8 : l8 = false → az = p.sa ∧ kz = p.cs ∧ lz = D.seen
  s0 : l10 = false → sv = .slice p.sa D.seen.length p.cs
  t7 : l7 = false → T = []
  q48 : l8 = true → u48 = .slice az lz.length kz ∧ SlOk az kz lz.length ∧ ∃ y : Sn, SnW y ∧ lz = D.seen ++ [y]
  s1 : l10 = true → sv = .slice az lz.length kz
  q47 : l7 = true → ∃ (M : Nat) (y : Sn), SnW y ∧ T = [blk M (snCells y)] ∧ u47 = .slice (some ⟨M, 0, none⟩) 1 1
  q46 : l6 = true → ∃ y : Sn, SnW y ∧ u46 = .agg #[.int .i64 (y).id, .int .i64 (y).code]
  q43 : l3 = true → ∃ v : Int, I64 v ∧ u43 = .int .i64 v
  q45 : l5 = true → ∃ v : Int, I64 v ∧ u45 = .int .i64 v
  dst : l10 = true → l1 = true ∧ l8 = true
  dap : l8 = true → l7 = true
  dbs : l7 = true → l6 = true
  dbd : l6 = true → l3 = true ∧ l5 = true
  p40 : l0 = true → u40 = .pointer (some ⟨N, 2, none⟩)
  p41 : l1 = true → u41 = .slice p.sa D.seen.length p.cs
  p42 : l2 = true → u42 = .pointer (some ⟨B, 0, none⟩)
  p44 : l4 = true → u44 = .pointer (some ⟨B, 0, none⟩)
  p49 : l9 = true → u49 = .pointer (some ⟨N, 2, none⟩)
theorem LeF.c3 {B : Nat} {w : World} {p : LP} {D : Led} {N : Nat} {l0 l1 l4 l5 l6 l7 l8 l9 l10 : Bool} {u40 u41 u42 u43 u44 u45 u46 u47 u48 u49 : Value} {x : World} {sv : Value} {az : Option Addr} {kz : Nat} {lz : List Sn} {T : List Rs} {v : Int} {y : World} (h : LeF B w p D N l0 l1 true false l4 l5 l6 l7 l8 l9 l10 u40 u41 u42 u43 u44 u45 u46 u47 u48 u49 sv az kz lz T x) (hr : Rd B y) (ha : Aprt B x y) (hv : I64 v) : LeF B w p D N l0 l1 true true l4 l5 l6 l7 l8 l9 l10 u40 u41 u42 (.int .i64 v) u44 u45 u46 u47 u48 u49 sv az kz lz T y := { h with rp := h.rp.read hr ha, q43 := fun _ => ⟨v, hv, rfl⟩, dbd := fun q => (by cases (h.dbd q).1) }
theorem LeF.c5 {B : Nat} {w : World} {p : LP} {D : Led} {N : Nat} {l0 l1 l2 l6 l7 l8 l9 l10 : Bool} {u40 u41 u42 u43 u44 u45 u46 u47 u48 u49 : Value} {x : World} {sv : Value} {az : Option Addr} {kz : Nat} {lz : List Sn} {T : List Rs} {v : Int} {y : World} (h : LeF B w p D N l0 l1 l2 true true false l6 l7 l8 l9 l10 u40 u41 u42 u43 u44 u45 u46 u47 u48 u49 sv az kz lz T x) (hr : Rd B y) (ha : Aprt B x y) (hv : I64 v) : LeF B w p D N l0 l1 l2 true true true l6 l7 l8 l9 l10 u40 u41 u42 u43 u44 (.int .i64 v) u46 u47 u48 u49 sv az kz lz T y := { h with rp := h.rp.read hr ha, q45 := fun _ => ⟨v, hv, rfl⟩, dbd := fun q => (by cases (h.dbd q).2) }
theorem LeF.s7 {B : Nat} {w : World} {p : LP} {D : Led} {N : Nat} {l0 l1 l2 l3 l4 l5 l8 l9 l10 : Bool} {u40 u41 u42 u43 u44 u45 u46 u47 u48 u49 : Value} {x : World} {sv : Value} {az : Option Addr} {kz : Nat} {lz : List Sn} {T : List Rs} {y : Sn} (h : LeF B w p D N l0 l1 l2 l3 l4 l5 true false l8 l9 l10 u40 u41 u42 u43 u44 u45 u46 u47 u48 u49 sv az kz lz T x) (hy : SnW y) : LeF B w p D N l0 l1 l2 l3 l4 l5 true true l8 l9 l10 u40 u41 u42 u43 u44 u45 u46 (.slice (some ⟨x.heap.size, 0, none⟩) 1 1) u48 u49 sv az kz lz [blk x.heap.size (snCells y)] (x.alloc (.cells #[.int .i64 (y).id, .int .i64 (y).code] 55)) := by
  have eT := h.t7 rfl
  subst eT
  exact { h with rp := h.rp.newBlk (i := 5) rfl (snCells y) 55, t7 := fun q => (by cases q), q47 := fun _ => ⟨_, y, hy, rfl, rfl⟩, dap := fun q => (by cases h.dap q), dbs := fun _ => rfl }
theorem led_hold {D : Led} (h : LedF D) (hb : D.hold.length ≤ 100) {y : Hld} (hy : HldW y) : LedF ⟨D.acc, D.hold ++ [y], D.seen⟩ :=
  ⟨⟨h.w.acc, fun x hx => by
    rcases List.mem_append.1 hx with q | q
    · exact h.w.hold x q
    · rw [List.mem_singleton.1 q]; exact hy, h.w.seen⟩, h.a, by simp only [List.length_append, List.length_cons, List.length_nil]; omega, h.s⟩
structure LhF (B : Nat) (w : World) (p : LP) (D : Led) (N : Nat) (l0 l1 l2 l3 l4 l5 l6 l7 l8 : Bool) (u52 u53 u54 u55 u56 u57 u58 u59 : Value) (sv : Value) (az : Option Addr) (kz : Nat) (lz : List Hld) (T : List Rs) (x : World) : Prop where
  rp : RP B w [[blk w.heap.size [.slice none 0 0, .slice none 0 0, .slice none 0 0]], [blk N [.slice p.aa D.acc.length p.ca, sv, .slice p.sa D.seen.length p.cs]], [orow 4 accCells p.aa p.ca D.acc], [orow 4 hldCells az kz lz], [orow 2 snCells p.sa p.cs D.seen], T] x
  m8 : l6 = false → az = p.ha ∧ kz = p.ch ∧ lz = D.hold
  s0 : l8 = false → sv = .slice p.ha D.hold.length p.ch
  t7 : l5 = false → T = []
  q48 : l6 = true → u58 = .slice az lz.length kz ∧ SlOk az kz lz.length ∧ ∃ y : Hld, HldW y ∧ lz = D.hold ++ [y]
  s1 : l8 = true → sv = .slice az lz.length kz
  q47 : l5 = true → ∃ (M : Nat) (y : Hld), HldW y ∧ T = [blk M (hldCells y)] ∧ u57 = .slice (some ⟨M, 0, none⟩) 1 1
  q46 : l4 = true → ∃ y : Hld, HldW y ∧ u56 = .agg #[.int .i64 (y).id, .string (y).fr, .string (y).to, .int .i64 (y).amount]
  q55 : l3 = true → ∃ v : Int, I64 v ∧ u55 = .int .i64 v
  dst : l8 = true → l1 = true ∧ l6 = true
  dap : l6 = true → l5 = true
  dbs : l5 = true → l4 = true
  dbd : l4 = true → l3 = true ∧ l3 = true
  p52 : l0 = true → u52 = .pointer (some ⟨N, 1, none⟩)
  p53 : l1 = true → u53 = .slice p.ha D.hold.length p.ch
  p54 : l2 = true → u54 = .pointer (some ⟨B, 0, none⟩)
  p59 : l7 = true → u59 = .pointer (some ⟨N, 1, none⟩)
theorem LhF.c3 {B : Nat} {w : World} {p : LP} {D : Led} {N : Nat} {l0 l1 l4 l5 l6 l7 l8 : Bool} {u52 u53 u54 u55 u56 u57 u58 u59 : Value} {x : World} {sv : Value} {az : Option Addr} {kz : Nat} {lz : List Hld} {T : List Rs} {v : Int} {y : World} (h : LhF B w p D N l0 l1 true false l4 l5 l6 l7 l8 u52 u53 u54 u55 u56 u57 u58 u59 sv az kz lz T x) (hr : Rd B y) (ha : Aprt B x y) (hv : I64 v) : LhF B w p D N l0 l1 true true l4 l5 l6 l7 l8 u52 u53 u54 (.int .i64 v) u56 u57 u58 u59 sv az kz lz T y := { h with rp := h.rp.read hr ha, q55 := fun _ => ⟨v, hv, rfl⟩, dbd := fun q => (by cases (h.dbd q).1) }
theorem LhF.s7 {B : Nat} {w : World} {p : LP} {D : Led} {N : Nat} {l0 l1 l2 l3 l6 l7 l8 : Bool} {u52 u53 u54 u55 u56 u57 u58 u59 : Value} {x : World} {sv : Value} {az : Option Addr} {kz : Nat} {lz : List Hld} {T : List Rs} {y : Hld} (h : LhF B w p D N l0 l1 l2 l3 true false l6 l7 l8 u52 u53 u54 u55 u56 u57 u58 u59 sv az kz lz T x) (hy : HldW y) : LhF B w p D N l0 l1 l2 l3 true true l6 l7 l8 u52 u53 u54 u55 u56 (.slice (some ⟨x.heap.size, 0, none⟩) 1 1) u58 u59 sv az kz lz [blk x.heap.size (hldCells y)] (x.alloc (.cells #[.int .i64 (y).id, .string (y).fr, .string (y).to, .int .i64 (y).amount] 53)) := by
  have eT := h.t7 rfl
  subst eT
  exact { h with rp := h.rp.newBlk (i := 5) rfl (hldCells y) 53, t7 := fun q => (by cases q), q47 := fun _ => ⟨_, y, hy, rfl, rfl⟩, dap := fun q => (by cases h.dap q), dbs := fun _ => rfl }
set_option maxHeartbeats 4000000 in
theorem dledger_any (B : Nat) (most : Int) (w : World) (h : Rd B w) (m0 : 0 ≤ most) (m1 : most ≤ 1000) : Calls Tryz.prog 18 #[.pointer (some ⟨B, 0, none⟩), .int .i64 most] w fun e w' => LedgerEnd B w e w' := by
  have hB := h.lt
  obtain ⟨W2, hW2⟩ : ∃ W2, W2 = (w.alloc (.cells #[.slice none 0 0, .slice none 0 0, .slice none 0 0] 28)).alloc (.cells #[.slice none 0 0, .slice none 0 0, .slice none 0 0] 28) := ⟨_, rfl⟩
  have HA2 : Hid (RP B w [[blk w.heap.size [.slice none 0 0, .slice none 0 0, .slice none 0 0]], [blk (w.heap.size + 1) (ledC lp0 ⟨[], [], []⟩)], ledL lp0 ⟨[], [], []⟩, []] W2) := hide (by
    have p1 := (RP.start h [[], [], [], []] rfl).newBlk (i := 0) rfl [.slice none 0 0, .slice none 0 0, .slice none 0 0] 28
    have s1 : (w.alloc (.cells ([.slice none 0 0, .slice none 0 0, .slice none 0 0] : List Value).toArray 28)).heap.size = w.heap.size + 1 := by simp
    have p2 := p1.newBlk (i := 1) rfl [.slice none 0 0, .slice none 0 0, .slice none 0 0] 28
    rw [s1] at p2
    rw [hW2]
    exact p2.new (i := 2) rfl (Below.refl _ _) (led0_star _).1 (fun c hc => by rw [led0_star (w.alloc (.cells ([.slice none 0 0, .slice none 0 0, .slice none 0 0] : List Value).toArray 28)) |>.2] at hc; cases hc))
  have HW2 : Hid (_ = W2) := hide hW2.symm
  clear h hW2
  go_enter Tryz.func18, Tryz.ntmps18
  go_wp2_with fail
  rw [HW2.out]
  refine (below_any B (most + 1) _ HA2.out.rd (by omega)).mono ?_
  rintro e w3 ⟨⟨q, q0, _, q1, rfl⟩, hr3, ha3⟩
  have HA3 : Hid _ := hide (HA2.out.read hr3 ha3)
  clear hr3 ha3 HA2
  obtain ⟨N, hN⟩ : ∃ N, N = w.heap.size + 1 := ⟨_, rfl⟩
  rw [← hN] at HA3
  go_wp2_with fail
  rw [← hN]
  clear hN
  go_loopw [6] (fun i w' => ∃ (k : Nat) (p : LP) (D : Led), i = .int .i64 (k : Int) ∧ k ≤ 65535 ∧ PlOk p D ∧ ledS D = true ∧ RP B w [[blk w.heap.size [.slice none 0 0, .slice none 0 0, .slice none 0 0]], [blk N (ledC p D)], ledL p D, []] w') (fun i w' => (intOf i).toNat)
  case atStart => exact ⟨q.toNat, lp0, ⟨[], [], []⟩, by rw [Int.toNat_of_nonneg q0], by omega, led0_ok, led0_right, HA3.out⟩
  case round =>
    obtain ⟨k, p, D, rfl, hk, hpk, hs, hrp⟩ := hrel
    have HS : Hid (ledS D = true) := hide hs
    have HK : Hid (PlOk p D) := hide hpk
    have HP : Hid (RP B w [[blk w.heap.size [.slice none 0 0, .slice none 0 0, .slice none 0 0]], [blk N (ledC p D)], ledL p D, []] wr) := hide hrp
    clear hs hpk hrp HA3
    by_cases hk0 : 0 < k
    · have hk1 : (0 : Int) < (k : Int) := by omega
      go_upto_region 5 with fail
      rename_i K0 hK0
      refine wp_region_inv (by kernel_rfl) (fun L act x => ∃ l0 l1 l2 l3 l4 l5 l6 l7 l8 : Bool, ∃ u16 u17 u18 u19 u20 u21 u22 u23 : Value, ∃ pm : LP, ∃ m : Led, ∃ p2 : LP, ∃ n2 : Led, ∃ T : List Rs, L = #[l0, l1, l2, l3, l4, l5, l6, l7, l8] ∧ act = { tmps := #[Value.pointer (some { block := B, off := 0 }), Value.int IntKind.i64 most, undef, undef, Value.pointer (some { block := w.heap.size, off := 0 }), Value.pointer (some { block := N, off := 0 }), Value.int IntKind.i64 ↑k, Value.agg #[Value.slice none 0 0, Value.slice none 0 0, Value.slice none 0 0], Value.pointer (some { block := B, off := 0 }), Value.int IntKind.i64 most, Value.int IntKind.i64 (most + 1), Value.int IntKind.i64 q, Value.int IntKind.i64 ↑k, Value.bool true, u14, u15, u16, u17, u18, u19, u20, u21, u22, u23, undef, undef, undef, undef, undef, undef, undef, undef, undef, undef, undef, undef, undef, undef, undef, undef, undef, undef, undef, undef, undef, undef, undef, undef, undef, undef, undef, undef, undef, undef, undef, undef, undef, undef, undef, undef, undef], defers := [] } ∧ LlF B w p D N l0 l1 l2 l3 l4 l5 l6 l7 l8 u16 u17 u18 u19 u20 u21 u22 u23 pm m p2 n2 T x) ?_ ?_ ?_
      rotate_left 2
      · exact ⟨false, false, false, false, false, false, false, false, false, (u16), (u17), (u18), (u19), (u20), (u21), (u22), (u23), (p), (D), (p), (D), ([]), rfl, rfl, ⟨HP.out.drew, fun _ => ⟨rfl, rfl⟩, fun _ => rfl, fun q => (by cases q), fun q => (by cases q), fun q => (by cases q), fun q => (by cases q), fun q => (by cases q), fun q => (by cases q), fun q => (by cases q), fun q => (by cases q), fun q => (by cases q), fun q => (by cases q), fun q => (by cases q), fun q => (by cases q)⟩⟩
      · rintro L act x i ⟨l0, l1, l2, l3, l4, l5, l6, l7, l8, u16, u17, u18, u19, u20, u21, u22, u23, pm, m, p2, n2, T, rfl, rfl, h⟩ hi K hK
        have hi15 : i < 9 := by
          obtain ⟨_, o, ho, _⟩ := mem_ready.1 hi
          exact (Array.getElem?_eq_some_iff.1 ho).1
        have hl := (mem_ready.1 hi).1
        obtain rfl | rfl | rfl | rfl | rfl | rfl | rfl | rfl | rfl := (by omega : i = 0 ∨ i = 1 ∨ i = 2 ∨ i = 3 ∨ i = 4 ∨ i = 5 ∨ i = 6 ∨ i = 7 ∨ i = 8)
        · have e : l0 = false := hl
          subst e
          have em := h.m0 (by cases l8 with | false => rfl | true => exact absurd (h.d8 rfl).1 (by simp))
          have hb1 := h.rp.blkAt (i := 1) rfl
          rw [em.1, em.2] at hb1
          have c0 := hb1.c 0 _ rfl
          have c1 := hb1.c 1 _ rfl
          have c2 := hb1.c 2 _ rfl
          refine wpOp_run (v := .agg #[.slice p.aa D.acc.length p.ca, .slice p.ha D.hold.length p.ch, .slice p.sa D.seen.length p.cs]) (w' := x) (by rfl) (by rfl) ?_ (hK _ _ ⟨true, l1, l2, l3, l4, l5, l6, l7, l8, u16, (.agg #[.slice p.aa D.acc.length p.ca, .slice p.ha D.hold.length p.ch, .slice p.sa D.seen.length p.cs]), u18, u19, u20, u21, u22, u23, (pm), (m), (p2), (n2), (T), rfl, rfl, { h with p17 := fun _ => rfl, d8 := fun q => (by cases (h.d8 q).1) }⟩)
          go_simp
        · have e : l1 = false := hl
          subst e
          refine wpOp_run (v := .pointer (some ⟨B, 0, none⟩)) (w' := x) (by rfl) (by rfl) ?_ (hK _ _ ⟨l0, true, l2, l3, l4, l5, l6, l7, l8, u16, u17, (.pointer (some ⟨B, 0, none⟩)), u19, u20, u21, u22, u23, (pm), (m), (p2), (n2), (T), rfl, rfl, { h with p18 := fun _ => rfl }⟩)
          go_simp
        · have e : l2 = false := hl
          subst e
          have em := h.m0 (by cases l8 with | false => rfl | true => exact absurd (h.d8 rfl).2.1 (by simp))
          have hb1 := h.rp.blkAt (i := 1) rfl
          rw [em.1, em.2] at hb1
          have c0 := hb1.c 0 _ rfl
          have c1 := hb1.c 1 _ rfl
          have c2 := hb1.c 2 _ rfl
          refine wpOp_run (v := .agg #[.slice p.aa D.acc.length p.ca, .slice p.ha D.hold.length p.ch, .slice p.sa D.seen.length p.cs]) (w' := x) (by rfl) (by rfl) ?_ (hK _ _ ⟨l0, l1, true, l3, l4, l5, l6, l7, l8, u16, u17, u18, (.agg #[.slice p.aa D.acc.length p.ca, .slice p.ha D.hold.length p.ch, .slice p.sa D.seen.length p.cs]), u20, u21, u22, u23, (pm), (m), (p2), (n2), (T), rfl, rfl, { h with p19 := fun _ => rfl, d8 := fun q => (by cases (h.d8 q).2.1) }⟩)
          go_simp
        · have e : l3 = false := hl
          subst e
          have d1 : l1 = true := ready_on hi 1 (by kernel_rfl)
          subst d1
          have d2 : l2 = true := ready_on hi 2 (by kernel_rfl)
          subst d2
          refine wpOp_call (by rfl) (by rfl) ?_ (command_any B p D x h.rp.rd (by have := (led_f HS.out).a; omega) (by have := (led_f HS.out).h; omega) (fun y ha => h.row ha)) ?_
          · rw [h.p18 rfl, h.p19 rfl]; unfold ledV; go_simp
          · rintro e w' ⟨⟨c, hf, ht, rfl⟩, hr, ha⟩
            exact ⟨_, rfl, hK _ _ ⟨l0, true, true, true, l4, l5, l6, l7, l8, u16, u17, u18, u19, (c.v), u21, u22, u23, (pm), (m), (p2), (n2), (T), rfl, rfl, h.c3 hf ht hr ha⟩⟩
        · have e : l4 = false := hl
          subst e
          have d0 : l0 = true := ready_on hi 0 (by kernel_rfl)
          subst d0
          have d3 : l3 = true := ready_on hi 3 (by kernel_rfl)
          subst d3
          obtain ⟨c, hcf, hct, ec⟩ := h.q20 rfl
          refine wpOp_call (by rfl) (by rfl) ?_ (specApplied_any p D c x (by have := (led_f HS.out).a; omega) (by have := (led_f HS.out).h; omega) (by have := (led_f HS.out).s; omega) (Nat.le_trans hcf (by decide)) (Nat.le_trans hct (by decide)) HK.out (PlOk.led (led_f HS.out).w h.star)) ?_
          · rw [h.p17 rfl]; rw [ec]; unfold ledV Cm.v; go_simp
          · rintro e w' ⟨q, rfl, hk2, hp⟩
            exact ⟨_, rfl, hK _ _ ⟨true, l1, l2, true, true, l5, l6, l7, l8, u16, u17, u18, u19, u20, (.tuple #[ledV q (applM D c).1, .int .i64 (applM D c).2]), u22, u23, (pm), (m), (q), ((applM D c).1), ((ledL q (applM D c).1)), rfl, rfl, h.c4 hk2 (rt_appl HS.out) hp⟩⟩
        · have e : l5 = false := hl
          subst e
          have d4 : l4 = true := ready_on hi 4 (by kernel_rfl)
          subst d4
          refine wpOp_run (v := u21) (w' := x) (by rfl) (by rfl) ?_ (hK _ _ ⟨l0, l1, l2, l3, true, true, l6, l7, l8, (u21), u17, u18, u19, u20, u21, u22, u23, (pm), (m), (p2), (n2), (T), rfl, rfl, { h with q16 := fun _ => rfl, d5 := fun _ => rfl, d6 := fun q => (by cases h.d6 q), d8 := fun q => (by cases (h.d8 q).2.2.2.1) }⟩)
          go_simp
        · have e : l6 = false := hl
          subst e
          have d5 : l5 = true := ready_on hi 5 (by kernel_rfl)
          subst d5
          obtain ⟨_, _, _, td, e21⟩ := h.q21 (h.d5 rfl)
          refine wpOp_run (v := ledV p2 n2) (w' := x) (by rfl) (by rfl) ?_ (hK _ _ ⟨l0, l1, l2, l3, l4, true, true, l7, l8, u16, u17, u18, u19, u20, u21, (ledV p2 n2), u23, (pm), (m), (p2), (n2), (T), rfl, rfl, { h with q22 := fun _ => rfl, d6 := fun _ => rfl, d8 := fun q => (by cases (h.d8 q).2.2.2.2) }⟩)
          rw [h.q16 rfl, e21]
          unfold ledV
          go_simp
        · have e : l7 = false := hl
          subst e
          have d5 : l5 = true := ready_on hi 5 (by kernel_rfl)
          subst d5
          obtain ⟨_, _, _, td, e21⟩ := h.q21 (h.d5 rfl)
          refine wpOp_run (v := .int .i64 td) (w' := x) (by rfl) (by rfl) ?_ (hK _ _ ⟨l0, l1, l2, l3, l4, true, l6, true, l8, u16, u17, u18, u19, u20, u21, u22, (.int .i64 td), (pm), (m), (p2), (n2), (T), rfl, rfl, { h with }⟩)
          rw [h.q16 rfl, e21]
          go_simp
        · have e : l8 = false := hl
          subst e
          have d0 : l0 = true := ready_on hi 0 (by kernel_rfl)
          subst d0
          have d1 : l1 = true := ready_on hi 1 (by kernel_rfl)
          subst d1
          have d2 : l2 = true := ready_on hi 2 (by kernel_rfl)
          subst d2
          have d3 : l3 = true := ready_on hi 3 (by kernel_rfl)
          subst d3
          have d4 : l4 = true := ready_on hi 4 (by kernel_rfl)
          subst d4
          have d5 : l5 = true := ready_on hi 5 (by kernel_rfl)
          subst d5
          have d6 : l6 = true := ready_on hi 6 (by kernel_rfl)
          subst d6
          refine wpOp_skip (w' := (((x.setCell ⟨N, 0, none⟩ (.slice p2.aa n2.acc.length p2.ca)).setCell ⟨N, 1, none⟩ (.slice p2.ha n2.hold.length p2.ch)).setCell ⟨N, 2, none⟩ (.slice p2.sa n2.seen.length p2.cs))) (by rfl) (by rfl) ?_ (hK _ _ ⟨true, true, true, true, true, true, true, l7, true, u16, u17, u18, u19, u20, u21, u22, u23, (p2), (n2), (p2), (n2), (T), rfl, rfl, h.s8⟩)
          rw [h.q22 rfl]
          unfold ledV
          have c0 := (h.rp.blkAt (i := 1) rfl).c 0 _ rfl
          have z0 := (h.rp.blkAt (i := 1) rfl).f 0
          have c1 := (h.rp.blkAt (i := 1) rfl).c 1 _ rfl
          have z1 := (h.rp.blkAt (i := 1) rfl).f 1
          have c2 := (h.rp.blkAt (i := 1) rfl).c 2 _ rfl
          have z2 := (h.rp.blkAt (i := 1) rfl).f 2
          go_simp
      · rintro L act x ⟨l0, l1, l2, l3, l4, l5, l6, l7, l8, u16, u17, u18, u19, u20, u21, u22, u23, pm, m, p2, n2, T, rfl, rfl, h⟩ hr
        have hall := ready_all hr rfl (by decide)
        have t0 : l0 = true := hall 0 (by decide)
        have t1 : l1 = true := hall 1 (by decide)
        have t2 : l2 = true := hall 2 (by decide)
        have t3 : l3 = true := hall 3 (by decide)
        have t4 : l4 = true := hall 4 (by decide)
        have t5 : l5 = true := hall 5 (by decide)
        have t6 : l6 = true := hall 6 (by decide)
        have t7 : l7 = true := hall 7 (by decide)
        have t8 : l8 = true := hall 8 (by decide)
        subst t0 t1 t2 t3 t4 t5 t6 t7 t8
        clear hall hr
        have e21 := h.q21 rfl
        obtain ⟨em1, em2⟩ := h.m8 rfl
        subst em1 em2
        obtain ⟨eT, hk2, hs2, _⟩ := e21
        subst eT
        have HP9 : Hid (RP B w [[blk w.heap.size [.slice none 0 0, .slice none 0 0, .slice none 0 0]], [blk N (ledC pm m)], ledL pm m, []] x) := hide ((h.rp.step (i := 2) rfl (Fr.refl _ _) (rs' := []) (Star.nil _) (fun b hb => by simp [fps] at hb)).cast (by simp))
        have HS9 : Hid (ledS m = true) := hide hs2
        have HK9 : Hid (PlOk pm m) := hide hk2
        clear h hs2 hk2
        refine hK0 _ _ ?_
        go_wp2_with fail
        exact ⟨⟨k - 1, pm, m, by rw [Int.natCast_sub (by omega)]; rfl, by omega, HK9.out, HS9.out, HP9.out⟩, by simp [intOf]; omega⟩
    · have hk1 : ¬ (0 : Int) < (k : Int) := by omega
      go_wp2_with fail
      refine (below_any B 40 _ HP.out.rd (by omega)).mono ?_
      rintro e w5 ⟨⟨g, g0, _, g1, rfl⟩, hr5, ha5⟩
      have H5 : Hid (RP B w [[blk w.heap.size [.slice none 0 0, .slice none 0 0, .slice none 0 0]], [blk N (ledC p D)], ledL p D, []] w5) := hide (HP.out.read hr5 ha5)
      have HF : Hid (LedF D) := hide (led_f HS.out)
      have HB : Hid (D.acc.length ≤ 100 ∧ D.hold.length ≤ 100 ∧ D.seen.length ≤ 100) := hide (by have r := rt_of HS.out; have := r.na; have := r.nh; have := r.ns; omega)
      clear hr5 ha5 HP HS
      go_upto_block 2 with fail
      go_cut [] from 26 to 61 (fun wx => Hid (∃ (p : LP) (D : Led), PlOk p D ∧ LedF D ∧ RP B w [[blk w.heap.size [.slice none 0 0, .slice none 0 0, .slice none 0 0]], [blk N (ledC p D)], ledL p D, []] wx))
      case first =>
        have H6 : Hid (RP B w [[blk w.heap.size [.slice none 0 0, .slice none 0 0, .slice none 0 0]], [blk N (ledC p D)], [orow 4 accCells p.aa p.ca D.acc], [orow 4 hldCells p.ha p.ch D.hold], [orow 2 snCells p.sa p.cs D.seen], []] w5) := hide (H5.out.cast (by simp [ledL]))
        clear H5
        have c0 := (H6.out.blkAt (i := 1) rfl).c 0 _ rfl
        by_cases g39 : g = 39
        · subst g39
          by_cases hp : 0 < D.acc.length
          · have hp' : (0 : Int) < (D.acc.length : Int) := by omega
            go_upto_region 9 with fail
            obtain ⟨ga, ea⟩ : ∃ ga, p.aa = some ⟨ga, 0, none⟩ := by
              rcases H6.out.p.shpAt (i := 3) rfl with ⟨_, _, z⟩ | ⟨g, cur, T, e, _⟩
              · omega
              · exact ⟨g, e⟩
            refine wp_region_inv (by kernel_rfl) (fun L act x => ∃ l0 l1 l2 l3 l4 l5 l6 : Bool, ∃ u32 u33 u34 u35 u36 u37 : Value, ∃ m : List Acc, L = #[l0, l1, l2, l3, l4, l5, l6] ∧ act = { tmps := #[Value.pointer (some { block := B, off := 0 }), Value.int IntKind.i64 most, undef, undef, Value.pointer (some { block := w.heap.size, off := 0 }), Value.pointer (some { block := N, off := 0 }), Value.int IntKind.i64 ↑k, Value.agg #[Value.slice none 0 0, Value.slice none 0 0, Value.slice none 0 0], Value.pointer (some { block := B, off := 0 }), Value.int IntKind.i64 most, Value.int IntKind.i64 (most + 1), Value.int IntKind.i64 q, Value.int IntKind.i64 ↑k, Value.bool false, u14, u15, u16, u17, u18, u19, u20, u21, u22, u23, Value.pointer (some { block := B, off := 0 }), Value.int IntKind.i64 39, Value.bool true, Value.bool true, Value.pointer (some { block := N, off := 0 }), Value.slice p.aa D.acc.length p.ca, Value.int IntKind.i64 ↑D.acc.length, Value.bool true, u32, u33, u34, u35, u36, u37, undef, undef, undef, undef, undef, undef, undef, undef, undef, undef, undef, undef, undef, undef, undef, undef, undef, undef, undef, undef, undef, undef, undef], defers := [] } ∧ L9F B w p D N ga l0 l1 l2 l3 l4 l5 l6 u32 u33 u34 u35 u36 u37 m x) ?_ ?_ ?_
            rotate_left 2
            · exact ⟨false, false, false, false, false, false, false, (undef), (undef), (undef), (undef), (undef), (undef), (D.acc), rfl, rfl, ⟨H6.out.drew, fun _ => rfl, ⟨HF.out, rfl⟩, fun q => (by cases q), fun q => (by cases q), fun q => (by cases q), fun q => (by cases q), fun q => (by cases q), fun q => (by cases q)⟩⟩
            · rintro L act x i ⟨l0, l1, l2, l3, l4, l5, l6, u32, u33, u34, u35, u36, u37, m, rfl, rfl, h⟩ hi K hK
              have hi15 : i < 7 := by
                obtain ⟨_, o, ho, _⟩ := mem_ready.1 hi
                exact (Array.getElem?_eq_some_iff.1 ho).1
              have hl := (mem_ready.1 hi).1
              obtain rfl | rfl | rfl | rfl | rfl | rfl | rfl := (by omega : i = 0 ∨ i = 1 ∨ i = 2 ∨ i = 3 ∨ i = 4 ∨ i = 5 ∨ i = 6)
              · have e : l0 = false := hl
                subst e
                refine wpOp_run (v := .pointer (some ⟨N, 0, none⟩)) (w' := x) (by rfl) (by rfl) ?_ (hK _ _ ⟨true, l1, l2, l3, l4, l5, l6, (.pointer (some ⟨N, 0, none⟩)), u33, u34, u35, u36, u37, (m), rfl, rfl, { h with p32 := fun _ => rfl }⟩)
                go_simp
              · have e : l1 = false := hl
                subst e
                have d0 : l0 = true := ready_on hi 0 (by kernel_rfl)
                subst d0
                have c0 := (h.rp.blkAt (i := 1) rfl).c 0 _ rfl
                refine wpOp_run (v := .slice p.aa D.acc.length p.ca) (w' := x) (by rfl) (by rfl) ?_ (hK _ _ ⟨true, true, l2, l3, l4, l5, l6, u32, (.slice p.aa D.acc.length p.ca), u34, u35, u36, u37, (m), rfl, rfl, { h with p33 := fun _ => rfl }⟩)
                rw [h.p32 rfl]
                go_simp
              · have e : l2 = false := hl
                subst e
                refine wpOp_run (v := .pointer (some ⟨B, 0, none⟩)) (w' := x) (by rfl) (by rfl) ?_ (hK _ _ ⟨l0, l1, true, l3, l4, l5, l6, u32, u33, (.pointer (some ⟨B, 0, none⟩)), u35, u36, u37, (m), rfl, rfl, { h with p34 := fun _ => rfl }⟩)
                go_simp
              · have e : l3 = false := hl
                subst e
                have d2 : l2 = true := ready_on hi 2 (by kernel_rfl)
                subst d2
                refine wpOp_call (by rfl) (by rfl) ?_ (off_any B 0 50 x h.rp.rd (by omega) (by omega) (by omega)) ?_
                · rw [h.p34 rfl]; go_simp
                · rintro e w' ⟨⟨v, v0, v1, rfl⟩, hr, ha⟩
                  exact ⟨_, rfl, hK _ _ ⟨l0, l1, true, true, l4, l5, l6, u32, u33, u34, (.int .i64 v), u36, u37, (m), rfl, rfl, h.c3 hr ha ⟨v0, v1⟩⟩⟩
              · have e : l4 = false := hl
                subst e
                have d0 : l0 = true := ready_on hi 0 (by kernel_rfl)
                subst d0
                have d1 : l1 = true := ready_on hi 1 (by kernel_rfl)
                subst d1
                have d2 : l2 = true := ready_on hi 2 (by kernel_rfl)
                subst d2
                have d3 : l3 = true := ready_on hi 3 (by kernel_rfl)
                subst d3
                refine wpOp_run (v := .pointer (some ⟨ga, 0, none⟩)) (w' := x) (by rfl) (by rfl) ?_ (hK _ _ ⟨true, true, true, true, true, l5, l6, u32, u33, u34, u35, (.pointer (some ⟨ga, 0, none⟩)), u37, (m), rfl, rfl, { h with p36 := fun _ => rfl }⟩)
                rw [h.p33 rfl]
                rw [ea]
                go_simp
              · have e : l5 = false := hl
                subst e
                have d0 : l0 = true := ready_on hi 0 (by kernel_rfl)
                subst d0
                have d1 : l1 = true := ready_on hi 1 (by kernel_rfl)
                subst d1
                have d2 : l2 = true := ready_on hi 2 (by kernel_rfl)
                subst d2
                have d3 : l3 = true := ready_on hi 3 (by kernel_rfl)
                subst d3
                have d4 : l4 = true := ready_on hi 4 (by kernel_rfl)
                subst d4
                refine wpOp_run (v := .pointer (some ⟨ga, 3, none⟩)) (w' := x) (by rfl) (by rfl) ?_ (hK _ _ ⟨true, true, true, true, true, true, l6, u32, u33, u34, u35, u36, (.pointer (some ⟨ga, 3, none⟩)), (m), rfl, rfl, { h with p37 := fun _ => rfl }⟩)
                rw [h.p36 rfl]
                go_simp
              · have e : l6 = false := hl
                subst e
                have d0 : l0 = true := ready_on hi 0 (by kernel_rfl)
                subst d0
                have d1 : l1 = true := ready_on hi 1 (by kernel_rfl)
                subst d1
                have d2 : l2 = true := ready_on hi 2 (by kernel_rfl)
                subst d2
                have d3 : l3 = true := ready_on hi 3 (by kernel_rfl)
                subst d3
                have d5 : l5 = true := ready_on hi 5 (by kernel_rfl)
                subst d5
                obtain ⟨v, hv, e1⟩ := h.q35 rfl
                obtain ⟨cz, fz⟩ := acc_cell3 (h.rp.p.orowAt (i := 3) rfl) (by rw [h.m6.2]; exact hp) ea
                refine wpOp_skip (w' := x.setCell ⟨ga, 3, none⟩ (.int .i64 v)) (by rfl) (by rfl) ?_ (hK _ _ ⟨true, true, true, true, l4, true, true, u32, u33, u34, u35, u36, u37, (setP D.acc 0 (v - (D.acc[0]'hp).posted)), rfl, rfl, h.s6 ea hp hv⟩)
                rw [h.p37 rfl, e1]
                go_simp
            · rintro L act x ⟨l0, l1, l2, l3, l4, l5, l6, u32, u33, u34, u35, u36, u37, m, rfl, rfl, h⟩ hr
              have hall := ready_all hr rfl (by decide)
              have t0 : l0 = true := hall 0 (by decide)
              have t1 : l1 = true := hall 1 (by decide)
              have t2 : l2 = true := hall 2 (by decide)
              have t3 : l3 = true := hall 3 (by decide)
              have t4 : l4 = true := hall 4 (by decide)
              have t5 : l5 = true := hall 5 (by decide)
              have t6 : l6 = true := hall 6 (by decide)
              subst t0 t1 t2 t3 t4 t5 t6
              clear hall hr
              have hr9 := h.rp
              have hm := h.m6
              clear h
              have e9 : ledC p D = ledC p ⟨m, D.hold, D.seen⟩ := by simp [ledC, hm.2]
              rw [e9] at hr9
              have H9 : Hid _ := hide hr9
              clear hr9
              try go_wp2_with fail
              go_meet
              exact hide ⟨p, ⟨m, D.hold, D.seen⟩, ⟨by rw [hm.2]; exact HK.out.a, HK.out.h, HK.out.s⟩, hm.1, H9.out.cast (by simp [ledL])⟩
          · have hp' : ¬ (0 : Int) < (D.acc.length : Int) := by omega
            go_wp2_with fail
            go_meet
            exact hide ⟨p, D, HK.out, HF.out, H6.out.cast (by simp [ledL])⟩
        · have g39' : (g == 39) = false := by simpa using g39
          by_cases g38 : g = 38
          · subst g38
            go_upto_region 11 with fail
            refine wp_region_inv (by kernel_rfl) (fun L act x => ∃ l0 l1 l2 l3 l4 l5 l6 l7 l8 l9 l10 : Bool, ∃ u40 u41 u42 u43 u44 u45 u46 u47 u48 u49 : Value, ∃ sv : Value, ∃ az : Option Addr, ∃ kz : Nat, ∃ lz : List Sn, ∃ T : List Rs, L = #[l0, l1, l2, l3, l4, l5, l6, l7, l8, l9, l10] ∧ act = { tmps := #[Value.pointer (some { block := B, off := 0 }), Value.int IntKind.i64 most, undef, undef, Value.pointer (some { block := w.heap.size, off := 0 }), Value.pointer (some { block := N, off := 0 }), Value.int IntKind.i64 ↑k, Value.agg #[Value.slice none 0 0, Value.slice none 0 0, Value.slice none 0 0], Value.pointer (some { block := B, off := 0 }), Value.int IntKind.i64 most, Value.int IntKind.i64 (most + 1), Value.int IntKind.i64 q, Value.int IntKind.i64 ↑k, Value.bool false, u14, u15, u16, u17, u18, u19, u20, u21, u22, u23, Value.pointer (some { block := B, off := 0 }), Value.int IntKind.i64 38, Value.bool false, Value.bool false, undef, undef, undef, undef, undef, undef, undef, undef, undef, undef, Value.bool true, Value.bool true, u40, u41, u42, u43, u44, u45, u46, u47, u48, u49, undef, undef, undef, undef, undef, undef, undef, undef, undef, undef, undef], defers := [] } ∧ LeF B w p D N l0 l1 l2 l3 l4 l5 l6 l7 l8 l9 l10 u40 u41 u42 u43 u44 u45 u46 u47 u48 u49 sv az kz lz T x) ?_ ?_ ?_
            rotate_left 2
            · exact ⟨false, false, false, false, false, false, false, false, false, false, false, (undef), (undef), (undef), (undef), (undef), (undef), (undef), (undef), (undef), (undef), (.slice p.sa D.seen.length p.cs), (p.sa), (p.cs), (D.seen), ([]), rfl, rfl, ⟨H6.out.drew, fun _ => ⟨rfl, rfl, rfl⟩, fun _ => rfl, fun _ => rfl, fun q => (by cases q), fun q => (by cases q), fun q => (by cases q), fun q => (by cases q), fun q => (by cases q), fun q => (by cases q), fun q => (by cases q), fun q => (by cases q), fun q => (by cases q), fun q => (by cases q), fun q => (by cases q), fun q => (by cases q), fun q => (by cases q), fun q => (by cases q), fun q => (by cases q)⟩⟩
            · rintro L act x i ⟨l0, l1, l2, l3, l4, l5, l6, l7, l8, l9, l10, u40, u41, u42, u43, u44, u45, u46, u47, u48, u49, sv, az, kz, lz, T, rfl, rfl, h⟩ hi K hK
              have hi15 : i < 11 := by
                obtain ⟨_, o, ho, _⟩ := mem_ready.1 hi
                exact (Array.getElem?_eq_some_iff.1 ho).1
              have hl := (mem_ready.1 hi).1
              obtain rfl | rfl | rfl | rfl | rfl | rfl | rfl | rfl | rfl | rfl | rfl := (by omega : i = 0 ∨ i = 1 ∨ i = 2 ∨ i = 3 ∨ i = 4 ∨ i = 5 ∨ i = 6 ∨ i = 7 ∨ i = 8 ∨ i = 9 ∨ i = 10)
              · have e : l0 = false := hl
                subst e
                refine wpOp_run (v := .pointer (some ⟨N, 2, none⟩)) (w' := x) (by rfl) (by rfl) ?_ (hK _ _ ⟨true, l1, l2, l3, l4, l5, l6, l7, l8, l9, l10, (.pointer (some ⟨N, 2, none⟩)), u41, u42, u43, u44, u45, u46, u47, u48, u49, (sv), (az), (kz), (lz), (T), rfl, rfl, { h with p40 := fun _ => rfl }⟩)
                go_simp
              · have e : l1 = false := hl
                subst e
                have d0 : l0 = true := ready_on hi 0 (by kernel_rfl)
                subst d0
                have es := h.s0 (by cases l10 with | false => rfl | true => exact absurd (h.dst rfl).1 (by simp))
                have c0 := (h.rp.blkAt (i := 1) rfl).c 2 _ rfl
                rw [es] at c0
                refine wpOp_run (v := .slice p.sa D.seen.length p.cs) (w' := x) (by rfl) (by rfl) ?_ (hK _ _ ⟨true, true, l2, l3, l4, l5, l6, l7, l8, l9, l10, u40, (.slice p.sa D.seen.length p.cs), u42, u43, u44, u45, u46, u47, u48, u49, (sv), (az), (kz), (lz), (T), rfl, rfl, { h with p41 := fun _ => rfl, dst := fun q => (by cases (h.dst q).1) }⟩)
                rw [h.p40 rfl]
                go_simp
              · have e : l2 = false := hl
                subst e
                refine wpOp_run (v := .pointer (some ⟨B, 0, none⟩)) (w' := x) (by rfl) (by rfl) ?_ (hK _ _ ⟨l0, l1, true, l3, l4, l5, l6, l7, l8, l9, l10, u40, u41, (.pointer (some ⟨B, 0, none⟩)), u43, u44, u45, u46, u47, u48, u49, (sv), (az), (kz), (lz), (T), rfl, rfl, { h with p42 := fun _ => rfl }⟩)
                go_simp
              · have e : l3 = false := hl
                subst e
                have d2 : l2 = true := ready_on hi 2 (by kernel_rfl)
                subst d2
                refine wpOp_call (by rfl) (by rfl) ?_ (off_any B 1 50 x h.rp.rd (by omega) (by omega) (by omega)) ?_
                · rw [h.p42 rfl]; go_simp
                · rintro e w' ⟨⟨v, v0, v1, rfl⟩, hr, ha⟩
                  exact ⟨_, rfl, hK _ _ ⟨l0, l1, true, true, l4, l5, l6, l7, l8, l9, l10, u40, u41, u42, (.int .i64 v), u44, u45, u46, u47, u48, u49, (sv), (az), (kz), (lz), (T), rfl, rfl, h.c3 hr ha ⟨v0, v1⟩⟩⟩
              · have e : l4 = false := hl
                subst e
                refine wpOp_run (v := .pointer (some ⟨B, 0, none⟩)) (w' := x) (by rfl) (by rfl) ?_ (hK _ _ ⟨l0, l1, l2, l3, true, l5, l6, l7, l8, l9, l10, u40, u41, u42, u43, (.pointer (some ⟨B, 0, none⟩)), u45, u46, u47, u48, u49, (sv), (az), (kz), (lz), (T), rfl, rfl, { h with p44 := fun _ => rfl }⟩)
                go_simp
              · have e : l5 = false := hl
                subst e
                have d3 : l3 = true := ready_on hi 3 (by kernel_rfl)
                subst d3
                have d4 : l4 = true := ready_on hi 4 (by kernel_rfl)
                subst d4
                refine wpOp_call (by rfl) (by rfl) ?_ (off_any B 0 9 x h.rp.rd (by omega) (by omega) (by omega)) ?_
                · rw [h.p44 rfl]; go_simp
                · rintro e w' ⟨⟨v, v0, v1, rfl⟩, hr, ha⟩
                  exact ⟨_, rfl, hK _ _ ⟨l0, l1, l2, true, true, true, l6, l7, l8, l9, l10, u40, u41, u42, u43, u44, (.int .i64 v), u46, u47, u48, u49, (sv), (az), (kz), (lz), (T), rfl, rfl, h.c5 hr ha ⟨v0, v1⟩⟩⟩
              · have e : l6 = false := hl
                subst e
                have d3 : l3 = true := ready_on hi 3 (by kernel_rfl)
                subst d3
                have d5 : l5 = true := ready_on hi 5 (by kernel_rfl)
                subst d5
                obtain ⟨v3, hv3, e3⟩ := h.q43 rfl
                obtain ⟨v5, hv5, e5⟩ := h.q45 rfl
                have hw : SnW ⟨v3, v5⟩ := by
                  exact ⟨hv3, hv5⟩
                refine wpOp_run (v := .agg #[.int .i64 v3, .int .i64 v5]) (w' := x) (by rfl) (by rfl) ?_ (hK _ _ ⟨l0, l1, l2, true, l4, true, true, l7, l8, l9, l10, u40, u41, u42, u43, u44, u45, (.agg #[.int .i64 v3, .int .i64 v5]), u47, u48, u49, (sv), (az), (kz), (lz), (T), rfl, rfl, { h with q46 := fun _ => ⟨⟨v3, v5⟩, hw, rfl⟩, dbs := fun _ => rfl, dbd := fun _ => ⟨rfl, rfl⟩ }⟩)
                rw [e3, e5]
                go_simp
              · have e : l7 = false := hl
                subst e
                have d6 : l6 = true := ready_on hi 6 (by kernel_rfl)
                subst d6
                obtain ⟨y, hy, e46⟩ := h.q46 rfl
                refine wpOp_run (v := .slice (some ⟨x.heap.size, 0, none⟩) 1 1) (w' := x.alloc (.cells #[.int .i64 (y).id, .int .i64 (y).code] 55)) (by rfl) (by rfl) ?_ (hK _ _ ⟨l0, l1, l2, l3, l4, l5, true, true, l8, l9, l10, u40, u41, u42, u43, u44, u45, u46, (.slice (some ⟨x.heap.size, 0, none⟩) 1 1), u48, u49, (sv), (az), (kz), (lz), ([blk x.heap.size (snCells y)]), rfl, rfl, h.s7 hy⟩)
                rw [e46]
                go_simp
              · have e : l8 = false := hl
                subst e
                have d1 : l1 = true := ready_on hi 1 (by kernel_rfl)
                subst d1
                have d5 : l5 = true := ready_on hi 5 (by kernel_rfl)
                subst d5
                have d7 : l7 = true := ready_on hi 7 (by kernel_rfl)
                subst d7
                obtain ⟨M, y, hy, eT, e47⟩ := h.q47 rfl
                obtain ⟨ea, ec, el⟩ := h.m8 rfl
                subst ea ec el eT
                obtain ⟨i9, hi9, hz9, hy9, hx9⟩ := info_parts infoSn
                obtain ⟨a', c', X, hr, hk3, hp⟩ := h.rp.appendO snLen (by decide) sn_one1 (P := Tryz.prog) (k := 4) rfl 26 26 55 i9 _ 16 Tryz.underlying26 hi9 hz9 hy9 hx9 rfl ⟨M, 0, none⟩ 1 y (blk_news (h.rp.blkAt (i := 5) rfl) _ rfl) (by unfold maxLen; have := HB.out.2.2; omega) (by have := HB.out.2.2; omega)
                refine wpOp_run (v := .slice a' (D.seen.length + 1) c') (w' := X) (by rfl) (by rfl) ?_ (hK _ _ ⟨l0, true, l2, l3, l4, true, l6, true, true, l9, l10, u40, u41, u42, u43, u44, u45, u46, u47, (.slice a' (D.seen.length + 1) c'), u49, (sv), (a'), (c'), (D.seen ++ [y]), ([blk M (snCells y)]), rfl, rfl, { h with rp := hp, m8 := fun q => (by cases q), q48 := fun _ => ⟨by simp, by simpa using hk3, y, hy, rfl⟩, s1 := fun q => (by cases (h.dst q).2), dst := fun q => (by cases (h.dst q).2), dap := fun _ => rfl, t7 := fun q => (by cases q) }⟩)
                exact exec_append rfl (h.p41 rfl) e47 hr
              · have e : l9 = false := hl
                subst e
                have d0 : l0 = true := ready_on hi 0 (by kernel_rfl)
                subst d0
                have d1 : l1 = true := ready_on hi 1 (by kernel_rfl)
                subst d1
                have d2 : l2 = true := ready_on hi 2 (by kernel_rfl)
                subst d2
                have d3 : l3 = true := ready_on hi 3 (by kernel_rfl)
                subst d3
                have d4 : l4 = true := ready_on hi 4 (by kernel_rfl)
                subst d4
                have d5 : l5 = true := ready_on hi 5 (by kernel_rfl)
                subst d5
                have d6 : l6 = true := ready_on hi 6 (by kernel_rfl)
                subst d6
                have d7 : l7 = true := ready_on hi 7 (by kernel_rfl)
                subst d7
                have d8 : l8 = true := ready_on hi 8 (by kernel_rfl)
                subst d8
                refine wpOp_run (v := .pointer (some ⟨N, 2, none⟩)) (w' := x) (by rfl) (by rfl) ?_ (hK _ _ ⟨true, true, true, true, true, true, true, true, true, true, l10, u40, u41, u42, u43, u44, u45, u46, u47, u48, (.pointer (some ⟨N, 2, none⟩)), (sv), (az), (kz), (lz), (T), rfl, rfl, { h with p49 := fun _ => rfl }⟩)
                go_simp
              · have e : l10 = false := hl
                subst e
                have d0 : l0 = true := ready_on hi 0 (by kernel_rfl)
                subst d0
                have d1 : l1 = true := ready_on hi 1 (by kernel_rfl)
                subst d1
                have d2 : l2 = true := ready_on hi 2 (by kernel_rfl)
                subst d2
                have d3 : l3 = true := ready_on hi 3 (by kernel_rfl)
                subst d3
                have d4 : l4 = true := ready_on hi 4 (by kernel_rfl)
                subst d4
                have d5 : l5 = true := ready_on hi 5 (by kernel_rfl)
                subst d5
                have d6 : l6 = true := ready_on hi 6 (by kernel_rfl)
                subst d6
                have d7 : l7 = true := ready_on hi 7 (by kernel_rfl)
                subst d7
                have d8 : l8 = true := ready_on hi 8 (by kernel_rfl)
                subst d8
                have d9 : l9 = true := ready_on hi 9 (by kernel_rfl)
                subst d9
                refine wpOp_skip (w' := x.setCell ⟨N, 2, none⟩ (.slice az lz.length kz)) (by rfl) (by rfl) ?_ (hK _ _ ⟨true, true, true, true, true, true, true, true, true, true, true, u40, u41, u42, u43, u44, u45, u46, u47, u48, u49, (.slice az lz.length kz), (az), (kz), (lz), (T), rfl, rfl, { h with rp := h.rp.setBlk (i := 1) rfl 2 _ (by simp), s0 := fun q => (by cases q), s1 := fun _ => rfl, dst := fun _ => ⟨rfl, rfl⟩ }⟩)
                rw [h.p49 rfl, (h.q48 rfl).1]
                have cz := (h.rp.blkAt (i := 1) rfl).c 2 _ rfl
                have fz := (h.rp.blkAt (i := 1) rfl).f 2
                go_simp
            · rintro L act x ⟨l0, l1, l2, l3, l4, l5, l6, l7, l8, l9, l10, u40, u41, u42, u43, u44, u45, u46, u47, u48, u49, sv, az, kz, lz, T, rfl, rfl, h⟩ hr
              have hall := ready_all hr rfl (by decide)
              have t0 : l0 = true := hall 0 (by decide)
              have t1 : l1 = true := hall 1 (by decide)
              have t2 : l2 = true := hall 2 (by decide)
              have t3 : l3 = true := hall 3 (by decide)
              have t4 : l4 = true := hall 4 (by decide)
              have t5 : l5 = true := hall 5 (by decide)
              have t6 : l6 = true := hall 6 (by decide)
              have t7 : l7 = true := hall 7 (by decide)
              have t8 : l8 = true := hall 8 (by decide)
              have t9 : l9 = true := hall 9 (by decide)
              have t10 : l10 = true := hall 10 (by decide)
              subst t0 t1 t2 t3 t4 t5 t6 t7 t8 t9 t10
              clear hall hr
              obtain ⟨_, hk3, y, hy, el⟩ := h.q48 rfl
              have es := h.s1 rfl
              have hr9 := h.rp
              clear h
              subst es
              subst el
              have H9 : Hid _ := hide hr9
              clear hr9
              try go_wp2_with fail
              go_meet
              exact hide ⟨⟨p.aa, p.ca, p.ha, p.ch, az, kz⟩, ⟨D.acc, D.hold, D.seen ++ [y]⟩, ⟨HK.out.a, HK.out.h, hk3⟩, led_seen HF.out HB.out.2.2 hy, (H9.out.drop (i := 5) rfl).cast (by simp [ledL, ledC])⟩
          · have g38' : (g == 38) = false := by simpa using g38
            by_cases g37 : g = 37
            · subst g37
              go_upto_region 13 with fail
              refine wp_region_inv (by kernel_rfl) (fun L act x => ∃ l0 l1 l2 l3 l4 l5 l6 l7 l8 : Bool, ∃ u52 u53 u54 u55 u56 u57 u58 u59 : Value, ∃ sv : Value, ∃ az : Option Addr, ∃ kz : Nat, ∃ lz : List Hld, ∃ T : List Rs, L = #[l0, l1, l2, l3, l4, l5, l6, l7, l8] ∧ act = { tmps := #[Value.pointer (some { block := B, off := 0 }), Value.int IntKind.i64 most, undef, undef, Value.pointer (some { block := w.heap.size, off := 0 }), Value.pointer (some { block := N, off := 0 }), Value.int IntKind.i64 ↑k, Value.agg #[Value.slice none 0 0, Value.slice none 0 0, Value.slice none 0 0], Value.pointer (some { block := B, off := 0 }), Value.int IntKind.i64 most, Value.int IntKind.i64 (most + 1), Value.int IntKind.i64 q, Value.int IntKind.i64 ↑k, Value.bool false, u14, u15, u16, u17, u18, u19, u20, u21, u22, u23, Value.pointer (some { block := B, off := 0 }), Value.int IntKind.i64 37, Value.bool false, Value.bool false, undef, undef, undef, undef, undef, undef, undef, undef, undef, undef, Value.bool false, Value.bool false, undef, undef, undef, undef, undef, undef, undef, undef, undef, undef, Value.bool true, Value.bool true, u52, u53, u54, u55, u56, u57, u58, u59, undef], defers := [] } ∧ LhF B w p D N l0 l1 l2 l3 l4 l5 l6 l7 l8 u52 u53 u54 u55 u56 u57 u58 u59 sv az kz lz T x) ?_ ?_ ?_
              rotate_left 2
              · exact ⟨false, false, false, false, false, false, false, false, false, (undef), (undef), (undef), (undef), (undef), (undef), (undef), (undef), (.slice p.ha D.hold.length p.ch), (p.ha), (p.ch), (D.hold), ([]), rfl, rfl, ⟨H6.out.drew, fun _ => ⟨rfl, rfl, rfl⟩, fun _ => rfl, fun _ => rfl, fun q => (by cases q), fun q => (by cases q), fun q => (by cases q), fun q => (by cases q), fun q => (by cases q), fun q => (by cases q), fun q => (by cases q), fun q => (by cases q), fun q => (by cases q), fun q => (by cases q), fun q => (by cases q), fun q => (by cases q), fun q => (by cases q)⟩⟩
              · rintro L act x i ⟨l0, l1, l2, l3, l4, l5, l6, l7, l8, u52, u53, u54, u55, u56, u57, u58, u59, sv, az, kz, lz, T, rfl, rfl, h⟩ hi K hK
                have hi15 : i < 9 := by
                  obtain ⟨_, o, ho, _⟩ := mem_ready.1 hi
                  exact (Array.getElem?_eq_some_iff.1 ho).1
                have hl := (mem_ready.1 hi).1
                obtain rfl | rfl | rfl | rfl | rfl | rfl | rfl | rfl | rfl := (by omega : i = 0 ∨ i = 1 ∨ i = 2 ∨ i = 3 ∨ i = 4 ∨ i = 5 ∨ i = 6 ∨ i = 7 ∨ i = 8)
                · have e : l0 = false := hl
                  subst e
                  refine wpOp_run (v := .pointer (some ⟨N, 1, none⟩)) (w' := x) (by rfl) (by rfl) ?_ (hK _ _ ⟨true, l1, l2, l3, l4, l5, l6, l7, l8, (.pointer (some ⟨N, 1, none⟩)), u53, u54, u55, u56, u57, u58, u59, (sv), (az), (kz), (lz), (T), rfl, rfl, { h with p52 := fun _ => rfl }⟩)
                  go_simp
                · have e : l1 = false := hl
                  subst e
                  have d0 : l0 = true := ready_on hi 0 (by kernel_rfl)
                  subst d0
                  have es := h.s0 (by cases l8 with | false => rfl | true => exact absurd (h.dst rfl).1 (by simp))
                  have c0 := (h.rp.blkAt (i := 1) rfl).c 1 _ rfl
                  rw [es] at c0
                  refine wpOp_run (v := .slice p.ha D.hold.length p.ch) (w' := x) (by rfl) (by rfl) ?_ (hK _ _ ⟨true, true, l2, l3, l4, l5, l6, l7, l8, u52, (.slice p.ha D.hold.length p.ch), u54, u55, u56, u57, u58, u59, (sv), (az), (kz), (lz), (T), rfl, rfl, { h with p53 := fun _ => rfl, dst := fun q => (by cases (h.dst q).1) }⟩)
                  rw [h.p52 rfl]
                  go_simp
                · have e : l2 = false := hl
                  subst e
                  refine wpOp_run (v := .pointer (some ⟨B, 0, none⟩)) (w' := x) (by rfl) (by rfl) ?_ (hK _ _ ⟨l0, l1, true, l3, l4, l5, l6, l7, l8, u52, u53, (.pointer (some ⟨B, 0, none⟩)), u55, u56, u57, u58, u59, (sv), (az), (kz), (lz), (T), rfl, rfl, { h with p54 := fun _ => rfl }⟩)
                  go_simp
                · have e : l3 = false := hl
                  subst e
                  have d2 : l2 = true := ready_on hi 2 (by kernel_rfl)
                  subst d2
                  refine wpOp_call (by rfl) (by rfl) ?_ (off_any B 1 50 x h.rp.rd (by omega) (by omega) (by omega)) ?_
                  · rw [h.p54 rfl]; go_simp
                  · rintro e w' ⟨⟨v, v0, v1, rfl⟩, hr, ha⟩
                    exact ⟨_, rfl, hK _ _ ⟨l0, l1, true, true, l4, l5, l6, l7, l8, u52, u53, u54, (.int .i64 v), u56, u57, u58, u59, (sv), (az), (kz), (lz), (T), rfl, rfl, h.c3 hr ha ⟨v0, v1⟩⟩⟩
                · have e : l4 = false := hl
                  subst e
                  have d3 : l3 = true := ready_on hi 3 (by kernel_rfl)
                  subst d3
                  obtain ⟨v3, hv3, e3⟩ := h.q55 rfl
                  have hw : HldW ⟨v3, ⟨#[97, 110, 110]⟩, ⟨#[98, 97, 110, 107]⟩, 5⟩ := by
                    exact ⟨show (⟨#[97, 110, 110]⟩ : ByteArray).size ≤ maxLen by decide, show (⟨#[98, 97, 110, 107]⟩ : ByteArray).size ≤ maxLen by decide, hv3, show I64 5 by unfold I64; omega⟩
                  refine wpOp_run (v := .agg #[.int .i64 v3, .string ⟨#[97, 110, 110]⟩, .string ⟨#[98, 97, 110, 107]⟩, .int .i64 5]) (w' := x) (by rfl) (by rfl) ?_ (hK _ _ ⟨l0, l1, l2, true, true, l5, l6, l7, l8, u52, u53, u54, u55, (.agg #[.int .i64 v3, .string ⟨#[97, 110, 110]⟩, .string ⟨#[98, 97, 110, 107]⟩, .int .i64 5]), u57, u58, u59, (sv), (az), (kz), (lz), (T), rfl, rfl, { h with q46 := fun _ => ⟨⟨v3, ⟨#[97, 110, 110]⟩, ⟨#[98, 97, 110, 107]⟩, 5⟩, hw, rfl⟩, dbs := fun _ => rfl, dbd := fun _ => ⟨rfl, rfl⟩ }⟩)
                  rw [e3]
                  go_simp
                · have e : l5 = false := hl
                  subst e
                  have d4 : l4 = true := ready_on hi 4 (by kernel_rfl)
                  subst d4
                  obtain ⟨y, hy, e46⟩ := h.q46 rfl
                  refine wpOp_run (v := .slice (some ⟨x.heap.size, 0, none⟩) 1 1) (w' := x.alloc (.cells #[.int .i64 (y).id, .string (y).fr, .string (y).to, .int .i64 (y).amount] 53)) (by rfl) (by rfl) ?_ (hK _ _ ⟨l0, l1, l2, l3, true, true, l6, l7, l8, u52, u53, u54, u55, u56, (.slice (some ⟨x.heap.size, 0, none⟩) 1 1), u58, u59, (sv), (az), (kz), (lz), ([blk x.heap.size (hldCells y)]), rfl, rfl, h.s7 hy⟩)
                  rw [e46]
                  go_simp
                · have e : l6 = false := hl
                  subst e
                  have d1 : l1 = true := ready_on hi 1 (by kernel_rfl)
                  subst d1
                  have d3 : l3 = true := ready_on hi 3 (by kernel_rfl)
                  subst d3
                  have d5 : l5 = true := ready_on hi 5 (by kernel_rfl)
                  subst d5
                  obtain ⟨M, y, hy, eT, e47⟩ := h.q47 rfl
                  obtain ⟨ea, ec, el⟩ := h.m8 rfl
                  subst ea ec el eT
                  obtain ⟨i9, hi9, hz9, hy9, hx9⟩ := info_parts infoHld
                  obtain ⟨a', c', X, hr, hk3, hp⟩ := h.rp.appendO hldLen (by decide) hld_one1 (P := Tryz.prog) (k := 3) rfl 25 25 53 i9 _ 48 Tryz.underlying25 hi9 hz9 hy9 hx9 rfl ⟨M, 0, none⟩ 1 y (blk_news (h.rp.blkAt (i := 5) rfl) _ rfl) (by unfold maxLen; have := HB.out.2.1; omega) (by have := HB.out.2.1; omega)
                  refine wpOp_run (v := .slice a' (D.hold.length + 1) c') (w' := X) (by rfl) (by rfl) ?_ (hK _ _ ⟨l0, true, l2, true, l4, true, true, l7, l8, u52, u53, u54, u55, u56, u57, (.slice a' (D.hold.length + 1) c'), u59, (sv), (a'), (c'), (D.hold ++ [y]), ([blk M (hldCells y)]), rfl, rfl, { h with rp := hp, m8 := fun q => (by cases q), q48 := fun _ => ⟨by simp, by simpa using hk3, y, hy, rfl⟩, s1 := fun q => (by cases (h.dst q).2), dst := fun q => (by cases (h.dst q).2), dap := fun _ => rfl, t7 := fun q => (by cases q) }⟩)
                  exact exec_append rfl (h.p53 rfl) e47 hr
                · have e : l7 = false := hl
                  subst e
                  have d0 : l0 = true := ready_on hi 0 (by kernel_rfl)
                  subst d0
                  have d1 : l1 = true := ready_on hi 1 (by kernel_rfl)
                  subst d1
                  have d2 : l2 = true := ready_on hi 2 (by kernel_rfl)
                  subst d2
                  have d3 : l3 = true := ready_on hi 3 (by kernel_rfl)
                  subst d3
                  have d4 : l4 = true := ready_on hi 4 (by kernel_rfl)
                  subst d4
                  have d5 : l5 = true := ready_on hi 5 (by kernel_rfl)
                  subst d5
                  have d6 : l6 = true := ready_on hi 6 (by kernel_rfl)
                  subst d6
                  refine wpOp_run (v := .pointer (some ⟨N, 1, none⟩)) (w' := x) (by rfl) (by rfl) ?_ (hK _ _ ⟨true, true, true, true, true, true, true, true, l8, u52, u53, u54, u55, u56, u57, u58, (.pointer (some ⟨N, 1, none⟩)), (sv), (az), (kz), (lz), (T), rfl, rfl, { h with p59 := fun _ => rfl }⟩)
                  go_simp
                · have e : l8 = false := hl
                  subst e
                  have d0 : l0 = true := ready_on hi 0 (by kernel_rfl)
                  subst d0
                  have d1 : l1 = true := ready_on hi 1 (by kernel_rfl)
                  subst d1
                  have d2 : l2 = true := ready_on hi 2 (by kernel_rfl)
                  subst d2
                  have d3 : l3 = true := ready_on hi 3 (by kernel_rfl)
                  subst d3
                  have d4 : l4 = true := ready_on hi 4 (by kernel_rfl)
                  subst d4
                  have d5 : l5 = true := ready_on hi 5 (by kernel_rfl)
                  subst d5
                  have d6 : l6 = true := ready_on hi 6 (by kernel_rfl)
                  subst d6
                  have d7 : l7 = true := ready_on hi 7 (by kernel_rfl)
                  subst d7
                  refine wpOp_skip (w' := x.setCell ⟨N, 1, none⟩ (.slice az lz.length kz)) (by rfl) (by rfl) ?_ (hK _ _ ⟨true, true, true, true, true, true, true, true, true, u52, u53, u54, u55, u56, u57, u58, u59, (.slice az lz.length kz), (az), (kz), (lz), (T), rfl, rfl, { h with rp := h.rp.setBlk (i := 1) rfl 1 _ (by simp), s0 := fun q => (by cases q), s1 := fun _ => rfl, dst := fun _ => ⟨rfl, rfl⟩ }⟩)
                  rw [h.p59 rfl, (h.q48 rfl).1]
                  have cz := (h.rp.blkAt (i := 1) rfl).c 1 _ rfl
                  have fz := (h.rp.blkAt (i := 1) rfl).f 1
                  go_simp
              · rintro L act x ⟨l0, l1, l2, l3, l4, l5, l6, l7, l8, u52, u53, u54, u55, u56, u57, u58, u59, sv, az, kz, lz, T, rfl, rfl, h⟩ hr
                have hall := ready_all hr rfl (by decide)
                have t0 : l0 = true := hall 0 (by decide)
                have t1 : l1 = true := hall 1 (by decide)
                have t2 : l2 = true := hall 2 (by decide)
                have t3 : l3 = true := hall 3 (by decide)
                have t4 : l4 = true := hall 4 (by decide)
                have t5 : l5 = true := hall 5 (by decide)
                have t6 : l6 = true := hall 6 (by decide)
                have t7 : l7 = true := hall 7 (by decide)
                have t8 : l8 = true := hall 8 (by decide)
                subst t0 t1 t2 t3 t4 t5 t6 t7 t8
                clear hall hr
                obtain ⟨_, hk3, y, hy, el⟩ := h.q48 rfl
                have es := h.s1 rfl
                have hr9 := h.rp
                clear h
                subst es
                subst el
                have H9 : Hid _ := hide hr9
                clear hr9
                try go_wp2_with fail
                go_meet
                exact hide ⟨⟨p.aa, p.ca, az, kz, p.sa, p.cs⟩, ⟨D.acc, D.hold ++ [y], D.seen⟩, ⟨HK.out.a, hk3, HK.out.s⟩, led_hold HF.out HB.out.2.1 hy, (H9.out.drop (i := 5) rfl).cast (by simp [ledL, ledC])⟩
            · have g37' : (g == 37) = false := by simpa using g37
              go_wp2_with fail
              go_meet
              exact hide ⟨p, D, HK.out, HF.out, H6.out.cast (by simp [ledL])⟩
      case rest =>
        obtain ⟨p9, D9, hk9, hf9, h9⟩ := hcut.out
        have HZ : Hid (RP B w [[blk w.heap.size [.slice none 0 0, .slice none 0 0, .slice none 0 0]], [blk N (ledC p9 D9)], ledL p9 D9, []] wc) := hide h9
        clear hcut h9 H5 HK HF HB
        have HQ : Hid _ := hide (HZ.out.set3 (i := 0) rfl (.slice p9.aa D9.acc.length p9.ca) (.slice p9.ha D9.hold.length p9.ch) (.slice p9.sa D9.seen.length p9.cs))
        have m0_ := (HZ.out.blkAt (i := 1) rfl).c 0 _ rfl
        have r0_ := (HZ.out.blkAt (i := 0) rfl).c 0 _ rfl
        have rf0_ := (HZ.out.blkAt (i := 0) rfl).f 0
        have m1_ := (HZ.out.blkAt (i := 1) rfl).c 1 _ rfl
        have r1_ := (HZ.out.blkAt (i := 0) rfl).c 1 _ rfl
        have rf1_ := (HZ.out.blkAt (i := 0) rfl).f 1
        have m2_ := (HZ.out.blkAt (i := 1) rfl).c 2 _ rfl
        have r2_ := (HZ.out.blkAt (i := 0) rfl).c 2 _ rfl
        have rf2_ := (HZ.out.blkAt (i := 0) rfl).f 2
        go_wp2
        refine cnm_post (fun W9 hW9 => ?_)
        have hq := HQ.out
        rw [← hW9] at hq
        have z_ := hq.blkAt (i := 0) rfl
        have g0_ := z_.c 0 _ rfl
        have g1_ := z_.c 1 _ rfl
        have g2_ := z_.c 2 _ rfl
        exact bodyPost_ret (v := ledV p9 D9) (by simp [results, Tryz.results18, go_sem, g0_, g1_, g2_, ledV]) rfl ⟨p9, D9, rfl, hk9, hf9, ((hq.drop (i := 1) rfl).drop (i := 0) rfl).cast (by simp)⟩
end Go.Proofs.YteaopalhbnhbaaaGreatDoor
