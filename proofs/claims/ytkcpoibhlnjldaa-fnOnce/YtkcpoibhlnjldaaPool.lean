/- What a call owns: blocks and what is so of them alone, kept apart; steps that turn some of them. -/
import Derived.Test.YtkcpoibhlnjldaaBa
namespace Go.Proofs.Ytkcpoibhlnjldaa
open Go.Value renaming int → J, slice → V
open Go.ChangeShapes Go.WideShapes Go.ChangeAt Go.RowKit
set_option linter.unusedVariables false
/-- a piece of memory: its blocks, and what is so of them alone -/
structure Rs where
 fp : List Nat
 P : World → Prop
 loc : ∀ x y : World, (∀ b ∈ fp, y.heap[b]? = x.heap[b]?) → P x → P y
def fps (rs : List Rs) : List Nat := rs.flatMap Rs.fp
theorem fps_cons (r : Rs) (rs : List Rs) : fps (r :: rs) = r.fp ++ fps rs := by simp [fps]
theorem fps_app (a b : List Rs) : fps (a ++ b) = fps a ++ fps b := by simp [fps]
theorem fps_one (r : Rs) : fps [r] = r.fp := by simp [fps]
theorem mem_fps {rs : List Rs} {b : Nat} : b ∈ fps rs ↔ ∃ r ∈ rs, b ∈ r.fp := by simp [fps]
/-- blocks that were there, but those of F, stand -/
structure Fr (F : List Nat) (w x : World) : Prop where
 os : x.os = w.os
 tape : x.tape = w.tape
 output : x.output = w.output
 size : w.heap.size ≤ x.heap.size
 block : ∀ k, k < w.heap.size → k ∉ F → x.heap[k]? = w.heap[k]?
theorem Fr.refl (F : List Nat) (w : World) : Fr F w w := ⟨rfl, rfl, rfl, Nat.le_refl _, fun _ _ _ => rfl⟩
theorem Fr.below {F : List Nat} {w x : World} (h : Below w.heap.size w x) : Fr F w x := ⟨h.os, h.tape, h.output, h.size, fun k hk _ => h.block k hk⟩
theorem Fr.to_below {w x : World} (h : Fr [] w x) : Below w.heap.size w x := ⟨h.os, h.tape, h.output, h.size, fun k hk => h.block k hk (by simp)⟩
theorem Fr.mono {F G : List Nat} {w x : World} (h : Fr F w x) (hs : ∀ b ∈ F, b ∈ G ∨ w.heap.size ≤ b) : Fr G w x :=
 ⟨h.os, h.tape, h.output, h.size, fun k hk hn => h.block k hk (fun q => by rcases hs k q with a | a; exact hn a; omega)⟩
theorem Fr.trans {F G : List Nat} {w x y : World} (h : Fr F w x) (k : Fr G x y) (hs : ∀ b ∈ G, b ∈ F ∨ w.heap.size ≤ b) : Fr F w y :=
 ⟨k.os.trans h.os, k.tape.trans h.tape, k.output.trans h.output, Nat.le_trans h.size k.size, fun b hb hn => (k.block b (Nat.lt_of_lt_of_le hb h.size) (fun q => by rcases hs b q with a | a; exact hn a; omega)).trans (h.block b hb hn)⟩
theorem Fr.drew {F : List Nat} {w x : World} (h : Fr F w x) : Fr F w x.drew := ⟨h.os, h.tape, h.output, h.size, h.block⟩
theorem Fr.alloc {F : List Nat} {w x : World} (h : Fr F w x) (o : Obj) : Fr F w (x.alloc o) := h.trans (Fr.below (below_alloc (Below.refl _ _) o)) (G := []) (fun b hb => by cases hb)
theorem Fr.set {F : List Nat} {w x : World} (h : Fr F w x) {g o : Nat} {v : Value} (hg : g ∈ F ∨ w.heap.size ≤ g) : Fr F w (x.setCell ⟨g, o, none⟩ v) :=
 ⟨h.os, h.tape, h.output, by rw [size_setCell]; exact h.size, fun k hk hn => (Below.heap_setCell _ _ _ _ (fun e => by subst e; rcases hg with a | a; exact hn a; exact absurd hk (by show ¬ k < _; omega))).trans (h.block k hk hn)⟩
theorem Fr.turned {g : Nat} {w x : World} (h : Turned g w x) : Fr [g] w x := ⟨h.os, h.tape, h.output, by rw [h.size]; exact Nat.le_refl _, fun k hk hn => h.block k (fun e => hn (by simp [e]))⟩
theorem Fr.grown {w x : World} {o : Option Nat} (h : w.grownBy x o) : Fr o.toList w x := ⟨h.os, h.tape, h.output, h.size, fun k hk hn => h.block k hk (fun e => hn (by simp [← e]))⟩
theorem Fr.cell {F : List Nat} {w x : World} (h : Fr F w x) {p : Addr} (hp : p.block < w.heap.size) (hn : p.block ∉ F) : x.cell? p = w.cell? p := World.cell?_of_block (h.block _ hp hn)
/-- pieces that lie apart -/
structure Star (rs : List Rs) (x : World) : Prop where
 all : ∀ r ∈ rs, r.P x
 nd : (fps rs).Nodup
 lt : ∀ b ∈ fps rs, b < x.heap.size
theorem Star.nil (x : World) : Star [] x := ⟨fun r h => (by cases h), (by simp [fps]), fun b h => (by simp [fps] at h)⟩
theorem Star.perm {rs rs' : List Rs} {x : World} (h : Star rs x) (p : rs.Perm rs') : Star rs' x :=
 ⟨fun r hr => h.all r (p.mem_iff.2 hr), (List.Perm.nodup_iff (List.Perm.flatMap_right _ p)).1 h.nd, fun b hb => h.lt b ((List.Perm.flatMap_right _ p).mem_iff.2 hb)⟩
theorem Star.left {a b : List Rs} {x : World} (h : Star (a ++ b) x) : Star a x := by
 have nd := h.nd
 rw [fps_app, List.nodup_append] at nd
 exact ⟨fun r hr => h.all r (by simp [hr]), nd.1, fun c hc => h.lt c (by rw [fps_app]; simp [hc])⟩
theorem Star.right {a b : List Rs} {x : World} (h : Star (a ++ b) x) : Star b x := h.perm List.perm_append_comm |>.left
theorem Star.app {a b : List Rs} {x : World} (h : Star a x) (k : Star b x) (d : ∀ c ∈ fps a, c ∉ fps b) : Star (a ++ b) x :=
 ⟨fun r hr => by rcases List.mem_append.1 hr with q | q; exact h.all r q; exact k.all r q, by
  rw [fps_app, List.nodup_append]
  exact ⟨h.nd, k.nd, fun c hc e he q => d c hc (q ▸ he)⟩, fun c hc => by
  rw [fps_app] at hc
  rcases List.mem_append.1 hc with q | q
  ·exact h.lt c q
  ·exact k.lt c q⟩
theorem Star.apart {a b : List Rs} {x : World} (h : Star (a ++ b) x) : ∀ c ∈ fps a, c ∉ fps b := by
 have nd := h.nd
 rw [fps_app, List.nodup_append] at nd
 exact fun c hc q => nd.2.2 c hc c q rfl
theorem Star.keep {rs : List Rs} {x y : World} {F : List Nat} (h : Star rs x) (k : Fr F x y) (d : ∀ b ∈ fps rs, b ∉ F) : Star rs y :=
 ⟨fun r hr => r.loc x y (fun b hb => k.block b (h.lt b (mem_fps.2 ⟨r, hr, hb⟩)) (d b (mem_fps.2 ⟨r, hr, hb⟩))) (h.all r hr), h.nd, fun b hb => Nat.lt_of_lt_of_le (h.lt b hb) k.size⟩
theorem Star.below {rs : List Rs} {x y : World} (h : Star rs x) (k : Below x.heap.size x y) : Star rs y := h.keep (Fr.below (F := []) k) (fun _ _ q => by cases q)
theorem Star.cons {r : Rs} {rs : List Rs} {x : World} (h : Star (r :: rs) x) : r.P x ∧ Star rs x := ⟨h.all r (by simp), Star.right (a := [r]) h⟩
theorem Star.get {rs : List Rs} {x : World} (h : Star rs x) {r : Rs} (hr : r ∈ rs) : r.P x := h.all r hr
theorem Star.one {r : Rs} {x : World} (h : r.P x) (nd : r.fp.Nodup) (lt : ∀ b ∈ r.fp, b < x.heap.size) : Star [r] x :=
 ⟨fun q hq => by simp only [List.mem_singleton] at hq; subst hq; exact h, by rw [fps_one]; exact nd, by rw [fps_one]; exact lt⟩
/-- what is owned, in places; beside it, of what was there at w, only blocks of F have turned -/
structure Pool (F : List Nat) (w : World) (S : List (List Rs)) (x : World) : Prop where
 fr : Fr F w x
 st : Star S.flatten x
 hi : ∀ b ∈ fps S.flatten, b ∈ F ∨ w.heap.size ≤ b
theorem slot_split {S : List (List Rs)} {i : Nat} {rs : List Rs} (hi : S[i]? = some rs) (rs' : List Rs) : ∃ A B, S.flatten = A ++ (rs ++ B) ∧ (S.set i rs').flatten = A ++ (rs' ++ B) := by
 have hl : i < S.length := (List.getElem?_eq_some_iff.1 hi).1
 refine ⟨(S.take i).flatten, (S.drop (i + 1)).flatten, ?_, ?_⟩
 ·have e : S = S.take i ++ rs :: S.drop (i + 1) := by
   have := List.getElem?_eq_some_iff.1 hi
   obtain ⟨_, h2⟩ := this
   rw [← h2]
   simp
  rw [← List.flatten_cons, ← List.flatten_append, ← e]
 ·rw [List.set_eq_take_append_cons_drop, if_pos hl, List.flatten_append, List.flatten_cons]
theorem Pool.get {F : List Nat} {w x : World} {S : List (List Rs)} (h : Pool F w S x) {i : Nat} {rs : List Rs} (hi : S[i]? = some rs) : Star rs x := by
 obtain ⟨A, B, e, _⟩ := slot_split hi []
 have := h.st
 rw [e] at this
 exact this.right.left
/-- one place turns: its pieces are given, others are got, that lie in its blocks or in new ones -/
theorem Pool.step {F : List Nat} {w x y : World} {S : List (List Rs)} (h : Pool F w S x) {i : Nat} {rs rs' : List Rs} (hi : S[i]? = some rs) (fr : Fr (fps rs) x y) (st : Star rs' y) (sub : ∀ b ∈ fps rs', b ∈ fps rs ∨ x.heap.size ≤ b) : Pool F w (S.set i rs') y := by
 obtain ⟨A, B, e, e'⟩ := slot_split hi rs'
 have hs := h.st
 have hh := h.hi
 rw [e] at hs hh
 have hin : ∀ b ∈ fps rs, b ∈ F ∨ w.heap.size ≤ b := fun b hb => hh b (by rw [fps_app, fps_app]; simp [hb])
 have dA := hs.apart
 have dB := hs.right.apart
 have kA : Star A y := hs.left.keep fr (fun b hb q => dA b hb (by rw [fps_app]; simp [q]))
 have kB : Star B y := hs.right.right.keep fr (fun b hb q => dB b q hb)
 refine ⟨h.fr.trans fr hin, ?_, ?_⟩
 ·rw [e']
  refine kA.app (st.app kB (fun c hc q => ?_)) (fun c hc q => ?_)
  ·rcases sub c hc with a | a
   ·exact dB c a q
   ·have := hs.right.right.lt c q; omega
  ·rw [fps_app] at q
   rcases List.mem_append.1 q with q | q
   ·rcases sub c q with a | a
    ·exact dA c hc (by rw [fps_app]; simp [a])
    ·have := hs.left.lt c hc; omega
   ·exact dA c hc (by rw [fps_app]; simp [q])
 ·rw [e']
  intro b hb
  rw [fps_app, fps_app] at hb
  rcases List.mem_append.1 hb with q | q
  ·exact hh b (by rw [fps_app]; simp [q])
  ·rcases List.mem_append.1 q with q | q
   ·rcases sub b q with a | a
    ·exact hin b a
    ·exact .inr (Nat.le_trans h.fr.size a)
   ·exact hh b (by rw [fps_app, fps_app]; simp [q])
theorem Pool.call {F : List Nat} {w x y : World} {S : List (List Rs)} (h : Pool F w S x) {i : Nat} {rs rs' : List Rs} (hi : S[i]? = some rs) (k : Pool (fps rs) x [rs'] y) : Pool F w (S.set i rs') y :=
 h.step hi k.fr (by simpa using k.st) (by simpa using k.hi)
theorem Pool.keep {F : List Nat} {w x y : World} {S : List (List Rs)} (h : Pool F w S x) (b : Below x.heap.size x y) : Pool F w S y :=
 ⟨h.fr.trans (Fr.below (F := []) b) (fun c hc => by cases hc), h.st.below b, h.hi⟩
theorem Pool.drew {F : List Nat} {w x : World} {S : List (List Rs)} (h : Pool F w S x) : Pool F w S x.drew := h.keep (Below.refl _ _).drew
theorem Pool.alloc {F : List Nat} {w x : World} {S : List (List Rs)} (h : Pool F w S x) (o : Obj) : Pool F w S (x.alloc o) := h.keep (below_alloc (Below.refl _ _) o)
theorem Pool.perm {F : List Nat} {w x : World} {S S' : List (List Rs)} (h : Pool F w S x) (p : S.flatten.Perm S'.flatten) : Pool F w S' x :=
 ⟨h.fr, h.st.perm p, fun b hb => h.hi b ((List.Perm.flatMap_right _ p).mem_iff.2 hb)⟩
theorem Pool.cast {F : List Nat} {w x : World} {S S' : List (List Rs)} (h : Pool F w S x) (e : S.flatten = S'.flatten) : Pool F w S' x := ⟨h.fr, e ▸ h.st, e ▸ h.hi⟩
theorem Pool.drop {F : List Nat} {w x : World} {S : List (List Rs)} (h : Pool F w S x) {i : Nat} {rs : List Rs} (hi : S[i]? = some rs) : Pool F w (S.set i []) x := h.step hi (Fr.refl _ _) (Star.nil _) (fun b hb => by simp [fps] at hb)
/-- new pieces into an empty place -/
theorem Pool.new {F : List Nat} {w x y : World} {S : List (List Rs)} (h : Pool F w S x) {i : Nat} {rs' : List Rs} (hi : S[i]? = some []) (b : Below x.heap.size x y) (st : Star rs' y) (hi' : ∀ c ∈ fps rs', x.heap.size ≤ c) : Pool F w (S.set i rs') y :=
 h.step hi (Fr.below b) st (fun c hc => .inr (hi' c hc))
theorem Pool.start (w : World) (S : List (List Rs)) (e : S.flatten = []) : Pool [] w S w := ⟨Fr.refl _ _, by rw [e]; exact Star.nil _, by rw [e]; exact fun b hb => by simp [fps] at hb⟩
theorem Pool.of {rs : List Rs} {w : World} (h : Star rs w) : Pool (fps rs) w [rs] w := ⟨Fr.refl _ _, by simpa using h, fun b hb => .inl (by simpa using hb)⟩
theorem Pool.below {w x : World} {S : List (List Rs)} (h : Pool [] w S x) : Below w.heap.size w x := h.fr.to_below
/-- a block whose cells are known -/
def blk (b : Nat) (cur : List Value) : Rs := ⟨[b], Blk b cur, fun x y e h => by
 have e := e b (by simp)
 have hlt : b < y.heap.size := by
  rcases Nat.lt_or_ge b y.heap.size with q | q
  ·exact q
  ·rw [Array.getElem?_eq_none q] at e
   have := h.lt
   rw [Array.getElem?_eq_getElem this] at e
   cases e
 exact ⟨hlt, fun j v hj => (World.cell?_of_block (a := ⟨b, j, none⟩) e).trans (h.c j v hj), fun j => (World.frozen?_of_block (a := ⟨b, j, none⟩) e).trans (h.f j)⟩⟩
theorem blk_fp (b : Nat) (cur : List Value) : (blk b cur).fp = [b] := rfl
theorem Star.ofBlk {b : Nat} {cur : List Value} {x : World} (h : Blk b cur x) : Star [blk b cur] x := Star.one h (by simp [blk]) (fun c hc => by simp only [blk_fp, List.mem_singleton] at hc; subst hc; exact h.lt)
theorem Pool.newBlk {F : List Nat} {w x : World} {S : List (List Rs)} (h : Pool F w S x) {i : Nat} (hi : S[i]? = some []) (cur : List Value) (T : TypeId) : Pool F w (S.set i [blk x.heap.size cur]) (x.alloc (.cells cur.toArray T)) :=
 h.new hi (below_alloc (Below.refl _ _) _) (Star.ofBlk Blk.new) (fun c hc => by simp only [fps_one, blk_fp, List.mem_singleton] at hc; omega)
theorem Pool.setBlk {F : List Nat} {w x : World} {S : List (List Rs)} (h : Pool F w S x) {i b : Nat} {cur : List Value} (hi : S[i]? = some [blk b cur]) (o : Nat) (v : Value) (ho : o < cur.length) : Pool F w (S.set i [blk b (cur.set o v)]) (x.setCell ⟨b, o, none⟩ v) := by
 have hB : Blk b cur x := (h.get hi).get (r := blk b cur) (by simp)
 exact h.step hi (by rw [fps_one, blk_fp]; exact (Fr.refl _ _).set (.inl (by simp))) (Star.ofBlk (hB.set o v ho)) (fun c hc => .inl hc)
/-- a row that append may grow -/
def row (T : TypeId) (sz : Nat) (v : Value) (n : Nat) (xs : List Value) : Rs := ⟨v.ownBlock.toList, fun x => x.ownsRow 0 T sz v n xs, fun x y e h => by
 obtain ⟨hl, h0 | ⟨g, cap, cur, h1, hb, hg, r⟩⟩ := h
 ·exact ⟨hl, .inl h0⟩
 ·exact ⟨hl, .inr ⟨g, cap, cur, h1, hb, (e g (by subst h1; simp [Value.ownBlock])).trans hg, r⟩⟩⟩
theorem row_fp (T : TypeId) (sz : Nat) (v : Value) (n : Nat) (xs : List Value) : (row T sz v n xs).fp = v.ownBlock.toList := rfl
theorem toList_nodup (o : Option Nat) : o.toList.Nodup := by cases o <;> simp
theorem own_zero {w : World} {base : Nat} {T : TypeId} {sz n : Nat} {v : Value} {xs : List Value} (h : w.ownsRow base T sz v n xs) : w.ownsRow 0 T sz v n xs := by
 obtain ⟨hl, h0 | ⟨g, cap, cur, h1, hb, r⟩⟩ := h
 ·exact ⟨hl, .inl h0⟩
 ·exact ⟨hl, .inr ⟨g, cap, cur, h1, Nat.zero_le _, r⟩⟩
theorem Star.ofRow {base : Nat} {T : TypeId} {sz n : Nat} {v : Value} {xs : List Value} {x : World} (h : x.ownsRow base T sz v n xs) : Star [row T sz v n xs] x :=
 Star.one (r := row T sz v n xs) (own_zero h) (toList_nodup _) (fun c hc => by
  rw [row_fp, Option.mem_toList] at hc
  exact (h.lt c hc).2)
theorem Pool.newRow {F : List Nat} {w x : World} {S : List (List Rs)} (h : Pool F w S x) {i : Nat} (hi : S[i]? = some []) (T : TypeId) (sz : Nat) : Pool F w (S.set i [row T sz (V (some ⟨x.heap.size, 0, none⟩) 0 0) 0 []]) (x.alloc (.cells #[] T)) :=
 h.new hi (below_alloc (Below.refl _ _) _) (Star.ofRow (World.ownsRow_made (base := 0) x #[] 0 (Nat.zero_le _) (by unfold maxLen; omega) (by simp))) (fun c hc => by simp only [fps_one, row_fp, Value.ownBlock, Option.toList, List.mem_singleton] at hc; omega)
theorem Pool.newNil {F : List Nat} {w x : World} {S : List (List Rs)} (h : Pool F w S x) {i : Nat} (hi : S[i]? = some []) (T : TypeId) (sz : Nat) : Pool F w (S.set i [row T sz (V none 0 0) 0 []]) x :=
 h.new hi (Below.refl _ _) (Star.ofRow (World.ownsRow_nil x 0 T sz)) (fun c hc => by simp [fps_one, row_fp, Value.ownBlock] at hc)
theorem Pool.rowAt {F : List Nat} {w x : World} {S : List (List Rs)} (h : Pool F w S x) {i : Nat} {T : TypeId} {sz n : Nat} {v : Value} {xs : List Value} (hi : S[i]? = some [row T sz v n xs]) : x.ownsRow 0 T sz v n xs := (h.get hi).get (r := row T sz v n xs) (by simp)
theorem Pool.blkAt {F : List Nat} {w x : World} {S : List (List Rs)} (h : Pool F w S x) {i b : Nat} {cur : List Value} (hi : S[i]? = some [blk b cur]) : Blk b cur x := (h.get hi).get (r := blk b cur) (by simp)
theorem Pool.grow {F : List Nat} {w x y : World} {S : List (List Rs)} (h : Pool F w S x) {i : Nat} {T : TypeId} {sz n m : Nat} {v v' : Value} {xs ys : List Value} (hi : S[i]? = some [row T sz v n xs]) (ho : y.ownsRow 0 T sz v' m ys) (hg : x.grownBy y v.ownBlock) (hl : v'.ownBlock = v.ownBlock ∨ v'.ownBlock = some x.heap.size) : Pool F w (S.set i [row T sz v' m ys]) y :=
 h.step hi (by rw [fps_one, row_fp]; exact Fr.grown hg) (Star.ofRow ho) (fun c hc => by
  rw [fps_one, row_fp, Option.mem_toList] at hc
  rcases hl with e | e
  ·exact .inl (by rw [fps_one, row_fp, Option.mem_toList, ← e]; exact hc)
  ·rw [e] at hc
   simp only [Option.some.injEq] at hc
   exact .inr (by omega))
/-- where a row lies -/
def gOf : Option Addr → Nat
 | some a => a.block
 | none => 0
/-- a row that may be written -/
def orow {A : Type} (sz : Nat) (f : A → List Value) (a : Option Addr) (cap : Nat) (l : List A) : Rs := ⟨if l.length = 0 then [] else [gOf a], fun x => OwnRow sz f x (gOf a) a cap l, fun x y e h => by
 refine ⟨fun i hi => ?_, fun h0 => ⟨(h.own h0).1, fun j => ?_⟩, h.room, h.nocap⟩
 ·have e := e (gOf a) (by rw [if_neg (by omega)]; simp)
  obtain ⟨b, off, ea, hb, hc⟩ := h.rows i hi
  have hg : gOf a = b := by rw [ea]; rfl
  rw [hg] at e
  refine ⟨b, off, ea, ?_, fun r v hv => (World.cell?_of_block (a := ⟨b, off + i * sz + r, none⟩) e).trans (hc r v hv)⟩
  rcases Nat.lt_or_ge b y.heap.size with q | q
  ·exact q
  ·rw [Array.getElem?_eq_none q, Array.getElem?_eq_getElem hb] at e
   cases e
 ·have e := e (gOf a) (by rw [if_neg (by omega)]; simp)
  exact (World.frozen?_of_block (a := ⟨gOf a, j, none⟩) e).trans ((h.own h0).2 j)⟩
theorem orow_fp {A : Type} (sz : Nat) (f : A → List Value) (a : Option Addr) (cap : Nat) (l : List A) : (orow sz f a cap l).fp = if l.length = 0 then [] else [gOf a] := rfl
theorem orow_mem {A : Type} {sz : Nat} {f : A → List Value} {a : Option Addr} {cap : Nat} {l : List A} {b : Nat} (h : b ∈ (orow sz f a cap l).fp) : 0 < l.length ∧ b = gOf a := by
 rw [orow_fp] at h
 split at h
 ·cases h
 ·simp only [List.mem_singleton] at h
  exact ⟨by omega, h⟩
theorem Star.ofOrow {A : Type} {sz : Nat} {f : A → List Value} {a : Option Addr} {cap g : Nat} {l : List A} {x : World} (h : OwnRow sz f x g a cap l) : Star [orow sz f a cap l] x ∧ ∀ b ∈ fps [orow sz f a cap l], b = g := by
 have hg : 0 < l.length → gOf a = g := fun h0 => by rw [(h.own h0).1]; rfl
 refine ⟨Star.one (r := orow sz f a cap l) (show OwnRow sz f x (gOf a) a cap l from ?_) (by rw [orow_fp]; split <;> simp) (fun b hb => ?_), fun b hb => ?_⟩
 ·by_cases h0 : 0 < l.length
  ·rw [hg h0]; exact h
  ·have : l = [] := List.eq_nil_of_length_eq_zero (by omega)
   subst this
   exact OwnRow.nil h.nocap
 ·obtain ⟨h0, rfl⟩ := orow_mem hb
  rw [hg h0]
  exact h.lt h0
 ·rw [fps_one] at hb
  obtain ⟨h0, rfl⟩ := orow_mem hb
  exact hg h0
theorem NewRow.star {A : Type} {sz : Nat} {f : A → List Value} {l : List A} {w x : World} {v : Value} (h : NewRow sz f l w v x) : ∃ a cap, v = V a l.length cap ∧ Star [orow sz f a cap l] x ∧ ∀ b ∈ fps [orow sz f a cap l], w.heap.size ≤ b := by
 obtain ⟨g, a, cap, hg, e, ho⟩ := h
 obtain ⟨st, hb⟩ := Star.ofOrow ho
 exact ⟨a, cap, e, st, fun b q => by rw [hb b q]; exact hg⟩
/-- what append leaves, as a row that may be written -/
theorem Star.of_row {A : Type} {sz : Nat} {f : A → List Value} (hf : ∀ x, (f x).length = sz) {w : World} {base : Nat} {e : TypeId} {v : Value} {l : List A} (h : w.ownsRow base e sz v l.length (l.flatMap f)) : ∃ a cap, v = V a l.length cap ∧ Star [orow sz f a cap l] w ∧ (∀ b ∈ fps [orow sz f a cap l], b ∈ v.ownBlock.toList) := by
 obtain ⟨g, a, cap, hb, rfl, ho⟩ := own_of_row hf h
 obtain ⟨st, hh⟩ := Star.ofOrow ho
 refine ⟨a, cap, rfl, st, fun b q => ?_⟩
 rw [fps_one] at q
 obtain ⟨h0, rfl⟩ := orow_mem q
 have := (ho.own h0).1
 subst this
 simp [Value.ownBlock, gOf]
theorem Pool.asOrow {A : Type} {sz : Nat} {f : A → List Value} (hf : ∀ x, (f x).length = sz) {F : List Nat} {w x : World} {S : List (List Rs)} (h : Pool F w S x) {i : Nat} {T : TypeId} {v : Value} {l : List A} (hi : S[i]? = some [row T sz v l.length (l.flatMap f)]) : ∃ a cap, v = V a l.length cap ∧ Pool F w (S.set i [orow sz f a cap l]) x := by
 obtain ⟨a, cap, e, st, hb⟩ := Star.of_row hf (h.rowAt hi)
 exact ⟨a, cap, e, h.step hi (Fr.refl _ _) st (fun b hq => .inl (by rw [fps_one, row_fp]; exact hb b hq))⟩
theorem Pool.orowAt {A : Type} {sz : Nat} {f : A → List Value} {F : List Nat} {w x : World} {S : List (List Rs)} (h : Pool F w S x) {i : Nat} {a : Option Addr} {cap : Nat} {l : List A} (hi : S[i]? = some [orow sz f a cap l]) : OwnRow sz f x (gOf a) a cap l := (h.get hi).get (r := orow sz f a cap l) (by simp)
/-- six cells of a block written anew -/
theorem Pool.set6 {F : List Nat} {w x : World} {S : List (List Rs)} (h : Pool F w S x) {i b : Nat} {z0 z1 z2 z3 z4 z5 : Value} (hi : S[i]? = some [blk b [z0, z1, z2, z3, z4, z5]]) (v0 v1 v2 v3 v4 v5 : Value) :
  Pool F w (S.set i [blk b [v0, v1, v2, v3, v4, v5]]) ((((((x.setCell ⟨b, 0, none⟩ v0).setCell ⟨b, 1, none⟩ v1).setCell ⟨b, 2, none⟩ v2).setCell ⟨b, 3, none⟩ v3).setCell ⟨b, 4, none⟩ v4).setCell ⟨b, 5, none⟩ v5) := by
 have hl : i < S.length := (List.getElem?_eq_some_iff.1 hi).1
 have e : ∀ r : List Rs, (S.set i r)[i]? = some r := fun r => by simp [hl]
 have h0 := h.setBlk hi 0 v0 (by simp)
 have h1 := h0.setBlk (e _) 1 v1 (by simp)
 have h2 := h1.setBlk (by rw [List.set_set]; exact e _) 2 v2 (by simp)
 have h3 := h2.setBlk (by rw [List.set_set, List.set_set]; exact e _) 3 v3 (by simp)
 have h4 := h3.setBlk (by rw [List.set_set, List.set_set, List.set_set]; exact e _) 4 v4 (by simp)
 have h5 := h4.setBlk (by rw [List.set_set, List.set_set, List.set_set, List.set_set]; exact e _) 5 v5 (by simp)
 simp only [List.set_set] at h5
 exact h5
/-- an address with no far part -/
def Near (a : Option Addr) : Prop := ∀ x, a = some x → ∃ b off, x = ⟨b, off, none⟩
theorem row_near {w : World} {base : Nat} {e : TypeId} {sz n m c : Nat} {a : Option Addr} {xs : List Value} (h : w.ownsRow base e sz (V a m c) n xs) : Near a := fun x hx => by
 obtain ⟨hl, ⟨h0, _⟩ | ⟨g, cap, cur, h1, _⟩⟩ := h
 ·simp only [Value.slice.injEq] at h0
  rw [h0.1] at hx
  cases hx
 ·simp only [Value.slice.injEq] at h1
  rw [h1.1] at hx
  simp only [Option.some.injEq] at hx
  exact ⟨g, 0, hx.symm⟩
/-- where a value's slice lies -/
def slA : Value → Option Addr
 | V a _ _ => a
 | .agg xs => (match xs.toList with | V a _ _ :: _ => a | _ => none)
 | .tuple ys => (match ys.toList with | Value.agg xs :: _ => (match xs.toList with | V a _ _ :: _ => a | _ => none) | _ => none)
 | _ => none
def slC : Value → Nat
 | V _ _ c => c
 | .agg xs => (match xs.toList with | V _ _ c :: _ => c | _ => 0)
 | .tuple ys => (match ys.toList with | Value.agg xs :: _ => (match xs.toList with | V _ _ c :: _ => c | _ => 0) | _ => 0)
 | _ => 0
/-- the block that a pointer leads to -/
def ptB : Value → Nat
 | .pointer (some a) => a.block
 | _ => 0
theorem Pool.append {P : Program} {F : List Nat} {w x : World} {S : List (List Rs)} (h : Pool F w S x) {i0 : Nat} {T : TypeId} {size n : Nat} {v : Value} {xs : List Value} (hs : S[i0]? = some [row T size v n xs])
  (t ty : TypeId) (i : TypeInfo) (z : Value) (bytes : Nat) (ht : P.underlying t = some (.slice T)) (hi : P.info? T = some i) (hz : i.zero = some z)
  (hsize : i.size = size) (hby : i.bytes = bytes) (hzs : z.cells.size = size) (hsz : 0 < size)
  (ao : Option Addr) (m c : Nat) (news : List Value) (hl : news.length = m * size) (hnone : ao = none → m = 0 ∧ c = 0) (hnews : ∀ a, ao = some a → ∀ j u, news[j]? = some u → x.cell? (a.add j) = some u) (h1 : ∀ u ∈ news, u.oneCell' = true)
  (h63 : n + m ≤ maxLen) (hbytes : (n + m) * bytes ≤ 140737488355328) :
  ∃ v' y, (Builtin.append_ #[t, t] ty #[v, V ao m c]).run P x = .ok v' y ∧ Pool F w (S.set i0 [row T size v' (n + m) (xs ++ news)]) y := by
 obtain ⟨v', y, hr, ho, hg, hlie⟩ := run_append_any (P := P) (w := x) 0 t ty T i z size bytes ht hi hz hsize hby hzs hsz v n xs (h.rowAt hs) ao m c news hl hnone hnews h1 h63 hbytes (Nat.zero_le _)
 exact ⟨v', y, hr, h.grow hs ho hg hlie⟩
theorem blk_news {g : Nat} {cur : List Value} {x : World} (h : Blk g cur x) : ∀ a, (some ⟨g, 0, none⟩ : Option Addr) = some a → ∀ j u, cur[j]? = some u → x.cell? (a.add j) = some u := fun a ha j u hj => by
 simp only [Option.some.injEq] at ha
 subst ha
 rw [addr_add, Nat.zero_add]
 exact h.c j u hj
theorem Below.news {w x : World} {A : Type} {sz : Nat} {f : A → List Value} (hf : ∀ x, (f x).length = sz) (h0 : 0 < sz) {a : Option Addr} {l : List A} (b : Below w.heap.size w x) (h : RowAt sz f w a l) : ∀ ad, a = some ad → ∀ j u, (l.flatMap f)[j]? = some u → x.cell? (ad.add j) = some u := (h.below b).news_any hf h0
end Go.Proofs.Ytkcpoibhlnjldaa
