/- A pool beside the reader of drawn inputs: the reader's block is turned by reading alone. -/
import Derived.Test.YtjjoeajnhblacaaGreatDoorPl
import Derived.Test.YtjjoeajnhblacaaGreatDoorGl
namespace Go.Proofs.YtjjoeajnhblacaaGreatDoor
open Go.ChangeShapes Go.WideShapes Go.ChangeAt Go.RowKit
set_option linter.unusedVariables false
/-- a block that is held, whatever lies in it -/
def tok (B : Nat) : Rs := ⟨[B], fun _ => True, fun _ _ _ h => h⟩
theorem Rd.fr {B : Nat} {x y : World} {G : List Nat} (h : Rd B x) (fr : Fr G x y) (hG : ∀ b ∈ G, B < b) : Rd B y := by
  obtain ⟨a, len, cap, p, h0, h1, h2, h3, h4, h5, h6⟩ := h.ex
  have hs := fr.size
  have hB : B ∉ G := fun q => Nat.lt_irrefl _ (hG B q)
  have hb := fr.block B h5 hB
  refine ⟨a, len, cap, p, by rw [World.cell?_of_block (w := x) hb]; exact h0, by rw [World.cell?_of_block (w := x) hb]; exact h1, h2, h3, by rw [World.frozen?_of_block (w := x) hb]; exact h4, by omega, fun i hi => ?_⟩
  obtain ⟨b, off, e, hb, z, z0, z1, hz⟩ := h6 i hi
  exact ⟨b, off, e, hb, z, z0, z1, by rw [World.cell?_of_block (w := x) (fr.block b (by omega) (fun q => by have := hG b q; omega))]; exact hz⟩
structure RP (B : Nat) (w : World) (S : List (List Rs)) (x : World) : Prop where
  p : Pool [B] w ([tok B] :: S) x
  rd : Rd B x
  lt : B < w.heap.size
theorem RP.start {B : Nat} {w : World} (h : Rd B w) (S : List (List Rs)) (e : S.flatten = []) : RP B w S w :=
  ⟨⟨Fr.refl _ _, by simp only [List.flatten_cons, e, List.append_nil]; exact Star.one trivial (by simp [tok]) (fun b hb => by simp only [tok, List.mem_singleton] at hb; subst hb; exact h.lt), by simp only [List.flatten_cons, e, List.append_nil]; exact fun b hb => .inl (by simpa [fps, tok] using hb)⟩, h, h.lt⟩
/-- a piece's blocks lie behind the reader's -/
theorem RP.far {B : Nat} {w x : World} {S : List (List Rs)} (h : RP B w S x) {i : Nat} {rs : List Rs} (hi : S[i]? = some rs) : ∀ b ∈ fps rs, B < b := fun b hb => by
  have hm : b ∈ fps S.flatten := by
    obtain ⟨A, C, e, _⟩ := slot_split hi []
    rw [e, fps_app, fps_app]; simp [hb]
  have hn : b ≠ B := fun e => by
    subst e
    have := h.p.st
    simp only [List.flatten_cons] at this
    exact this.apart b (by simp [fps, tok]) hm
  rcases h.p.hi b (by simp only [List.flatten_cons, fps_app]; simp [hm]) with q | q
  · simp only [List.mem_singleton] at q; exact absurd q hn
  · have := h.lt; omega
theorem RP.up {B : Nat} {w x y : World} {S S' : List (List Rs)} {G : List Nat} (h : RP B w S x) (p : Pool [B] w ([tok B] :: S') y) (fr : Fr G x y) (hG : ∀ b ∈ G, B < b) : RP B w S' y := ⟨p, h.rd.fr fr hG, h.lt⟩
theorem RP.step {B : Nat} {w x y : World} {S : List (List Rs)} (h : RP B w S x) {i : Nat} {rs rs' : List Rs} (hi : S[i]? = some rs) (fr : Fr (fps rs) x y) (st : Star rs' y) (sub : ∀ b ∈ fps rs', b ∈ fps rs ∨ x.heap.size ≤ b) : RP B w (S.set i rs') y :=
  h.up (h.p.step (i := i + 1) (by simpa using hi) fr st sub) fr (h.far hi)
theorem RP.call {B : Nat} {w x y : World} {S : List (List Rs)} (h : RP B w S x) {i : Nat} {rs rs' : List Rs} (hi : S[i]? = some rs) (k : Pool (fps rs) x [rs'] y) : RP B w (S.set i rs') y :=
  h.step hi k.fr (by simpa using k.st) (by simpa using k.hi)
theorem RP.keep {B : Nat} {w x y : World} {S : List (List Rs)} (h : RP B w S x) (b : Below x.heap.size x y) : RP B w S y :=
  h.up (h.p.keep b) (Fr.below (F := []) b) (fun c hc => by cases hc)
theorem RP.drew {B : Nat} {w x : World} {S : List (List Rs)} (h : RP B w S x) : RP B w S x.drew := h.keep (Below.refl _ _).drew
theorem RP.alloc {B : Nat} {w x : World} {S : List (List Rs)} (h : RP B w S x) (o : Obj) : RP B w S (x.alloc o) := h.keep (below_alloc (Below.refl _ _) o)
theorem RP.new {B : Nat} {w x y : World} {S : List (List Rs)} (h : RP B w S x) {i : Nat} {rs' : List Rs} (hi : S[i]? = some []) (b : Below x.heap.size x y) (st : Star rs' y) (hi' : ∀ c ∈ fps rs', x.heap.size ≤ c) : RP B w (S.set i rs') y :=
  h.step hi (Fr.below b) st (fun c hc => .inr (hi' c hc))
theorem RP.newBlk {B : Nat} {w x : World} {S : List (List Rs)} (h : RP B w S x) {i : Nat} (hi : S[i]? = some []) (cur : List Value) (T : TypeId) : RP B w (S.set i [blk x.heap.size cur]) (x.alloc (.cells cur.toArray T)) :=
  h.up (h.p.newBlk (i := i + 1) (by simpa using hi) cur T) (Fr.below (F := []) (below_alloc (Below.refl _ _) _)) (fun c hc => by cases hc)
theorem RP.get {B : Nat} {w x : World} {S : List (List Rs)} (h : RP B w S x) {i : Nat} {rs : List Rs} (hi : S[i]? = some rs) : Star rs x := h.p.get (i := i + 1) (by simpa using hi)
theorem RP.blkAt {B : Nat} {w x : World} {S : List (List Rs)} (h : RP B w S x) {i b : Nat} {cur : List Value} (hi : S[i]? = some [blk b cur]) : Blk b cur x := h.p.blkAt (i := i + 1) (by simpa using hi)
theorem RP.setBlk {B : Nat} {w x : World} {S : List (List Rs)} (h : RP B w S x) {i b : Nat} {cur : List Value} (hi : S[i]? = some [blk b cur]) (o : Nat) (v : Value) (ho : o < cur.length) : RP B w (S.set i [blk b (cur.set o v)]) (x.setCell ⟨b, o, none⟩ v) :=
  h.up (G := [b]) (h.p.setBlk (i := i + 1) (by simpa using hi) o v ho) ((Fr.refl _ _).set (.inl (by simp))) (fun c hc => h.far hi c (by simpa [fps, blk] using hc))
theorem RP.set6 {B : Nat} {w x : World} {S : List (List Rs)} (h : RP B w S x) {i b : Nat} {z0 z1 z2 z3 z4 z5 : Value} (hi : S[i]? = some [blk b [z0, z1, z2, z3, z4, z5]]) (v0 v1 v2 v3 v4 v5 : Value) :
    RP B w (S.set i [blk b [v0, v1, v2, v3, v4, v5]]) ((((((x.setCell ⟨b, 0, none⟩ v0).setCell ⟨b, 1, none⟩ v1).setCell ⟨b, 2, none⟩ v2).setCell ⟨b, 3, none⟩ v3).setCell ⟨b, 4, none⟩ v4).setCell ⟨b, 5, none⟩ v5) :=
  h.up (G := [b]) (h.p.set6 (i := i + 1) (by simpa using hi) v0 v1 v2 v3 v4 v5) ((((((((Fr.refl _ _).set (.inl (by simp))).set (.inl (by simp))).set (.inl (by simp))).set (.inl (by simp))).set (.inl (by simp))).set (.inl (by simp)))) (fun c hc => h.far hi c (by simpa [fps, blk] using hc))
theorem RP.set9 {B : Nat} {w x : World} {S : List (List Rs)} (h : RP B w S x) {i b : Nat} {z0 z1 z2 z3 z4 z5 z6 z7 z8 : Value} (hi : S[i]? = some [blk b [z0, z1, z2, z3, z4, z5, z6, z7, z8]]) (v0 v1 v2 v3 v4 v5 v6 v7 v8 : Value) :
    RP B w (S.set i [blk b [v0, v1, v2, v3, v4, v5, v6, v7, v8]]) (((((((((x.setCell ⟨b, 0, none⟩ v0).setCell ⟨b, 1, none⟩ v1).setCell ⟨b, 2, none⟩ v2).setCell ⟨b, 3, none⟩ v3).setCell ⟨b, 4, none⟩ v4).setCell ⟨b, 5, none⟩ v5).setCell ⟨b, 6, none⟩ v6).setCell ⟨b, 7, none⟩ v7).setCell ⟨b, 8, none⟩ v8) := by
  have hlen : i < S.length := (List.getElem?_eq_some_iff.1 hi).1
  have h0 := h.setBlk (i := i) hi 0 v0 (by simp)
  have h1 := h0.setBlk (i := i) (by rw [List.getElem?_set_self (by simpa using hlen)]) 1 v1 (by simp)
  have h2 := h1.setBlk (i := i) (by rw [List.getElem?_set_self (by simpa using hlen)]) 2 v2 (by simp)
  have h3 := h2.setBlk (i := i) (by rw [List.getElem?_set_self (by simpa using hlen)]) 3 v3 (by simp)
  have h4 := h3.setBlk (i := i) (by rw [List.getElem?_set_self (by simpa using hlen)]) 4 v4 (by simp)
  have h5 := h4.setBlk (i := i) (by rw [List.getElem?_set_self (by simpa using hlen)]) 5 v5 (by simp)
  have h6 := h5.setBlk (i := i) (by rw [List.getElem?_set_self (by simpa using hlen)]) 6 v6 (by simp)
  have h7 := h6.setBlk (i := i) (by rw [List.getElem?_set_self (by simpa using hlen)]) 7 v7 (by simp)
  have h8 := h7.setBlk (i := i) (by rw [List.getElem?_set_self (by simpa using hlen)]) 8 v8 (by simp)
  simpa [List.set_set] using h8
theorem RP.drop {B : Nat} {w x : World} {S : List (List Rs)} (h : RP B w S x) {i : Nat} {rs : List Rs} (hi : S[i]? = some rs) : RP B w (S.set i []) x :=
  h.step hi (Fr.refl _ _) (Star.nil _) (fun b hb => by simp [fps] at hb)
theorem RP.cast {B : Nat} {w x : World} {S S' : List (List Rs)} (h : RP B w S x) (e : S.flatten = S'.flatten) : RP B w S' x := ⟨h.p.cast (by simp only [List.flatten_cons, e]), h.rd, h.lt⟩
theorem RP.perm {B : Nat} {w x : World} {S S' : List (List Rs)} (h : RP B w S x) (q : S.flatten.Perm S'.flatten) : RP B w S' x := ⟨h.p.perm (by simp only [List.flatten_cons]; exact q.append_left _), h.rd, h.lt⟩
/-- something is read -/
theorem RP.read {B : Nat} {w x y : World} {S : List (List Rs)} (h : RP B w S x) (hr : Rd B y) (ha : Aprt B x y) : RP B w S y :=
  ⟨h.p.step (i := 0) (rs := [tok B]) (rs' := [tok B]) rfl ⟨ha.os, ha.tape, ha.output, ha.size, fun k hk hn => ha.block k hk (fun e => hn (by simp [fps, tok, e]))⟩ (Star.one trivial (by simp [tok]) (fun b hb => by simp only [tok, List.mem_singleton] at hb; subst hb; exact hr.lt)) (fun b hb => .inl hb), hr, h.lt⟩
theorem RP.pool {B : Nat} {w x : World} {S : List (List Rs)} (h : RP B w S x) : Pool [B] w S x := (h.p.drop (i := 0) rfl).cast (by simp)
theorem RP.apart {B : Nat} {w x : World} {S : List (List Rs)} (h : RP B w S x) : Aprt B w x := ⟨h.p.fr.os, h.p.fr.tape, h.p.fr.output, h.p.fr.size, fun k hk hn => h.p.fr.block k hk (by simpa using hn)⟩
/-- what was there, but for the reader's block -/
theorem RP.cell {B : Nat} {w x : World} {S : List (List Rs)} (h : RP B w S x) {b o : Nat} (hb : b < w.heap.size) (hB : b ≠ B) : x.cell? ⟨b, o, none⟩ = w.cell? ⟨b, o, none⟩ := h.apart.cell hb hB
end Go.Proofs.YtjjoeajnhblacaaGreatDoor
