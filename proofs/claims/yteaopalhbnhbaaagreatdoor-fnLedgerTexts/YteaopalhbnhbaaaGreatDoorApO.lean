/- One more element onto a row that a call left. -/
import Derived.Test.YteaopalhbnhbaaaGreatDoorGl
import Derived.Test.YteaopalhbnhbaaaGreatDoorGc
import Derived.ArgAppend
namespace Go.Proofs.YteaopalhbnhbaaaGreatDoor
open Go.ChangeShapes Go.WideShapes Go.ChangeAt Go.RowKit
set_option linter.unusedVariables false
theorem Shp.sets {sz n : Nat} {a : Option Addr} {cap b : Nat} : ∀ (vs : List Value) (o : Nat) (x : World), Shp x sz n a cap → Shp (x.setCells b o vs) sz n a cap
  | [], _, _, h => h
  | v :: r, o, x, h => Shp.sets r (o + 1) _ (h.set b o v)
theorem Shp.more {x : World} {sz n m : Nat} {a : Option Addr} {cap : Nat} (h : Shp x sz n a cap) (ha : a ≠ none) (hm : m ≤ cap) : Shp x sz m a cap := by
  rcases h with ⟨q, _⟩ | ⟨g, cur, T, e, hg, hc, r, r2⟩
  · exact absurd q ha
  · exact .inr ⟨g, cur, T, e, hg, hc, hm, r2⟩
theorem Fr.sets {F : List Nat} {w : World} {b : Nat} (hb : b ∈ F) : ∀ (vs : List Value) (o : Nat) (x : World), Fr F w x → Fr F w (x.setCells b o vs)
  | [], _, _, h => h
  | v :: r, o, x, h => Fr.sets hb r (o + 1) _ (h.set (.inl hb))
theorem size_setCells (b : Nat) : ∀ (vs : List Value) (o : Nat) (x : World), (x.setCells b o vs).heap.size = x.heap.size
  | [], _, _ => rfl
  | v :: r, o, x => (size_setCells b r (o + 1) _).trans (size_setCell _ _ _)
/-- one more element: where there is room it is written, else the row is laid anew -/
theorem append_orow {A : Type} {sz : Nat} {f : A → List Value} (hf : ∀ x, (f x).length = sz) (h0 : 0 < sz) (hone : ∀ y, ∀ u ∈ f y, u.oneCell' = true) {P : Program} {w : World} {a : Option Addr} {cap : Nat} {l : List A} (s : Shp w sz l.length a cap) (h : OwnRow sz f w (gOf a) a cap l)
    (t ty e : TypeId) (i : TypeInfo) (z : Value) (bytes : Nat) (ht : P.underlying t = some (.slice e)) (hi : P.info? e = some i) (hz : i.zero = some z) (hsize : i.size = sz) (hby : i.bytes = bytes) (hzs : z.cells.size = sz)
    (ad : Addr) (c : Nat) (y : A) (hnews : ∀ j u, (f y)[j]? = some u → w.cell? (ad.add j) = some u) (h63 : l.length + 1 ≤ maxLen) (hbytes : (l.length + 1) * bytes ≤ 140737488355328) :
    ∃ a' cap' x, (Builtin.append_ #[t, t] ty #[.slice a l.length cap, .slice (some ad) 1 c]).run P w = .ok (.slice a' (l.length + 1) cap') x ∧ SlOk a' cap' (l.length + 1) ∧ Star [orow sz f a' cap' (l ++ [y])] x ∧ Fr (fps [orow sz f a cap l]) w x ∧ ∀ b ∈ fps [orow sz f a' cap' (l ++ [y])], b ∈ fps [orow sz f a cap l] ∨ w.heap.size ≤ b := by
  have hlen : (l ++ [y]).length = l.length + 1 := by simp
  have hfl : (l ++ [y]).flatMap f = l.flatMap f ++ f y := by simp
  have fin : ∀ (v' : Value) (x : World) (bs : Nat), w.heap.size ≤ bs → x.ownsRow bs e sz v' (l.length + 1) (l.flatMap f ++ f y) → ∃ a' cap', v' = .slice a' (l.length + 1) cap' ∧ SlOk a' cap' (l.length + 1) ∧ Star [orow sz f a' cap' (l ++ [y])] x ∧ ∀ b ∈ fps [orow sz f a' cap' (l ++ [y])], w.heap.size ≤ b := by
    intro v' x bs hbs ho
    have ho' : x.ownsRow bs e sz v' (l ++ [y]).length ((l ++ [y]).flatMap f) := by rw [hlen, hfl]; exact ho
    obtain ⟨a', cap', e1, st, hb⟩ := Star.of_row hf ho'
    rw [hlen] at e1
    subst e1
    obtain ⟨_, ⟨q0, q1⟩ | ⟨g, cp, cur, q1, q2, q3, q4, q5⟩⟩ := ho
    · exact absurd q1 (by omega)
    · simp only [Value.slice.injEq, true_and] at q1
      obtain ⟨rfl, rfl⟩ := q1
      refine ⟨_, _, rfl, ⟨fun q hq => ⟨g, 0, by simpa using hq.symm⟩, (fun q => by cases q), q4⟩, st, fun b hq => ?_⟩
      rw [fps_one, orow_fp] at hq
      simp only [Value.ownBlock, Option.toList, List.mem_singleton] at hq
      omega
  rcases id s with ⟨rfl, rfl, hl⟩ | ⟨g, cur, T, rfl, hg, hc, hn, hm⟩
  · have hnil : l = [] := List.eq_nil_of_length_eq_zero hl
    subst hnil
    obtain ⟨v', x, r1, r2, r3, r4⟩ := run_append_any (P := P) (w := w) w.heap.size t ty e i z sz bytes ht hi hz hsize hby hzs h0 (.slice none 0 0) 0 [] (World.ownsRow_nil w _ e sz) (some ad) 1 c (f y) (by rw [hf]; omega) (fun q => by cases q) (fun q hq => by cases hq; exact hnews) (hone y) h63 hbytes (Nat.le_refl _)
    obtain ⟨a', cap', rfl, k1, k2, k3⟩ := fin v' x _ (Nat.le_refl _) r2
    exact ⟨a', cap', x, r1, k1, k2, by rw [fps_one, orow_fp]; exact Fr.grown r3, fun b hb => .inr (k3 b hb)⟩
  · have hol : ∀ j u, (l.flatMap f)[j]? = some u → w.cell? ((⟨g, 0, none⟩ : Addr).add j) = some u := h.rows.news_any hf h0 _ rfl
    by_cases hroom : l.length + 1 ≤ cap
    · have hin : l.length * sz + sz ≤ cur.size := by rw [hc]; have := Nat.mul_le_mul_right sz hroom; rw [Nat.succ_mul] at this; exact this
      have hcl : ∀ j, j < (f y).length → (w.cell? ⟨g, 0 + l.length * i.size + j, none⟩).isSome = true := fun j hj => by
        rw [hf] at hj
        rw [hsize]
        simp [World.cell?, hg]
        omega
      have r := run_append_room_cells (P := P) (w := w) t ty e i ht hi g 0 l.length cap ad 1 c (f y) (by rw [hf, hsize]; omega) hnews (hone y) hroom hcl (fun j _ => frozen_of_block hg _)
      have hcl2 : ∀ j, j < (f y).length → (w.cell? ⟨g, l.length * sz + j, none⟩).isSome = true := fun j hj => by have := hcl j hj; rwa [hsize, Nat.zero_add] at this
      rw [hsize, Nat.zero_add] at r
      have hmem : g ∈ fps [orow sz f (some ⟨g, 0, none⟩) cap l] := by rw [fps_one, orow_fp]; simp [Value.ownBlock]
      have hlt : g < w.heap.size := (Array.getElem?_eq_some_iff.1 hg).1
      refine ⟨some ⟨g, 0, none⟩, cap, _, r, ⟨fun q hq => ⟨g, 0, by simpa using hq.symm⟩, (fun q => by cases q), hroom⟩, Star.ofOwn (by rw [hlen]; exact (Shp.sets _ _ _ s).more (by simp) hroom) ?_, Fr.sets hmem _ _ _ (Fr.refl _ _), fun b hb => .inl (by rw [fps_one, orow_fp] at hb ⊢; simpa [Value.ownBlock] using hb)⟩
      refine ⟨fun k hk => ⟨g, 0, rfl, by rw [size_setCells]; exact hlt, fun r' v hv => ?_⟩, fun _ => ⟨rfl, fun j => by rw [World.frozen?_setCells]; exact frozen_of_block hg _⟩, by rw [hlen]; exact hroom, fun q => by cases q⟩
      rw [Nat.zero_add]
      by_cases hkl : k < l.length
      · rw [List.getElem_append_left hkl] at hv
        have hr' : r' < sz := by rw [← hf l[k]]; exact (List.getElem?_eq_some_iff.1 hv).1
        have hlt2 : k * sz + r' < l.length * sz := by have := Nat.mul_le_mul_right sz (show k + 1 ≤ l.length from hkl); rw [Nat.succ_mul] at this; omega
        rw [World.cell?_setCells_out _ _ _ _ _ (fun _ _ => .inl hlt2)]
        obtain ⟨b2, off2, e2, _, hcell⟩ := h.rows k hkl
        simp only [Option.some.injEq, Addr.mk.injEq, and_true] at e2
        obtain ⟨rfl, rfl⟩ := e2
        have := hcell r' v hv
        rwa [Nat.zero_add] at this
      · obtain rfl : k = l.length := by rw [hlen] at hk; omega
        have ey : (l ++ [y])[l.length] = y := by simp
        rw [ey] at hv
        obtain ⟨hj, ev⟩ := List.getElem?_eq_some_iff.1 hv
        rw [World.cell?_setCells_in g (f y) (l.length * sz) w hcl2 r' hj, ev]
    · obtain ⟨v', x, r1, r2, r3⟩ := run_append_arg_grows (P := P) (w := w) t ty e i z sz bytes ht hi hz hsize hby hzs h0 ⟨g, 0, none⟩ l.length cap (l.flatMap f) (flat_len f sz hf l) hol ad 1 c (f y) (by rw [hf]; omega) hnews (by omega) h63 hbytes
      obtain ⟨a', cap', rfl, k1, k2, k3⟩ := fin v' x _ (Nat.le_refl _) r2
      exact ⟨a', cap', x, r1, k1, k2, (Fr.grown r3).mono (fun b hb => by simp at hb), fun b hb => .inr (k3 b hb)⟩
end Go.Proofs.YteaopalhbnhbaaaGreatDoor
