/- The contracts of the model's l4Up, l4Path and PathOf. -/
import Derived.Test.YtfkadhkgpfembaaPMath
namespace Go.Proofs.Ytfkadhkgpfembaa
open Go.ChangeShapes Go.WideShapes Go.ChangeAt Go.RowKit
set_option linter.unusedVariables false
theorem info2 : (Try.prog.info? 2).map (fun i => (i.zero, i.size, i.bytes)) = some (some (.int .i64 0), 1, 8) := by kernel_rfl
theorem row_shape {w : World} {base : Nat} {e : TypeId} {size : Nat} {v : Value} {n : Nat} {xs : List Value} (h : w.ownsRow base e size v n xs) : ∃ a c, v = .slice a n c := by
  obtain ⟨_, ⟨h0, h1⟩ | ⟨g, cap, cur, h1, _⟩⟩ := h
  · exact ⟨none, 0, by rw [h0, h1]⟩
  · exact ⟨_, _, h1⟩
theorem own_keep {x y : World} {base : Nat} {e : TypeId} {sz : Nat} {v : Value} {n : Nat} {xs : List Value} (h : x.ownsRow base e sz v n xs) (b : Below x.heap.size x y) : y.ownsRow base e sz v n xs := by
  obtain ⟨hl, ⟨h0, h1⟩ | ⟨g, cap, cur, h1, hb, hg, r⟩⟩ := h
  · exact ⟨hl, .inl ⟨h0, h1⟩⟩
  · exact ⟨hl, .inr ⟨g, cap, cur, h1, hb, (b.block g (Array.getElem?_eq_some_iff.1 hg).1).trans hg, r⟩⟩
theorem own_base {x : World} {base : Nat} {e : TypeId} {sz : Nat} {v : Value} {n : Nat} {xs : List Value} (h : x.ownsRow base e sz v n xs) : ∀ g, v.ownBlock = some g → base ≤ g := by
  intro g hg
  obtain ⟨hl, ⟨h0, h1⟩ | ⟨g', cap, cur, h1, hb, _⟩⟩ := h
  · rw [h0] at hg; cases hg
  · rw [h1] at hg
    simp only [Value.ownBlock, Option.some.injEq] at hg
    omega
theorem int_flat (l : List Int) : (l.flatMap intCells).length = l.length := by rw [flat_len intCells 1 intLen, Nat.mul_one]
def RowEnd (l : List Int) (w : World) (e : Ending) (w' : World) : Prop := Below w.heap.size w w' ∧ ∃ v, e = .returned v ∧ NewRow 1 intCells l w v w'
set_option maxRecDepth 100000 in
set_option maxHeartbeats 4000000 in
theorem l4Up_any (a : Option Addr) (l : List Slt) (cap : Nat) (id : Int) (w : World) (q : rightsB l = true) (hi : InL l id) (h : SlotAt w a l) :
    Calls Try.prog 36 #[.slice a l.length cap, .int .i64 id] w fun e w' => RowEnd (ch l id) w e w' := by
  obtain ⟨i0, hinfo, hz0, hz1, hz2⟩ := info_parts info2
  have hu40 : Try.prog.underlying 48 = some (.slice 2) := by kernel_rfl
  have HC : Hid _ := hide h
  have HQ : Hid _ := hide q
  have HI : Hid _ := hide hi
  have h8 : l.length ≤ 8 := (rightsB_small q).1
  clear h q hi
  go_enter Try.func36, Try.ntmps36
  go_wp2
  go_loopw [1, 5] (fun s1 s5 wr => ∃ (cur : Int) (p : List Int), s1 = .int .i64 cur ∧ Hid (InL l cur ∨ cur = 0) ∧ Hid (p ++ ch l cur = ch l id) ∧ Hid (wr.ownsRow w.heap.size 2 1 s5 p.length (p.flatMap intCells)) ∧ Hid (Below w.heap.size w wr)) (fun s1 s5 wr => (intOf s1).toNat)
  case atStart => exact ⟨id, [], rfl, hide (.inl HI.out), hide rfl, hide (World.ownsRow_made w #[] 0 (Nat.le_refl _) (by unfold maxLen; omega) rfl), hide (below_alloc (Below.refl _ _) _)⟩
  case round =>
    obtain ⟨cur, p, rfl, HI2, HP, HO, HB⟩ := hrel
    by_cases hc0 : cur = 0
    · have hcb : (cur != 0) = false := by simp [hc0]
      have HE : Hid (p = ch l id) := hide (by have := HP.out; rw [hc0, ch_zero, List.append_nil] at this; exact this)
      clear hc0
      obtain ⟨va, vc, rfl⟩ := row_shape HO.out
      have HF : Hid (RowEnd (ch l id) w (.returned (.slice va p.length vc)) wr) := hide ⟨HB.out, _, rfl, own_of_row intLen (by have := HO.out; rw [HE.out] at this ⊢; exact this)⟩
      go_wp2
      go_ret
      exact HF.out
    · have hcb : (cur != 0) = true := by simp [hc0]
      have hin : InL l cur := by rcases HI2.out with h1 | h1; exact h1; exact absurd h1 hc0
      have HIN : Hid _ := hide hin
      have hlen : p.length ≤ 1000000000 := by
        have e := congrArg List.length HP.out
        rw [List.length_append] at e
        have := ch_len HQ.out id.toNat id (Nat.le_refl _) (.inl HI.out)
        have := HI.out.pos HQ.out
        omega
      obtain ⟨i, hil, hp, hid⟩ := hin
      have hil' : (i : Int) < (l.length : Int) := by omega
      have HUP : Hid _ := hide (upL_at hil hp)
      obtain ⟨va, vc, rfl⟩ := row_shape HO.out
      clear hid hc0
      go_wp2_with (first | (at_builtin; refine Shut2.mk ?_) | fail)
      refine Shut2.mk' ?_
      refine wpList_append_own_at _ rfl _ _ 48 rfl w.heap.size 2 i0 _ 1 8 hu40 hinfo hz0 hz1 hz2 rfl (by decide) (.slice va p.length vc) p.length (p.flatMap intCells) rfl ?own ⟨wr.heap.size, 0, none⟩ 1 1 [.int .i64 cur] rfl rfl ?news (int_one [cur]) (by unfold maxLen; omega) (by omega) ?base ?_
      case own => exact own_keep HO.out (below_alloc (Below.refl _ _) _)
      case news => exact cell_one_new _ _ _
      case base => have := HB.out.size; simp; omega
      intro v' w' ho' hg' _ _
      have HB' : Hid (Below w.heap.size w w') := hide ((HB.out.alloc HB.out.size _).grown hg' (by have := HB.out.size; simp; omega) (own_base HO.out))
      have HO' : Hid (w'.ownsRow w.heap.size 2 1 v' (p ++ [cur]).length ((p ++ [cur]).flatMap intCells)) := hide (by simpa [intCells] using ho')
      clear ho' hg'
      go_wp2_with fail
      refine (l4Find_any a l cap cur w' (by omega) (HC.out.below HB'.out)).mono ?_
      rw [hp]
      rintro e w2 ⟨rfl, hw2⟩
      have hw3 := hw2.symm
      subst hw3
      clear hp
      obtain ⟨b, off, rfl, hb, c0, c1, c2, _⟩ := (HC.out.below HB'.out) i hil
      have HN : Hid (InL l (l[i]).up ∨ (l[i]).up = 0) := hide (by
        have hu := (HIN.out.up HQ.out).2
        rw [HUP.out] at hu
        rcases hu with ⟨h0, _⟩ | h0
        · exact .inr h0
        · exact .inl h0)
      have HP2 : Hid ((p ++ [cur]) ++ ch l (l[i]).up = ch l id) := hide (by
        have := HP.out
        rw [ch_cons HQ.out HIN.out, HUP.out] at this
        rw [← this]; simp)
      have HLT : Hid ((l[i]).up < cur ∧ 1 ≤ cur) := hide ⟨by have := (HIN.out.up HQ.out).1; rw [HUP.out] at this; exact this, (HIN.out.pos HQ.out).1⟩
      go_wp2
      exact ⟨⟨_, p ++ [cur], rfl, HN, HP2, HO', HB'⟩, by have := HLT.out; simp [intOf]; omega⟩
end Go.Proofs.Ytfkadhkgpfembaa
