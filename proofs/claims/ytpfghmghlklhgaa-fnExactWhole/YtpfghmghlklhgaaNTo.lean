/- The contracts of the laws' helpers over nodes: sizes, copies. -/
import Derived.Test.YtpfghmghlklhgaaINode
namespace Go.Proofs.Ytpfghmghlklhgaa
open Go.ChangeShapes Go.WideShapes Go.ChangeAt Go.RowKit
set_option linter.unusedVariables false
/-- blocks from B on that were there stand -/
structure Upper (B : Nat) (w w' : World) : Prop where
  size : w.heap.size ≤ w'.heap.size
  cell : ∀ b off v, B ≤ b → w.cell? ⟨b, off, none⟩ = some v → w'.cell? ⟨b, off, none⟩ = some v
theorem Upper.refl (B : Nat) (w : World) : Upper B w w := ⟨Nat.le_refl _, fun _ _ _ _ h => h⟩
theorem Upper.trans {B : Nat} {a b c : World} (h : Upper B a b) (k : Upper B b c) : Upper B a c := ⟨Nat.le_trans h.size k.size, fun x o v hx hv => k.cell x o v hx (h.cell x o v hx hv)⟩
theorem Upper.of {B : Nat} {w w' : World} (h : Below w.heap.size w w') : Upper B w w' := ⟨h.size, fun b o v _ hv => below_keeps h _ _ hv⟩
theorem Upper.set {B : Nat} {w w' : World} (h : Upper B w w') {g o : Nat} (hg : g < B) (v : Value) : Upper B w (w'.setCell ⟨g, o, none⟩ v) :=
  ⟨by rw [size_setCell]; exact h.size, fun b f u hb hu => by rw [cell_set_other (.inl (by omega))]; exact h.cell b f u hb hu⟩
/-- where a row lies, if it is anywhere: from B on -/
def HiA (B : Nat) (a : Option Addr) : Prop := ∀ b off, a = some ⟨b, off, none⟩ → B ≤ b
theorem HiA.mono {B C : Nat} {a : Option Addr} (h : HiA B a) (hc : C ≤ B) : HiA C a := fun b off e => Nat.le_trans hc (h b off e)
theorem hi_at {B g : Nat} (h : B ≤ g) : HiA B (some ⟨g, 0, none⟩) := fun b off e => by
  simp only [Option.some.injEq, Addr.mk.injEq, and_true] at e
  omega
theorem RowAt.upper {A : Type} {sz : Nat} {f : A → List Value} {w w' : World} {a : Option Addr} {l : List A} {B : Nat} (h : RowAt sz f w a l) (ha : HiA B a) (k : Upper B w w') : RowAt sz f w' a l := fun i hi => by
  obtain ⟨b, off, e, hb, hc⟩ := h i hi
  have := k.size
  exact ⟨b, off, e, by omega, fun r v hv => k.cell _ _ _ (ha b off e) (hc r v hv)⟩
def HiP (B : Nat) (l : List Pr) : Prop := ∀ p ∈ l, HiA B p.a
theorem PeersAt.upper {w w' : World} {a : Option Addr} {l : List Pr} {B : Nat} (h : PeersAt w a l) (ha : HiA B a) (hp : HiP B l) (k : Upper B w w') : PeersAt w' a l :=
  ⟨h.row.upper ha k, fun p hm => (h.ends p hm).upper (hp p hm) k⟩
theorem RowMid.congr {g n size k : Nat} {c c' : Nat → List Value} {x : World} (h : RowMid g n size c k x) (e : ∀ i, i < k → c i = c' i) : RowMid g n size c' k x :=
  ⟨h.lt, h.there, h.free, fun i r hi hr => by rw [← e i hi]; exact h.done i r hi hr⟩
/-- sizes: what is left, and that all is small where something is -/
def SzP (left : Int) (P : Prop) (w : World) (e : Ending) (w' : World) : Prop := Below w.heap.size w w' ∧ ∃ r : Int, e = .returned (.int .i64 r) ∧ -1 ≤ r ∧ r ≤ left ∧ (0 ≤ r → P)
set_option maxHeartbeats 1000000 in
theorem szAnsweredS_any (a : Option Addr) (n : Nat) (cap : Nat) (left : Int) (w : World) (hn : n ≤ maxLen) (hl : 0 ≤ left ∧ left ≤ 1048576) :
    Calls Try.prog 24 #[.slice a n cap, .int .i64 left] w fun e w' => SzP left (n ≤ 1048576) w e w' := by
  obtain ⟨l0, l1⟩ := hl
  unfold maxLen at hn
  by_cases a1 : left - (n : Int) < 0
  · go_enter Try.func24, Try.ntmps24
    go_wp2
    go_ret
    exact ⟨Below.refl _ _, -1, rfl, by omega, by omega, fun h => by omega⟩
  · go_enter Try.func24, Try.ntmps24
    go_wp2
    go_ret
    exact ⟨Below.refl _ _, _, rfl, by omega, by omega, fun h => by omega⟩
set_option maxHeartbeats 1000000 in
theorem szPeer_any (id : Int) (a : Option Addr) (n : Nat) (cap : Nat) (sent got : Int) (left : Int) (w : World) (hn : n ≤ maxLen) (hl : 0 ≤ left ∧ left ≤ 1048576) :
    Calls Try.prog 55 #[.agg #[.int .i64 id, .slice a n cap, .int .i64 sent, .int .i64 got], .int .i64 left] w fun e w' => SzP left (n ≤ 1048576) w e w' := by
  go_enter Try.func55, Try.ntmps55
  go_wp2_with fail
  refine (szEnd_any _ n _ _ _ _ _ hn hl).mono ?_
  rintro e w1 ⟨hb1, r, rfl, hr0, hr⟩
  have HB1 : Hid _ := hide (below_trans (below_alloc (Below.refl _ _) _) hb1)
  have HR : Hid _ := hide hr
  have HL : Hid _ := hide hl
  clear hb1 hr hl
  by_cases q : r < 0
  · go_wp2
    go_ret
    exact ⟨HB1.out, -1, rfl, by omega, by have := HL.out; omega, fun h => by omega⟩
  · go_wp2
    go_ret
    exact ⟨HB1.out, r, rfl, by omega, by have := HR.out (by omega); omega, fun h => by have := HR.out h; have := HL.out; omega⟩
def SmP (l : List Pr) : Prop := ∀ p ∈ l, p.E.out.length ≤ 1048576
def SmL (l : List Pr) : Prop := l.length ≤ 1048576 ∧ SmP l
def SmN (n : Nd) : Prop := n.seen.length ≤ 1048576 ∧ SmL n.peers
def LimP (l : List Pr) : Prop := ∀ p ∈ l, p.E.out.length ≤ maxLen
set_option maxHeartbeats 2000000 in
theorem szPeerS_any (a : Option Addr) (l : List Pr) (cap : Nat) (left : Int) (w : World) (hn : l.length ≤ maxLen) (hm : LimP l) (hl : 0 ≤ left ∧ left ≤ 1048576) (h : PeersAt w a l) :
    Calls Try.prog 25 #[.slice a l.length cap, .int .i64 left] w fun e w' => SzP left (SmL l) w e w' := by
  have HL : Hid _ := hide h
  have HM : Hid _ := hide hm
  clear h hm
  obtain ⟨l0, l1⟩ := hl
  have hnn := hn
  unfold maxLen at hnn
  by_cases a1 : left - (l.length : Int) < 0
  · go_enter Try.func25, Try.ntmps25
    go_wp2
    go_ret
    exact ⟨Below.refl _ _, -1, rfl, by omega, by omega, fun h => by omega⟩
  · have hle : l.length ≤ 1048576 := by omega
    go_enter Try.func25, Try.ntmps25
    go_wp2
    go_loopw [1, 5] (fun s i wr => ∃ (k : Nat) (r : Int), k ≤ l.length ∧ i = .int .i64 (k : Int) ∧ s = .int .i64 r ∧ (0 ≤ r ∧ r ≤ left) ∧ Below w.heap.size w wr ∧ Hid (∀ j (hj : j < l.length), j < k → l[j].E.out.length ≤ 1048576)) (fun s i wr => l.length - (intOf i).toNat)
    case atStart => exact ⟨0, _, Nat.zero_le _, rfl, rfl, ⟨by omega, by omega⟩, Below.refl _ _, hide (fun j _ hj => by omega)⟩
    case round =>
      obtain ⟨k, r, hk, rfl, rfl, ⟨r0, r1⟩, HB, HS⟩ := hrel
      by_cases hlt : k < l.length
      · obtain ⟨b, off, rfl, hb, c0, c1, c2, c3⟩ := pr_row (HL.out.row.below HB) k hlt
        have hlt' : (k : Int) < (l.length : Int) := by omega
        have HLm : Hid _ := hide (HM.out (l[k]) (List.getElem_mem hlt))
        go_wp2_with fail
        refine (szPeer_any _ _ _ _ _ _ _ _ HLm.out (And.intro r0 (by omega))).mono ?_
        rintro e w1 ⟨hb1, r', rfl, hr0, hr1, hr⟩
        have HB1 : Hid _ := hide (below_trans HB hb1)
        have HR : Hid _ := hide hr
        clear hb1 hr
        by_cases q : r' < 0
        · go_wp2
          go_ret
          exact ⟨HB1.out, -1, rfl, by omega, by omega, fun h => by omega⟩
        · have HS2 : Hid (∀ j (hj : j < l.length), j < k + 1 → l[j].E.out.length ≤ 1048576) := hide (fun j hj hjk => by
            rcases Nat.lt_or_ge j k with h1 | h1
            · exact HS.out j hj h1
            · obtain rfl : j = k := by omega
              exact HR.out (by omega))
          go_wp2
          exact ⟨⟨k + 1, r', by omega, by go_num, rfl, ⟨by omega, by omega⟩, HB1.out, HS2⟩, by simp [intOf]; omega⟩
      · have hk' : ¬ (k : Int) < (l.length : Int) := by omega
        have HE : Hid (SmP l) := hide (fun p hp => by
          obtain ⟨j, hj, rfl⟩ := List.mem_iff_getElem.1 hp
          exact HS.out j hj (by omega))
        go_wp2
        go_ret
        exact ⟨HB, r, rfl, by omega, by omega, fun _ => ⟨hle, HE.out⟩⟩
set_option maxHeartbeats 2000000 in
theorem szNode_any (n : Nd) (left : Int) (w : World) (hn : n.seen.length ≤ maxLen ∧ n.peers.length ≤ maxLen ∧ LimP n.peers) (hl : 0 ≤ left ∧ left ≤ 1048576) (h : PeersAt w n.pa n.peers) :
    Calls Try.prog 8 #[.agg #[.int .i64 n.id, .int .i64 n.has, .int .i64 n.spent, .int .i64 n.earned, .slice n.sa n.seen.length n.sc, .slice n.pa n.peers.length n.pc], .int .i64 left] w fun e w' => SzP left (SmN n) w e w' := by
  have HN : Hid _ := hide hn
  have HL : Hid _ := hide hl
  have HP : Hid _ := hide h
  have HB0 : Hid (Below w.heap.size w (w.alloc (.cells #[.int .i64 n.id, .int .i64 n.has, .int .i64 n.spent, .int .i64 n.earned, .slice n.sa n.seen.length n.sc, .slice n.pa n.peers.length n.pc] 25))) := hide (below_alloc (Below.refl _ _) _)
  clear h hn hl
  go_enter Try.func8, Try.ntmps8
  go_wp2_with fail
  refine (szAnsweredS_any _ _ _ _ _ HN.out.1 HL.out).mono ?_
  rintro e w1 ⟨hb1, r, rfl, hr0, hr1, hr⟩
  have c5 := boxN (hb1.mono (by simp)) 5 _ rfl
  have HB1 : Hid _ := hide (below_trans HB0.out hb1)
  have HR : Hid _ := hide hr
  clear hb1 hr
  by_cases q : r < 0
  · go_wp2
    go_ret
    exact ⟨HB1.out, -1, rfl, by omega, by have := HL.out; omega, fun h => by omega⟩
  · go_wp2_with fail
    refine (szPeerS_any _ n.peers _ _ _ HN.out.2.1 HN.out.2.2 (And.intro (by omega) (by have := HL.out; omega)) (HP.out.below HB1.out)).mono ?_
    rintro e w2 ⟨hb2, r2, rfl, hs0, hs1, hs⟩
    have HB2 : Hid _ := hide (below_trans HB1.out hb2)
    have HS : Hid _ := hide hs
    clear hb2 hs c5
    by_cases q2 : r2 < 0
    · go_wp2
      go_ret
      exact ⟨HB2.out, -1, rfl, by omega, by have := HL.out; omega, fun h => by omega⟩
    · go_wp2
      go_ret
      exact ⟨HB2.out, r2, rfl, by omega, by omega, fun h => ⟨HR.out (by omega), HS.out h⟩⟩
end Go.Proofs.Ytpfghmghlklhgaa
