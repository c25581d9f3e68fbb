/- The contracts of the model's small functions of disks: l8Name, l8At, l8Cut, l8Put, l8Files, l8Form, l8Same. -/
import Derived.Test.YtiilkkdbifhojaaDkD
namespace Go.Proofs.Ytiilkkdbifhojaa
open Go.ChangeShapes Go.WideShapes Go.ChangeAt Go.RowKit
set_option linter.unusedVariables false
set_option maxRecDepth 100000
theorem infoF : (Try.prog.info? 52).map (fun i => (i.zero, i.size, i.bytes)) = some (some (.agg #[.string ByteArray.empty, .string ByteArray.empty]), 2, 32) := by kernel_rfl
theorem huF : Try.prog.underlying 24 = some (.slice 52) := by kernel_rfl
theorem l8Name_any (s : ByteArray) (w : World) (h : s.size ≤ 4194304) :
    Calls Try.prog 46 #[.string s] w fun e w' => e = .returned (.bool (nmB s)) ∧ w' = w := by
  by_cases h1 : (1 : Int) ≤ (s.size : Int)
  · by_cases h2 : (s.size : Int) ≤ 100
    · have HR : Hid (nmB s = true) := hide (by simp [nmB, inB]; omega)
      go_enter Try.func46, Try.ntmps46
      go_wp2
      go_ret
      exact ⟨by rw [HR.out]; rfl, rfl⟩
    · have HR : Hid (nmB s = false) := hide (by simp [nmB, inB]; omega)
      go_enter Try.func46, Try.ntmps46
      go_wp2
      go_ret
      exact ⟨by rw [HR.out]; rfl, rfl⟩
  · have HR : Hid (nmB s = false) := hide (by simp [nmB, inB]; omega)
    go_enter Try.func46, Try.ntmps46
    go_wp2
    go_ret
    exact ⟨by rw [HR.out]; rfl, rfl⟩
set_option maxHeartbeats 1000000 in
theorem l8At_any (a : Option Addr) (l : List Fl) (cap : Nat) (nm : ByteArray) (w : World) (hl : l.length ≤ 1048576) (h : RowAt 2 flCells w a l) :
    Calls Try.prog 47 #[.slice a l.length cap, .string nm] w fun e w' => e = .returned (.int .i64 (ixV (atL l nm))) ∧ w' = w := by
  have HC : Hid _ := hide h
  clear h
  go_enter Try.func47, Try.ntmps47
  go_wp2
  go_loop [5] (fun i => ∃ k : Nat, k ≤ l.length ∧ i = .int .i64 (k : Int) ∧ Hid (∀ j (hj : j < l.length), j < k → (l[j]).nm ≠ nm)) (fun i => l.length - (intOf i).toNat)
  case atStart => exact ⟨0, Nat.zero_le _, rfl, hide (fun j _ hj => by omega)⟩
  case round =>
    obtain ⟨k, hk, rfl, HN⟩ := hrel
    by_cases hlt : k < l.length
    · obtain ⟨b, off, rfl, hb, c0, c1⟩ := fl_row HC.out k hlt
      have hlt' : (k : Int) < (l.length : Int) := by omega
      cases hq : ((l[k]).nm.toList == nm.toList)
      · have HN2 : Hid (∀ j (hj : j < l.length), j < k + 1 → (l[j]).nm ≠ nm) := hide (fun j hj hjk => by
          rcases Nat.lt_or_ge j k with h | h
          · exact HN.out j hj h
          · obtain rfl : j = k := by omega
            intro e; rw [beq_bytes.2 e] at hq; cases hq)
        go_wp2
        exact ⟨⟨k + 1, by omega, by go_num, HN2⟩, by simp [intOf]; omega⟩
      · have HE : Hid (ixV (atL l nm) = (k : Int)) := hide (by rw [at_hit hlt (beq_bytes.1 hq) HN.out]; rfl)
        go_wp2
        go_ret
        exact ⟨by rw [HE.out]; rfl, rfl⟩
    · have hk' : ¬ (k : Int) < (l.length : Int) := by omega
      have HE : Hid (ixV (atL l nm) = -1) := hide (by rw [at_miss (fun j hj => HN.out j hj (by omega))]; rfl)
      go_wp2
      go_ret
      exact ⟨by rw [HE.out]; rfl, rfl⟩
/-- a new list of files -/
def NewF (l : List Fl) (w : World) (e : Ending) (w' : World) : Prop := Below w.heap.size w w' ∧ ∃ v, e = .returned v ∧ w'.ownsRow w.heap.size 52 2 v l.length (l.flatMap flCells)
theorem newF_of {l : List Fl} {w w' : World} {v : Value} (hb : Below w.heap.size w w') (h : w'.ownsRow w.heap.size 52 2 v l.length (l.flatMap flCells)) : NewF l w (.returned v) w' := ⟨hb, v, rfl, h⟩
theorem own_read {l : List Fl} {w : World} {base : Nat} {v : Value} (h : w.ownsRow base 52 2 v l.length (l.flatMap flCells)) : ∃ a cap, v = .slice a l.length cap ∧ RowAt 2 flCells w a l ∧ (a = none → cap = 0) := by
  obtain ⟨g, a, cap, _, e, ho⟩ := own_of_row flLen h
  refine ⟨a, cap, e, ho.rows, fun ha => ?_⟩
  obtain ⟨_, ⟨h0, h1⟩ | ⟨g', cap', cur, h1, _⟩⟩ := h
  · rw [e] at h0; simp only [Value.slice.injEq] at h0; exact h0.2.2
  · rw [e, ha] at h1; simp at h1
theorem wpList_append_any {P : Program} {w : World} {ops : Array Oper} {rest : List Oper} {o : Oper} {a : Act} {Q : Exit → Act → World → Prop} (hgd : o.guard = none) (s x : Operand) (t : TypeId)
    (ho : o.op = .call { callee := .builtin .append, args := #[s, x], argTypes := #[t, t] })
    (base : Nat) (e : TypeId) (i : TypeInfo) (z : Value) (size bytes : Nat) (ht : P.underlying t = some (.slice e)) (hi : P.info? e = some i) (hz : i.zero = some z)
    (hsize : i.size = size) (hby : i.bytes = bytes) (hzs : z.cells.size = size) (hsz : 0 < size)
    (v : Value) (n : Nat) (xs : List Value) (hs : a.eval s = v) (hown : w.ownsRow base e size v n xs)
    (ao : Option Addr) (m c : Nat) (news : List Value) (hx : a.eval x = .slice ao m c) (hl : news.length = m * size) (hnone : ao = none → m = 0 ∧ c = 0) (hnews : ∀ ad, ao = some ad → ∀ j u, news[j]? = some u → w.cell? (ad.add j) = some u) (h1 : ∀ u ∈ news, u.oneCell' = true)
    (h63 : n + m ≤ maxLen) (hbytes : (n + m) * bytes ≤ 140737488355328) (hbase : base ≤ w.heap.size)
    (h : ∀ v' w', w'.ownsRow base e size v' (n + m) (xs ++ news) → w.grownBy w' v.ownBlock → (v'.ownBlock = v.ownBlock ∨ v'.ownBlock = some w.heap.size) → wpList P ops Q rest (a.put o.dst v') w') :
    wpList P ops Q (o :: rest) a w := by
  refine wpList_plain hgd fun K hK => ?_
  obtain ⟨v', w', hr, h2, h3, h4⟩ := run_append_any (P := P) (w := w) base t o.type e i z size bytes ht hi hz hsize hby hzs hsz v n xs hown ao m c news hl hnone hnews h1 h63 hbytes hbase
  unfold Oper.wp
  rw [exec_append ho hs hx hr]
  exact hK _ _ (h v' w' h2 h3 h4)
set_option maxHeartbeats 2000000 in
theorem l8Cut_any (a : Option Addr) (l : List Fl) (cap : Nat) (nm : ByteArray) (w : World) (hl : l.length ≤ 1048576) (h : RowAt 2 flCells w a l) :
    Calls Try.prog 49 #[.slice a l.length cap, .string nm] w fun e w' => NewF (cutL l nm) w e w' := by
  have HC : Hid _ := hide h
  clear h
  obtain ⟨i0, hi0, hz0, hz1, hz2⟩ := info_parts infoF
  have hu := huF
  go_enter Try.func49, Try.ntmps49
  go_wp2
  go_loopw [5, 6] (fun v i wr => ∃ k : Nat, k ≤ l.length ∧ i = .int .i64 (k : Int) ∧ Hid (Below w.heap.size w wr) ∧ Hid (wr.ownsRow w.heap.size 52 2 v (cutL (l.take k) nm).length ((cutL (l.take k) nm).flatMap flCells))) (fun v i wr => l.length - (intOf i).toNat)
  case atStart => exact ⟨0, Nat.zero_le _, rfl, hide (below_alloc (Below.refl _ _) _), hide (World.ownsRow_made w #[] 0 (Nat.le_refl _) (by unfold maxLen; omega) rfl)⟩
  case round =>
    obtain ⟨k, hk, rfl, HX, HO⟩ := hrel
    obtain ⟨va, vc, rfl⟩ := row_shape HO.out
    by_cases hlt : k < l.length
    · have hlt' : (k : Int) < (l.length : Int) := by omega
      obtain ⟨b, off, rfl, hb, c0, c1⟩ := fl_row (HC.out.below HX.out) k hlt
      have HNX : Hid _ := hide (cutL_next l nm k hlt)
      have HLN : Hid ((cutL (l.take k) nm).length ≤ 1048576) := hide (Nat.le_trans (cutL_len _ _) (by rw [List.length_take]; omega))
      cases hq : ((l[k]).nm.toList == nm.toList)
      · go_wp2_with (first | (at_builtin; refine Shut2.mk ?_) | fail)
        refine Shut2.mk' ?_
        refine wpList_append_own_at _ rfl _ _ 24 rfl w.heap.size 52 i0 _ 2 32 hu hi0 hz0 hz1 hz2 rfl (by decide) (.slice va (cutL (l.take k) nm).length vc) (cutL (l.take k) nm).length ((cutL (l.take k) nm).flatMap flCells) rfl ?own ⟨wr.heap.size, 0, none⟩ 1 1 [.string l[k].nm, .string l[k].da] rfl rfl ?news (by simp [Value.oneCell']) (by have := HLN.out; unfold maxLen; omega) (by have := HLN.out; omega) ?base ?_
        case own => exact own_keep HO.out (below_alloc (Below.refl _ _) _)
        case news => exact news2 (World.cell?_alloc_at _ _ _ _ rfl) (World.cell?_alloc_at _ _ _ _ rfl)
        case base => have := HX.out.size; simp; omega
        intro v6 w6 ho6 hg6 _ _
        have hnx := HNX.out
        rw [hq] at hnx
        simp only [Bool.false_eq_true, if_false] at hnx
        have HO6 : Hid (w6.ownsRow w.heap.size 52 2 v6 (cutL (l.take (k + 1)) nm).length ((cutL (l.take (k + 1)) nm).flatMap flCells)) := hide (by
          rw [hnx, List.flatMap_append]
          simpa [flCells] using ho6)
        have HX6 : Hid (Below w.heap.size w w6) := hide ((below_alloc HX.out _).grown hg6 (by have := HX.out.size; simp; omega) (fun j hj => own_base HO.out j hj))
        clear hnx HNX HO ho6 hg6 HX
        go_wp2
        exact ⟨⟨k + 1, by omega, by go_num, HX6, HO6⟩, by simp [intOf]; omega⟩
      · have hnx := HNX.out
        rw [hq] at hnx
        simp only [if_true, List.append_nil] at hnx
        have HO5 : Hid (wr.ownsRow w.heap.size 52 2 (.slice va (cutL (l.take k) nm).length vc) (cutL (l.take (k + 1)) nm).length ((cutL (l.take (k + 1)) nm).flatMap flCells)) := hide (by rw [hnx]; exact HO.out)
        clear hnx HNX HO
        go_wp2
        exact ⟨⟨k + 1, by omega, by go_num, HX, HO5⟩, by simp [intOf]; omega⟩
    · have hlt' : ¬ (k : Int) < (l.length : Int) := by omega
      have HE : Hid (NewF (cutL l nm) w (.returned (.slice va (cutL (l.take k) nm).length vc)) wr) := hide (newF_of HX.out (by
        have := HO.out
        rw [List.take_of_length_le (by omega)] at this
        rw [List.take_of_length_le (by omega)]
        exact this))
      go_wp2
      go_ret
      exact HE.out
end Go.Proofs.Ytiilkkdbifhojaa
