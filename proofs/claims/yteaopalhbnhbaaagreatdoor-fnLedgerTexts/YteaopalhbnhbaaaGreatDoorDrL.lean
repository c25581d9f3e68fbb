/- Drawn ledgers and drawn texts of ledgers. -/
import Derived.Test.YteaopalhbnhbaaaGreatDoorDnL
import Derived.Test.YteaopalhbnhbaaaGreatDoorGl
import Derived.Test.YteaopalhbnhbaaaGreatDoorH7
import Derived.Test.YteaopalhbnhbaaaGreatDoorLtS
import Derived.Test.YteaopalhbnhbaaaGreatDoorLdR
namespace Go.Proofs.YteaopalhbnhbaaaGreatDoor
open Go.ChangeShapes Go.WideShapes Go.ChangeAt Go.RowKit
set_option linter.unusedVariables false
set_option maxRecDepth 100000
theorem tok_pool {w x : World} {S : List (List Rs)} (h : Pool [] w S x) (i : Nat) (hi : S[i]? = some []) {y : World} (hy : Rd x.heap.size y) (b : Below x.heap.size x y) : Pool [] w (S.set i [tok x.heap.size]) y :=
  h.new hi b (Star.one trivial (by simp [tok]) (fun b hb => by simp only [tok, List.mem_singleton] at hb; subst hb; exact hy.lt)) (fun c hc => by simp only [fps_one, tok, List.mem_singleton] at hc; omega)
theorem Pool.readL {F : List Nat} {w x y : World} {S : List (List Rs)} {B i : Nat} {p : LP} {D : Led} (h : Pool F w S x) (hi : S[i]? = some [tok B]) (k : RP B x [ledL p D] y) : Pool F w (S.set i ([tok B] ++ ledL p D)) y := by
  refine h.call hi ?_
  have e : fps [tok B] = [B] := by simp [fps, tok]
  rw [e]
  exact k.p.cast (by simp)
theorem Pool.ledAt {F : List Nat} {w x : World} {S : List (List Rs)} {i : Nat} {p : LP} {L : Led} (h : Pool F w S x) (hi : S[i]? = some (ledL p L)) (hw : LedW L) : LedAt x p.aa p.ha p.sa L := by
  have st := h.get hi
  exact ⟨(st.get (r := orow 4 accCells p.aa p.ca L.acc) (by simp [ledL])).2.rows.acc hw.acc, (st.get (r := orow 4 hldCells p.ha p.ch L.hold) (by simp [ledL])).2.rows.hold hw.hold, (st.get (r := orow 2 snCells p.sa p.cs L.seen) (by simp [ledL])).2.rows.ans hw.seen⟩
def DlEnd (w : World) (e : Ending) (w' : World) : Prop := ∃ (p : LP) (D : Led), LedF D ∧ e = .returned (ledV p D) ∧ Pool [] w [ledL p D] w'
def DmEnd (w : World) (e : Ending) (w' : World) : Prop := (∃ l : List UInt8, l.length ≤ 100000 ∧ e = .returned (.string (bs l))) ∧ Below w.heap.size w w'
set_option maxHeartbeats 4000000 in
theorem drawLedgerText_any (a0 : Option Addr) (len cap : Nat) (w : World) (h : IsCode w a0 len) : Calls Tryz.prog 6 #[.slice a0 len cap] w fun e w' => DlEnd w e w' := by
  have H : Hid _ := hide h
  clear h
  go_enter Tryz.func6, Tryz.ntmps6
  go_wp2_with fail
  refine cnm_calls (fun W2 hW2 => ?_)
  have HP0 : Hid (Pool [] w [[], [blk w.heap.size [.slice none 0 0, .slice none 0 0, .slice none 0 0]]] W2) := hide (by
    have p1 := (Pool.start w [[], []] rfl).newBlk (i := 1) rfl [.slice none 0 0, .slice none 0 0, .slice none 0 0] 28
    rw [hW2]; exact p1)
  clear hW2
  refine (l1Open_any a0 len cap W2).mono ?_
  rintro e w3 ⟨rfl, hw3⟩
  have hrd : Rd W2.heap.size w3 := by rw [hw3]; exact rd_open (H.out.below HP0.out.below)
  have hb3 : Below W2.heap.size W2 w3 := by rw [hw3]; exact below_alloc (Below.refl _ _) _
  have hp3 := tok_pool HP0.out 0 rfl hrd hb3
  obtain ⟨B, hB⟩ : ∃ B, B = W2.heap.size := ⟨_, rfl⟩
  rw [← hB] at hrd hp3 ⊢
  have HP3 : Hid (Pool [] w [[tok B], [blk w.heap.size [.slice none 0 0, .slice none 0 0, .slice none 0 0]]] w3) := hide hp3
  have HR3 : Hid (Rd B w3) := hide hrd
  clear hrd hw3 hB HP0 hp3 hb3 H
  go_wp2_with fail
  refine (dledger_any B 14 w3 HR3.out (by omega) (by omega)).mono ?_
  rintro e w4 ⟨p, D, rfl, hpk, hf, hrp⟩
  have HF : Hid (LedF D) := hide hf
  have HP4 : Hid (Pool [] w [[tok B] ++ ledL p D, [blk w.heap.size [.slice none 0 0, .slice none 0 0, .slice none 0 0]]] w4) := hide (HP3.out.readL (i := 0) rfl hrp)
  clear hpk hf hrp HP3 HR3
  obtain ⟨⟨z0, z1, z2⟩, y0, y1, y2⟩ := HP4.out.cells3 (i := 1) rfl
  have p1 := HP4.out.setN3 (i := 1) rfl (.slice p.aa D.acc.length p.ca) (.slice p.ha D.hold.length p.ch) (.slice p.sa D.seen.length p.cs)
  obtain ⟨⟨x0, x1, x2⟩, _⟩ := p1.cells3 (i := 1) rfl
  have HB : Hid (Pool [] w [ledL p D] _) := hide ((((p1.drop (i := 1) rfl).cast (S' := [[tok B], ledL p D]) (by simp)).drop (i := 0) rfl).cast (by simp))
  clear p1
  unfold ledV
  go_wp2_with fail
  refine bodyPost_ret (v := ledV p D) (by simp [results, Tryz.results6, go_sem, x0, x1, x2, ledV]) rfl ⟨p, D, HF.out, rfl, HB.out⟩
theorem ledT_lb (L : Led) : (ledT L).length ≤ 6000 := by
  unfold ledT
  split
  · rename_i h; exact body_len h _ _ _
  · simp
set_option maxHeartbeats 4000000 in
theorem drawReadLedger_any (a0 : Option Addr) (len cap : Nat) (w : World) (h : IsCode w a0 len) : Calls Tryz.prog 12 #[.slice a0 len cap] w fun e w' => DmEnd w e w' := by
  have H : Hid _ := hide h
  clear h
  go_enter Tryz.func12, Tryz.ntmps12
  go_wp2_with fail
  refine (l1Open_any a0 len cap w).mono ?_
  rintro e w3 ⟨rfl, hw3⟩
  have hrd : Rd w.heap.size w3 := by rw [hw3]; exact rd_open H.out
  have hb3 : Below w.heap.size w w3 := by rw [hw3]; exact below_alloc (Below.refl _ _) _
  have hp3 := tok_pool (Pool.start w [[]] rfl) 0 rfl hrd hb3
  obtain ⟨B, hB⟩ : ∃ B, B = w.heap.size := ⟨_, rfl⟩
  rw [← hB] at hrd hp3 ⊢
  have HP3 : Hid (Pool [] w [[tok B]] w3) := hide hp3
  have HR3 : Hid (Rd B w3) := hide hrd
  clear hrd hw3 hB hp3 hb3 H
  go_wp2_with fail
  refine (dledger_any B 10 w3 HR3.out (by omega) (by omega)).mono ?_
  rintro e w4 ⟨p, D, rfl, hpk, hf, hrp⟩
  have HF : Hid (LedF D) := hide hf
  have HRd : Hid (Rd B w4) := hide hrp.rd
  have HP4 : Hid (Pool [] w [[tok B], ledL p D] w4) := hide ((HP3.out.readL (i := 0) rfl hrp).cast (by simp))
  clear hpk hf hrp HP3 HR3
  unfold ledV
  go_wp2_with fail
  refine (specLedText_any p.aa p.ha p.sa D p.ca p.ch p.cs _ (HP4.out.ledAt (i := 1) rfl HF.out.w) (by have := HF.out.a; omega) (by have := HF.out.h; omega) (by have := HF.out.s; omega)).mono ?_
  rintro e w6 ⟨rfl, hb6⟩
  have HP6 : Hid (Pool [] w [[tok B], ledL p D] w6) := hide (HP4.out.keep hb6)
  have HR6 : Hid (Rd B w6) := hide (HRd.out.below (hb6.mono HRd.out.lt))
  have hlen := ledT_lb D
  obtain ⟨T, hT⟩ : ∃ T, T = ledT D := ⟨_, rfl⟩
  rw [← hT] at hlen ⊢
  clear hb6 HP4 HRd hT
  go_wp2_with fail
  refine (hurt_any B (bs T) w6 HR6.out (by rw [bs_size]; omega)).mono ?_
  rintro e w7 ⟨⟨s, hs, rfl⟩, hr7, ha7⟩
  have HB : Hid (Below w.heap.size w w7) := hide (by
    have q := HP6.out.step (i := 0) (rs' := [tok B]) rfl ⟨ha7.os, ha7.tape, ha7.output, ha7.size, fun k hk hn => ha7.block k hk (fun e => hn (by simp [fps, tok, e]))⟩ (Star.one trivial (by simp [tok]) (fun b hb => by simp only [tok, List.mem_singleton] at hb; subst hb; exact hr7.lt)) (fun b hb => .inl hb)
    exact q.below)
  have HS : Hid (s.size ≤ 6002) := hide (by rw [bs_size] at hs; omega)
  clear hs hr7 ha7 HP6 HR6
  go_wp2_with fail
  go_ret
  exact ⟨⟨s.data.toList, by have := list_size s; have := HS.out; omega, by rw [← bs_of (r := s) rfl]; rfl⟩, HB.out⟩
end Go.Proofs.YteaopalhbnhbaaaGreatDoor
