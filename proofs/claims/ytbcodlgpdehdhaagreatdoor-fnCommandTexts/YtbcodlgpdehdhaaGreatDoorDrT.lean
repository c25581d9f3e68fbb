/- Drawn commands and drawn texts. -/
import Derived.Test.YtbcodlgpdehdhaaGreatDoorDnL
import Derived.Test.YtbcodlgpdehdhaaGreatDoorGl
import Derived.Test.YtbcodlgpdehdhaaGreatDoorRd4
import Derived.Test.YtbcodlgpdehdhaaGreatDoorGo
namespace Go.Proofs.YtbcodlgpdehdhaaGreatDoor
open Go.ChangeShapes Go.WideShapes Go.ChangeAt Go.RowKit
set_option linter.unusedVariables false
set_option maxRecDepth 100000
theorem Pool.read {F : List Nat} {w x y : World} {S : List (List Rs)} {B i : Nat} (h : Pool F w S x) (hi : S[i]? = some [tok B]) (hr : Rd B y) (ha : Aprt B x y) : Pool F w S y := by
  have := h.step hi (rs' := [tok B]) ⟨ha.os, ha.tape, ha.output, ha.size, fun k hk hn => ha.block k hk (fun e => hn (by simp [fps, tok, e]))⟩ (Star.one trivial (by simp [tok]) (fun b hb => by simp only [tok, List.mem_singleton] at hb; subst hb; exact hr.lt)) (fun b hb => .inl hb)
  obtain ⟨hl, e⟩ := List.getElem?_eq_some_iff.1 hi
  have e2 : S.set i [tok B] = S := by rw [← e]; exact List.set_getElem_self hl
  rwa [e2] at this
theorem RP.holds {B : Nat} {w x : World} {p : LP} {D : Led} (h : RP B w [ledL p D] x) : ∀ y, Aprt B x y → RowAt 4 hldCells y p.ha D.hold := fun y ha => by
  have s := h.get (i := 0) rfl
  have f := h.far (i := 0) rfl
  exact (s.keep (F := [B]) (⟨ha.os, ha.tape, ha.output, ha.size, fun k hk hn => ha.block k hk (by simpa using hn)⟩) (fun b hb q => by have := f b hb; simp only [List.mem_singleton] at q; omega)).hold_row
def DcEnd (w : World) (e : Ending) (w' : World) : Prop := (∃ c : Cm, c.fr.size ≤ 8 ∧ c.«to».size ≤ 8 ∧ e = .returned c.v) ∧ Below w.heap.size w w'
def DtEnd (w : World) (e : Ending) (w' : World) : Prop := (∃ l : List UInt8, l.length ≤ 1000 ∧ e = .returned (.string (bs l))) ∧ Below w.heap.size w w'
theorem tok_pool {w x : World} {a0 : Option Addr} {len cap : Nat} {S : List (List Rs)} (h : Pool [] w S x) (i : Nat) (hi : S[i]? = some []) {y : World} (hy : Rd x.heap.size y) (b : Below x.heap.size x y) : Pool [] w (S.set i [tok x.heap.size]) y :=
  h.new hi b (Star.one trivial (by simp [tok]) (fun b hb => by simp only [tok, List.mem_singleton] at hb; subst hb; exact hy.lt)) (fun c hc => by simp only [fps_one, tok, List.mem_singleton] at hc; omega)
set_option maxHeartbeats 4000000 in
theorem drawCommandText_any (a0 : Option Addr) (len cap : Nat) (w : World) (h : IsCode w a0 len) : Calls Tryz.prog 5 #[.slice a0 len cap] w fun e w' => DcEnd w e w' := by
  have H : Hid _ := hide h
  clear h
  go_enter Tryz.func5, Tryz.ntmps5
  go_wp2_with fail
  refine cnm_calls (fun W2 hW2 => ?_)
  have HP0 : Hid (Pool [] w [[], [blk w.heap.size [.int .i64 0, .int .i64 0, .string ⟨#[]⟩, .string ⟨#[]⟩, .int .i64 0, .int .i64 0]]] W2) := hide (by
    have p1 := (Pool.start w [[], []] rfl).newBlk (i := 1) rfl [.int .i64 0, .int .i64 0, .string ⟨#[]⟩, .string ⟨#[]⟩, .int .i64 0, .int .i64 0] 25
    rw [hW2]; exact p1)
  clear hW2
  refine (l1Open_any a0 len cap W2).mono ?_
  rintro e w3 ⟨rfl, hw3⟩
  have hrd : Rd W2.heap.size w3 := by rw [hw3]; exact rd_open (H.out.below HP0.out.below)
  have hb3 : Below W2.heap.size W2 w3 := by rw [hw3]; exact below_alloc (Below.refl _ _) _
  have hp3 := tok_pool (a0 := a0) (len := len) (cap := cap) HP0.out 0 rfl hrd hb3
  obtain ⟨B, hB⟩ : ∃ B, B = W2.heap.size := ⟨_, rfl⟩
  rw [← hB] at hrd hp3 ⊢
  have HP3 : Hid (Pool [] w [[tok B], [blk w.heap.size [.int .i64 0, .int .i64 0, .string ⟨#[]⟩, .string ⟨#[]⟩, .int .i64 0, .int .i64 0]]] w3) := hide hp3
  have HR3 : Hid (Rd B w3) := hide hrd
  clear hrd hw3 hB HP0 hp3 hb3 H
  go_wp2_with fail
  refine (dledger_any B 6 w3 HR3.out (by omega) (by omega)).mono ?_
  rintro e w4 ⟨p, D, rfl, hpk, hf, hrp⟩
  have HF : Hid (LedF D) := hide hf
  have HRP : Hid _ := hide hrp
  have HP4 : Hid (Pool [] w [[tok B], [blk w.heap.size [.int .i64 0, .int .i64 0, .string ⟨#[]⟩, .string ⟨#[]⟩, .int .i64 0, .int .i64 0]]] w4) := hide (HP3.out.read (i := 0) rfl hrp.rd hrp.apart)
  clear hpk hf hrp HP3 HR3
  go_wp2_with fail
  refine (command_any B p D w4 HRP.out.rd (by have := HF.out.a; omega) (by have := HF.out.h; omega) HRP.out.holds).mono ?_
  rintro e w5 ⟨⟨c, hcf, hct, rfl⟩, hr5, ha5⟩
  have HC : Hid (c.fr.size ≤ 8 ∧ c.«to».size ≤ 8) := hide ⟨hcf, hct⟩
  have HP5 : Hid (Pool [] w [[tok B], [blk w.heap.size [.int .i64 0, .int .i64 0, .string ⟨#[]⟩, .string ⟨#[]⟩, .int .i64 0, .int .i64 0]]] w5) := hide (HP4.out.read (i := 0) rfl hr5 ha5)
  clear hr5 ha5 HP4 HRP hcf hct
  have z0 := (HP5.out.blkAt (i := 1) rfl).c 0 _ rfl
  have z1 := (HP5.out.blkAt (i := 1) rfl).c 1 _ rfl
  have z2 := (HP5.out.blkAt (i := 1) rfl).c 2 _ rfl
  have z3 := (HP5.out.blkAt (i := 1) rfl).c 3 _ rfl
  have z4 := (HP5.out.blkAt (i := 1) rfl).c 4 _ rfl
  have z5 := (HP5.out.blkAt (i := 1) rfl).c 5 _ rfl
  have y0 := (HP5.out.blkAt (i := 1) rfl).f 0
  have y1 := (HP5.out.blkAt (i := 1) rfl).f 1
  have y2 := (HP5.out.blkAt (i := 1) rfl).f 2
  have y3 := (HP5.out.blkAt (i := 1) rfl).f 3
  have y4 := (HP5.out.blkAt (i := 1) rfl).f 4
  have y5 := (HP5.out.blkAt (i := 1) rfl).f 5
  have p1 := HP5.out.set6 (i := 1) rfl (.int .i64 c.id) (.int .i64 c.kind) (.string c.fr) (.string c.«to») (.int .i64 c.am) (.int .i64 c.ref)
  have x0 := (p1.blkAt (i := 1) rfl).c 0 _ rfl
  have x1 := (p1.blkAt (i := 1) rfl).c 1 _ rfl
  have x2 := (p1.blkAt (i := 1) rfl).c 2 _ rfl
  have x3 := (p1.blkAt (i := 1) rfl).c 3 _ rfl
  have x4 := (p1.blkAt (i := 1) rfl).c 4 _ rfl
  have x5 := (p1.blkAt (i := 1) rfl).c 5 _ rfl
  have HB : Hid _ := hide p1.below
  clear p1
  unfold Cm.v
  go_wp2_with fail
  refine bodyPost_ret (v := c.v) (by simp [results, Tryz.results5, go_sem, x0, x1, x2, x3, x4, x5, Cm.v]) rfl ⟨⟨c, HC.out.1, HC.out.2, rfl⟩, HB.out⟩
theorem cmdT_len (id kind : Int) (f t : ByteArray) (am ref : Int) : (cmdT id kind f t am ref).length ≤ 100 := by
  unfold cmdT
  split
  · rename_i h
    have hk := cmd_kind h
    have hw : (wordL kind).length ≤ 4 := by rcases hk with rfl | rfl | rfl | rfl | rfl <;> decide
    split
    · rename_i q
      obtain ⟨⟨i0, i1⟩, r0, r1⟩ := cmd_de q h
      have l1 := itoa_len (n := id) (by omega) (by omega)
      have l2 := itoa_len (n := ref) (by omega) (by omega)
      simp only [List.length_append, List.length_cons, List.length_nil]
      omega
    · rename_i q
      obtain ⟨⟨i0, i1⟩, s1, s2, a0, a1⟩ := cmd_abc (by omega) h
      have l1 := itoa_len (n := id) (by omega) (by omega)
      have l2 := itoa_len (n := am) (by omega) (by omega)
      have e1 := list_size f
      have e2 := list_size t
      simp only [List.length_append, List.length_cons, List.length_nil]
      omega
  · simp
set_option maxHeartbeats 4000000 in
theorem drawReadCommand_any (a0 : Option Addr) (len cap : Nat) (w : World) (h : IsCode w a0 len) : Calls Tryz.prog 10 #[.slice a0 len cap] w fun e w' => DtEnd w e w' := by
  have H : Hid _ := hide h
  clear h
  go_enter Tryz.func10, Tryz.ntmps10
  go_wp2_with fail
  refine (l1Open_any a0 len cap w).mono ?_
  rintro e w3 ⟨rfl, hw3⟩
  have hrd : Rd w.heap.size w3 := by rw [hw3]; exact rd_open H.out
  have hb3 : Below w.heap.size w w3 := by rw [hw3]; exact below_alloc (Below.refl _ _) _
  have hp3 := tok_pool (a0 := a0) (len := len) (cap := cap) (Pool.start w [[]] rfl) 0 rfl hrd hb3
  obtain ⟨B, hB⟩ : ∃ B, B = w.heap.size := ⟨_, rfl⟩
  rw [← hB] at hrd hp3 ⊢
  have HP3 : Hid (Pool [] w [[tok B]] w3) := hide hp3
  have HR3 : Hid (Rd B w3) := hide hrd
  clear hrd hw3 hB hp3 hb3 H
  go_wp2_with fail
  refine (dledger_any B 4 w3 HR3.out (by omega) (by omega)).mono ?_
  rintro e w4 ⟨p, D, rfl, hpk, hf, hrp⟩
  have HF : Hid (LedF D) := hide hf
  have HRP : Hid _ := hide hrp
  have HP4 : Hid (Pool [] w [[tok B]] w4) := hide (HP3.out.read (i := 0) rfl hrp.rd hrp.apart)
  clear hpk hf hrp HP3 HR3
  go_wp2_with fail
  refine (command_any B p D w4 HRP.out.rd (by have := HF.out.a; omega) (by have := HF.out.h; omega) HRP.out.holds).mono ?_
  rintro e w5 ⟨⟨c, hcf, hct, rfl⟩, hr5, ha5⟩
  have HP5 : Hid (Pool [] w [[tok B]] w5) := hide (HP4.out.read (i := 0) rfl hr5 ha5)
  have HR5 : Hid _ := hide hr5
  clear hr5 ha5 HP4 HRP
  unfold Cm.v
  go_wp2_with fail
  refine (specText_any c.id c.kind c.fr c.«to» c.am c.ref _ (by unfold maxLen; omega) (by unfold maxLen; omega)).mono ?_
  rintro e w6 ⟨rfl, hb6⟩
  have HP6 : Hid (Pool [] w [[tok B]] w6) := hide (HP5.out.keep hb6)
  have HR6 : Hid (Rd B w6) := hide (HR5.out.below (hb6.mono HR5.out.lt))
  have hlen := cmdT_len c.id c.kind c.fr c.«to» c.am c.ref
  obtain ⟨T, hT⟩ : ∃ T, T = cmdT c.id c.kind c.fr c.«to» c.am c.ref := ⟨_, rfl⟩
  rw [← hT] at hlen ⊢
  clear hb6 HP5 HR5 hT hcf hct
  go_wp2_with fail
  refine (hurt_any B (bs T) w6 HR6.out (by rw [bs_size]; omega)).mono ?_
  rintro e w7 ⟨⟨s, hs, rfl⟩, hr7, ha7⟩
  have HB : Hid _ := hide (HP6.out.read (i := 0) rfl hr7 ha7).below
  have HS : Hid (s.size ≤ 102) := hide (by rw [bs_size] at hs; omega)
  clear hs hr7 ha7 HP6 HR6
  go_wp2_with fail
  go_ret
  exact ⟨⟨s.data.toList, by have := list_size s; have := HS.out; omega, by rw [← bs_of (r := s) rfl]; rfl⟩, HB.out⟩
end Go.Proofs.YtbcodlgpdehdhaaGreatDoor
