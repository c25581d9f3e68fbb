/- The walk of the law FnExactActed: it returns true, and nothing that was there is written. -/
import Derived.Test.YtaohhdlkgnjphaaGreatLwB
namespace Go.Proofs.YtaohhdlkgnjphaaGreat
open Go.Value renaming int → J, slice → V
open Go.IntKind renaming i64 → Z
open Go renaming undef → U
open Go.ChangeShapes Go.WideShapes Go.ChangeAt Go.RowKit
set_option linter.unusedVariables false
set_option maxRecDepth 100000
theorem msg_rows {n : Nd} {ma : Option Addr} {mc : Nat} {l : List Mg} {x : World} (h : Star (ndL n ++ [orow 5 mgCells ma mc l]) x) : RowAt 5 mgCells x ma l := by
 have q : OwnRow 5 mgCells x (gOf ma) ma mc l := h.all (orow 5 mgCells ma mc l) (by simp)
 exact q.rows
theorem ActedEnd_of {P : Program} {f : FuncId} {args : Array Value} {D D2 : NdD} {a : Ac} {w : World} (e : D2 = D) (h : Calls P f args w fun e w' => ActedEnd [] (actM D2 a) w e w') : Calls P f args w fun e w' => ActedEnd [] (actM D a) w e w' := by rw [← e]; exact h
structure LaA (n : Nd) (a : Ac) (w : World) (l0 l1 l2 l3 l4 l5 l6 l7 l8 l9 l10 l11 l12 : Bool) (u6 u7 u8 u24 u25 u26 u27 u28 u29 u30 u31 u32 : Value) (wN : Nd) (wA : Option Addr) (wC : Nat) (wT : Nd) (x : World) : Prop where
 pool : Pool [] w [[blk w.heap.size [J Z n.id, J Z n.has, J Z n.spent, J Z n.earned, V n.sa n.seen.length n.sc, V n.pa n.peers.length n.pc]], [blk (w.heap.size + 1) [J Z a.kind, J Z a.id, J Z a.to, J Z a.amt, J Z a.msg.fr, J Z a.msg.to, J Z a.msg.kind, J Z a.msg.seq, J Z a.msg.amt]], cond l4 (ndL wN ++ [orow 5 mgCells wA wC (actM n.d a).2.1]) [], cond l10 [blk (ptB u6) [J Z wN.id, J Z wN.has, J Z wN.spent, J Z wN.earned, V wN.sa wN.seen.length wN.sc, V wN.pa wN.peers.length wN.pc]] (cond l9 [blk (ptB u6) [J Z 0, J Z 0, J Z 0, J Z 0, V none 0 0, V none 0 0]] []), [], [], [], [], [], [], cond l1 (ndL wT) [], []] x
 qC : l4 = true → u29 = .tuple #[ndV wN, V wA (actM n.d a).2.1.length wC, J Z (actM n.d a).2.2] ∧ wN.d = (actM n.d a).1
 qM : l5 = true → u24 = .tuple #[ndV wN, V wA (actM n.d a).2.1.length wC, J Z (actM n.d a).2.2]
 q0 : l6 = true → u30 = ndV wN
 q1 : l7 = true → u31 = V wA (actM n.d a).2.1.length wC
 q2 : l8 = true → u32 = J Z (actM n.d a).2.2
 qA : l3 = true → u28 = a.v
 qB : l9 = true → u6 = .pointer (some ⟨ptB u6, 0, none⟩)
 qQ : l11 = true → u7 = V wA (actM n.d a).2.1.length wC
 qK : l12 = true → u8 = J Z (actM n.d a).2.2
 qT : l1 = true → u26 = ndV wT ∧ wT.d = n.d ∧ (wT.sa ≠ none ∧ wT.pa ≠ none ∧ ∀ p ∈ wT.peers, p.a ≠ none)
 d5_4 : l5 = true → l4 = true
 d6_4 : l6 = true → l4 = true
 d7_4 : l7 = true → l4 = true
 d10_4 : l10 = true → l4 = true
 d11_4 : l11 = true → l4 = true
 d10_9 : l10 = true → l9 = true
 d6_5 : l6 = true → l5 = true
 d7_5 : l7 = true → l5 = true
 d10_6 : l10 = true → l6 = true
 d11_7 : l11 = true → l7 = true
 p25 : l0 = true → u25 = .agg #[J Z n.id, J Z n.has, J Z n.spent, J Z n.earned, V n.sa n.seen.length n.sc, V n.pa n.peers.length n.pc]
 p27 : l2 = true → u27 = .agg #[J Z a.kind, J Z a.id, J Z a.to, J Z a.amt, J Z a.msg.fr, J Z a.msg.to, J Z a.msg.kind, J Z a.msg.seq, J Z a.msg.amt]
structure LaB (n XN wN : Nd) (wA : Option Addr) (wC BW BX : Nat) (a : Ac) (w : World) (l0 l1 l2 l3 l4 l5 l6 l7 l8 l9 l10 l11 : Bool) (u10 u11 u12 u35 u36 u37 u38 u39 u40 u41 u42 : Value) (gN : Nd) (gA : Option Addr) (gC : Nat) (x : World) : Prop where
 pool : Pool [] w [[blk w.heap.size [J Z n.id, J Z n.has, J Z n.spent, J Z n.earned, V n.sa n.seen.length n.sc, V n.pa n.peers.length n.pc]], [blk (w.heap.size + 1) [J Z a.kind, J Z a.id, J Z a.to, J Z a.amt, J Z a.msg.fr, J Z a.msg.to, J Z a.msg.kind, J Z a.msg.seq, J Z a.msg.amt]], ndL wN ++ [orow 5 mgCells wA wC (actM n.d a).2.1], [blk BW [J Z wN.id, J Z wN.has, J Z wN.spent, J Z wN.earned, V wN.sa wN.seen.length wN.sc, V wN.pa wN.peers.length wN.pc]], ndL XN, [blk BX [J Z XN.id, J Z XN.has, J Z XN.spent, J Z XN.earned, V XN.sa XN.seen.length XN.sc, V XN.pa XN.peers.length XN.pc]], cond l3 (ndL gN ++ [orow 5 mgCells gA gC (actM n.d a).2.1]) [], cond l9 [blk (ptB u10) [J Z gN.id, J Z gN.has, J Z gN.spent, J Z gN.earned, V gN.sa gN.seen.length gN.sc, V gN.pa gN.peers.length gN.pc]] (cond l8 [blk (ptB u10) [J Z 0, J Z 0, J Z 0, J Z 0, V none 0 0, V none 0 0]] []), [], [], [], []] x
 qC : l3 = true → u39 = .tuple #[ndV gN, V gA (actM n.d a).2.1.length gC, J Z (actM n.d a).2.2] ∧ gN.d = (actM n.d a).1
 qM : l4 = true → u35 = .tuple #[ndV gN, V gA (actM n.d a).2.1.length gC, J Z (actM n.d a).2.2]
 q0 : l5 = true → u40 = ndV gN
 q1 : l6 = true → u41 = V gA (actM n.d a).2.1.length gC
 q2 : l7 = true → u42 = J Z (actM n.d a).2.2
 qA : l2 = true → u38 = a.v
 qB : l8 = true → u10 = .pointer (some ⟨ptB u10, 0, none⟩)
 qQ : l10 = true → u11 = V gA (actM n.d a).2.1.length gC
 qK : l11 = true → u12 = J Z (actM n.d a).2.2
 d4_3 : l4 = true → l3 = true
 d5_3 : l5 = true → l3 = true
 d6_3 : l6 = true → l3 = true
 d9_3 : l9 = true → l3 = true
 d10_3 : l10 = true → l3 = true
 d9_8 : l9 = true → l8 = true
 d5_4 : l5 = true → l4 = true
 d6_4 : l6 = true → l4 = true
 d9_5 : l9 = true → l5 = true
 d10_6 : l10 = true → l6 = true
 p36 : l0 = true → u36 = .agg #[J Z XN.id, J Z XN.has, J Z XN.spent, J Z XN.earned, V XN.sa XN.seen.length XN.sc, V XN.pa XN.peers.length XN.pc]
 p37 : l1 = true → u37 = .agg #[J Z a.kind, J Z a.id, J Z a.to, J Z a.amt, J Z a.msg.fr, J Z a.msg.to, J Z a.msg.kind, J Z a.msg.seq, J Z a.msg.amt]
structure LaC (n XN wN gN : Nd) (wA gA : Option Addr) (wC gC BW BX BG : Nat) (a : Ac) (w : World) (l0 l1 l2 l3 l4 : Bool) (u58 u59 u60 u61 u62 : Value) (ET : Nd) (x : World) : Prop where
 pool : Pool [] w [[blk w.heap.size [J Z n.id, J Z n.has, J Z n.spent, J Z n.earned, V n.sa n.seen.length n.sc, V n.pa n.peers.length n.pc]], [blk (w.heap.size + 1) [J Z a.kind, J Z a.id, J Z a.to, J Z a.amt, J Z a.msg.fr, J Z a.msg.to, J Z a.msg.kind, J Z a.msg.seq, J Z a.msg.amt]], ndL wN ++ [orow 5 mgCells wA wC (actM n.d a).2.1], [blk BW [J Z wN.id, J Z wN.has, J Z wN.spent, J Z wN.earned, V wN.sa wN.seen.length wN.sc, V wN.pa wN.peers.length wN.pc]], ndL XN, [blk BX [J Z XN.id, J Z XN.has, J Z XN.spent, J Z XN.earned, V XN.sa XN.seen.length XN.sc, V XN.pa XN.peers.length XN.pc]], ndL gN, [blk BG [J Z gN.id, J Z gN.has, J Z gN.spent, J Z gN.earned, V gN.sa gN.seen.length gN.sc, V gN.pa gN.peers.length gN.pc]], [orow 5 mgCells gA gC (actM n.d a).2.1], cond l2 (ndL ET) [], [], []] x
 qT : l2 = true → u60 = ndV ET ∧ ET.d = n.d
 q61 : l3 = true → u61 = .bool true
 q62 : l4 = true → u62 = .bool false
 d3_2 : l3 = true → l2 = true
 p58 : l0 = true → u58 = .agg #[J Z XN.id, J Z XN.has, J Z XN.spent, J Z XN.earned, V XN.sa XN.seen.length XN.sc, V XN.pa XN.peers.length XN.pc]
 p59 : l1 = true → u59 = .agg #[J Z n.id, J Z n.has, J Z n.spent, J Z n.earned, V n.sa n.seen.length n.sc, V n.pa n.peers.length n.pc]
structure LaD (n XN wN gN : Nd) (wA gA : Option Addr) (wC gC BW BX BG : Nat) (QG : Int) (a : Ac) (w : World) (l0 l1 l2 l3 l4 l5 l6 l7 l8 l9 l10 l11 l12 : Bool) (u16 u17 u18 u104 u105 u106 u107 u108 u109 u110 u111 u112 : Value) (hN : Nd) (hA : Option Addr) (hC : Nat) (hT : Nd) (x : World) : Prop where
 pool : Pool [] w [[blk w.heap.size [J Z n.id, J Z n.has, J Z n.spent, J Z n.earned, V n.sa n.seen.length n.sc, V n.pa n.peers.length n.pc]], [blk (w.heap.size + 1) [J Z a.kind, J Z a.id, J Z a.to, J Z a.amt, J Z a.msg.fr, J Z a.msg.to, J Z a.msg.kind, J Z a.msg.seq, J Z a.msg.amt]], ndL wN ++ [orow 5 mgCells wA wC (actM n.d a).2.1], [blk BW [J Z wN.id, J Z wN.has, J Z wN.spent, J Z wN.earned, V wN.sa wN.seen.length wN.sc, V wN.pa wN.peers.length wN.pc]], ndL (mkN 1 XN), [blk BX [J Z XN.id, J Z XN.has, J Z XN.spent, J Z XN.earned, V XN.sa XN.seen.length XN.sc, V XN.pa XN.peers.length XN.pc]], ndL (mkN 1 gN), [blk BG [J Z gN.id, J Z gN.has, J Z gN.spent, J Z gN.earned, V gN.sa gN.seen.length gN.sc, V gN.pa gN.peers.length gN.pc]], [orow 5 mgCells gA gC (mkM QG (actM n.d a).2.1.length)], cond l1 (ndL hT) [], cond l4 (ndL hN ++ [orow 5 mgCells hA hC (actM n.d a).2.1]) [], cond l10 [blk (ptB u16) [J Z hN.id, J Z hN.has, J Z hN.spent, J Z hN.earned, V hN.sa hN.seen.length hN.sc, V hN.pa hN.peers.length hN.pc]] (cond l9 [blk (ptB u16) [J Z 0, J Z 0, J Z 0, J Z 0, V none 0 0, V none 0 0]] [])] x
 qC : l4 = true → u109 = .tuple #[ndV hN, V hA (actM n.d a).2.1.length hC, J Z (actM n.d a).2.2] ∧ hN.d = (actM n.d a).1
 qM : l5 = true → u104 = .tuple #[ndV hN, V hA (actM n.d a).2.1.length hC, J Z (actM n.d a).2.2]
 q0 : l6 = true → u110 = ndV hN
 q1 : l7 = true → u111 = V hA (actM n.d a).2.1.length hC
 q2 : l8 = true → u112 = J Z (actM n.d a).2.2
 qA : l3 = true → u108 = a.v
 qB : l9 = true → u16 = .pointer (some ⟨ptB u16, 0, none⟩)
 qQ : l11 = true → u17 = V hA (actM n.d a).2.1.length hC
 qK : l12 = true → u18 = J Z (actM n.d a).2.2
 qT : l1 = true → u106 = ndV hT ∧ hT.d = n.d ∧ (hT.sa ≠ none ∧ hT.pa ≠ none ∧ ∀ p ∈ hT.peers, p.a ≠ none)
 d5_4 : l5 = true → l4 = true
 d6_4 : l6 = true → l4 = true
 d7_4 : l7 = true → l4 = true
 d10_4 : l10 = true → l4 = true
 d11_4 : l11 = true → l4 = true
 d10_9 : l10 = true → l9 = true
 d6_5 : l6 = true → l5 = true
 d7_5 : l7 = true → l5 = true
 d10_6 : l10 = true → l6 = true
 d11_7 : l11 = true → l7 = true
 p105 : l0 = true → u105 = .agg #[J Z n.id, J Z n.has, J Z n.spent, J Z n.earned, V n.sa n.seen.length n.sc, V n.pa n.peers.length n.pc]
 p107 : l2 = true → u107 = .agg #[J Z a.kind, J Z a.id, J Z a.to, J Z a.amt, J Z a.msg.fr, J Z a.msg.to, J Z a.msg.kind, J Z a.msg.seq, J Z a.msg.amt]
set_option maxHeartbeats 8000000 in
theorem walkActed (n : Nd) (a : Ac) (w : World) (hm : n.seen.length ≤ maxLen ∧ n.peers.length ≤ maxLen ∧ LimP n.peers) (h : NodeAt w n) :
  Calls Tryz.prog 3 #[ndV n, a.v] w fun e w' => e = .returned (.bool true) ∧ Below w.heap.size w w' := by
 have HL : Hid _ := hide h
 obtain ⟨W, hW⟩ : ∃ W, W = (w.alloc (.cells #[J Z n.id, J Z n.has, J Z n.spent, J Z n.earned, V n.sa n.seen.length n.sc, V n.pa n.peers.length n.pc] 25)).alloc (.cells #[J Z a.kind, J Z a.id, J Z a.to, J Z a.amt, J Z a.msg.fr, J Z a.msg.to, J Z a.msg.kind, J Z a.msg.seq, J Z a.msg.amt] 29) := ⟨_, rfl⟩
 have s1 : (w.alloc (.cells #[J Z n.id, J Z n.has, J Z n.spent, J Z n.earned, V n.sa n.seen.length n.sc, V n.pa n.peers.length n.pc] 25)).heap.size = w.heap.size + 1 := by simp
 have HP : Hid (Pool [] w [[blk w.heap.size [J Z n.id, J Z n.has, J Z n.spent, J Z n.earned, V n.sa n.seen.length n.sc, V n.pa n.peers.length n.pc]], [blk (w.heap.size + 1) [J Z a.kind, J Z a.id, J Z a.to, J Z a.amt, J Z a.msg.fr, J Z a.msg.to, J Z a.msg.kind, J Z a.msg.seq, J Z a.msg.amt]], [], [], [], [], [], [], [], [], [], []] W) := hide (by
  rw [hW, ← s1]
  exact ((Pool.start w [[], [], [], [], [], [], [], [], [], [], [], []] rfl).newBlk (i := 0) rfl [J Z n.id, J Z n.has, J Z n.spent, J Z n.earned, V n.sa n.seen.length n.sc, V n.pa n.peers.length n.pc] 25).newBlk (i := 1) rfl [J Z a.kind, J Z a.id, J Z a.to, J Z a.amt, J Z a.msg.fr, J Z a.msg.to, J Z a.msg.kind, J Z a.msg.seq, J Z a.msg.amt] 29)
 have HW : Hid ((w.alloc (.cells #[J Z n.id, J Z n.has, J Z n.spent, J Z n.earned, V n.sa n.seen.length n.sc, V n.pa n.peers.length n.pc] 25)).alloc (.cells #[J Z a.kind, J Z a.id, J Z a.to, J Z a.amt, J Z a.msg.fr, J Z a.msg.to, J Z a.msg.kind, J Z a.msg.seq, J Z a.msg.amt] 29) = W) := hide hW.symm
 clear hW s1 h
 unfold ndV Ac.v
 go_enter Tryz.func3, Tryz.ntmps3
 go_wp2_with fail
 rw [HW.out]
 refine (szNode_any n 1048576 W hm ⟨by omega, by omega⟩ (HL.out.peers.below HP.out.below)).mono ?_
 rintro e w1 ⟨hb1, r, rfl, hr0, hr1, hrs⟩
 have HP1 : Hid (Pool [] w [[blk w.heap.size [J Z n.id, J Z n.has, J Z n.spent, J Z n.earned, V n.sa n.seen.length n.sc, V n.pa n.peers.length n.pc]], [blk (w.heap.size + 1) [J Z a.kind, J Z a.id, J Z a.to, J Z a.amt, J Z a.msg.fr, J Z a.msg.to, J Z a.msg.kind, J Z a.msg.seq, J Z a.msg.amt]], [], [], [], [], [], [], [], [], [], []] w1) := hide (HP.out.keep hb1)
 clear HP HW hb1 hm
 by_cases hr : r < 0
 ·clear hrs
  go_wp2
  go_ret
  exact ⟨rfl, HP1.out.below⟩
 have hsm : SmN n := hrs (by omega)
 have HS : Hid _ := hide hsm
 have HAS : Hid _ := hide (actM_small (a := a) (smN_d.1 hsm))
 clear hrs hsm
 have c0 : w1.cell? ⟨w.heap.size, 0, none⟩ = some (J Z n.id) := (HP1.out.blkAt (i := 0) rfl).c 0 _ rfl
 have c1 : w1.cell? ⟨w.heap.size, 1, none⟩ = some (J Z n.has) := (HP1.out.blkAt (i := 0) rfl).c 1 _ rfl
 have c2 : w1.cell? ⟨w.heap.size, 2, none⟩ = some (J Z n.spent) := (HP1.out.blkAt (i := 0) rfl).c 2 _ rfl
 have c3 : w1.cell? ⟨w.heap.size, 3, none⟩ = some (J Z n.earned) := (HP1.out.blkAt (i := 0) rfl).c 3 _ rfl
 have c4 : w1.cell? ⟨w.heap.size, 4, none⟩ = some (V n.sa n.seen.length n.sc) := (HP1.out.blkAt (i := 0) rfl).c 4 _ rfl
 have c5 : w1.cell? ⟨w.heap.size, 5, none⟩ = some (V n.pa n.peers.length n.pc) := (HP1.out.blkAt (i := 0) rfl).c 5 _ rfl
 have d0 : w1.cell? ⟨w.heap.size + 1, 0, none⟩ = some (J Z a.kind) := (HP1.out.blkAt (i := 1) rfl).c 0 _ rfl
 have d1 : w1.cell? ⟨w.heap.size + 1, 1, none⟩ = some (J Z a.id) := (HP1.out.blkAt (i := 1) rfl).c 1 _ rfl
 have d2 : w1.cell? ⟨w.heap.size + 1, 2, none⟩ = some (J Z a.to) := (HP1.out.blkAt (i := 1) rfl).c 2 _ rfl
 have d3 : w1.cell? ⟨w.heap.size + 1, 3, none⟩ = some (J Z a.amt) := (HP1.out.blkAt (i := 1) rfl).c 3 _ rfl
 have d4 : w1.cell? ⟨w.heap.size + 1, 4, none⟩ = some (J Z a.msg.fr) := (HP1.out.blkAt (i := 1) rfl).c 4 _ rfl
 have d5 : w1.cell? ⟨w.heap.size + 1, 5, none⟩ = some (J Z a.msg.to) := (HP1.out.blkAt (i := 1) rfl).c 5 _ rfl
 have d6 : w1.cell? ⟨w.heap.size + 1, 6, none⟩ = some (J Z a.msg.kind) := (HP1.out.blkAt (i := 1) rfl).c 6 _ rfl
 have d7 : w1.cell? ⟨w.heap.size + 1, 7, none⟩ = some (J Z a.msg.seq) := (HP1.out.blkAt (i := 1) rfl).c 7 _ rfl
 have d8 : w1.cell? ⟨w.heap.size + 1, 8, none⟩ = some (J Z a.msg.amt) := (HP1.out.blkAt (i := 1) rfl).c 8 _ rfl
 go_wp2_with fail
 rename_i K5 hK5
 refine wp_region_inv (by kernel_rfl) (fun L act x => ∃ l0 l1 l2 l3 l4 l5 l6 l7 l8 l9 l10 l11 l12 : Bool, ∃ u6 u7 u8 u24 u25 u26 u27 u28 u29 u30 u31 u32 : Value, ∃ wN : Nd, ∃ wA : Option Addr, ∃ wC : Nat, ∃ wT : Nd, L = #[l0, l1, l2, l3, l4, l5, l6, l7, l8, l9, l10, l11, l12] ∧ act = { tmps := #[Value.agg #[J Z n.id, J Z n.has, J Z n.spent, J Z n.earned, V n.sa n.seen.length n.sc, V n.pa n.peers.length n.pc], Value.agg #[J Z a.kind, J Z a.id, J Z a.to, J Z a.amt, J Z a.msg.fr, J Z a.msg.to, J Z a.msg.kind, J Z a.msg.seq, J Z a.msg.amt], Value.pointer (some { block := w.heap.size, off := 0 }), Value.pointer (some { block := w.heap.size + 1, off := 0 }), Value.bool false, J Z r, u6, u7, u8, U, U, U, U, U, U, U, U, U, U, Value.agg #[J Z n.id, J Z n.has, J Z n.spent, J Z n.earned, V n.sa n.seen.length n.sc, V n.pa n.peers.length n.pc], J Z 1048576, J Z r, J Z r, Value.bool (decide (r < 0)), u24, u25, u26, u27, u28, u29, u30, u31, u32, U, U, U, U, U, U, U, U, U, U, U, U, U, U, U, U, U, U, U, U, U, U, U, U, U, U, U, U, U, U, U, U, U, U, U, U, U, U, U, U, U, U, U, U, U, U, U, U, U, U, U, U, U, U, U, U, U, U, U, U, U, U, U, U, U, U, U, U, U, U, U, U, U, U, U, U, U, U, U, U, U, U, U, U, U, U, U, U, U, U, U, U, U, U, U, U, U, U, U, U, U, U, U, U, U, U, U, U], defers := [] } ∧ LaA n a w l0 l1 l2 l3 l4 l5 l6 l7 l8 l9 l10 l11 l12 u6 u7 u8 u24 u25 u26 u27 u28 u29 u30 u31 u32 wN wA wC wT x) ?_ ?_ ?_
 rotate_left 2
 ·exact ⟨false, false, false, false, false, false, false, false, false, false, false, false, false, U, U, U, U, U, U, U, U, U, U, U, U, (n), (none), (0), (n), rfl, rfl, ⟨HP1.out.drew, nofun, nofun, nofun, nofun, nofun, nofun, nofun, nofun, nofun, nofun, nofun, nofun, nofun, nofun, nofun, nofun, nofun, nofun, nofun, nofun, nofun, nofun⟩⟩
 ·rintro L act x i ⟨l0, l1, l2, l3, l4, l5, l6, l7, l8, l9, l10, l11, l12, u6, u7, u8, u24, u25, u26, u27, u28, u29, u30, u31, u32, wN, wA, wC, wT, rfl, rfl, h⟩ hi K hK
  have hi15 : i < 13 := by
   obtain ⟨_, o, ho, _⟩ := mem_ready.1 hi
   exact (Array.getElem?_eq_some_iff.1 ho).1
  have hl := (mem_ready.1 hi).1
  obtain rfl | rfl | rfl | rfl | rfl | rfl | rfl | rfl | rfl | rfl | rfl | rfl | rfl := (by omega : i = 0 ∨ i = 1 ∨ i = 2 ∨ i = 3 ∨ i = 4 ∨ i = 5 ∨ i = 6 ∨ i = 7 ∨ i = 8 ∨ i = 9 ∨ i = 10 ∨ i = 11 ∨ i = 12)
  ·have e : l0 = false := hl
   subst e
   have c0_ : x.cell? ⟨w.heap.size, 0, none⟩ = some (J Z n.id) := (h.pool.blkAt (i := 0) rfl).c 0 _ rfl
   have c1_ : x.cell? ⟨w.heap.size, 1, none⟩ = some (J Z n.has) := (h.pool.blkAt (i := 0) rfl).c 1 _ rfl
   have c2_ : x.cell? ⟨w.heap.size, 2, none⟩ = some (J Z n.spent) := (h.pool.blkAt (i := 0) rfl).c 2 _ rfl
   have c3_ : x.cell? ⟨w.heap.size, 3, none⟩ = some (J Z n.earned) := (h.pool.blkAt (i := 0) rfl).c 3 _ rfl
   have c4_ : x.cell? ⟨w.heap.size, 4, none⟩ = some (V n.sa n.seen.length n.sc) := (h.pool.blkAt (i := 0) rfl).c 4 _ rfl
   have c5_ : x.cell? ⟨w.heap.size, 5, none⟩ = some (V n.pa n.peers.length n.pc) := (h.pool.blkAt (i := 0) rfl).c 5 _ rfl
   refine wpOp_run (v := .agg #[J Z n.id, J Z n.has, J Z n.spent, J Z n.earned, V n.sa n.seen.length n.sc, V n.pa n.peers.length n.pc]) (w' := x) (by rfl) (by rfl) ?_ (hK _ _ ⟨true, l1, l2, l3, l4, l5, l6, l7, l8, l9, l10, l11, l12, u6, u7, u8, u24, (.agg #[J Z n.id, J Z n.has, J Z n.spent, J Z n.earned, V n.sa n.seen.length n.sc, V n.pa n.peers.length n.pc]), u26, u27, u28, u29, u30, u31, u32, (wN), (wA), (wC), (wT), rfl, rfl, { h with p25 := fun _ => rfl }⟩)
   go_simp
  ·have e : l1 = false := hl
   subst e
   have d0 : l0 = true := ready_on hi 0 (by kernel_rfl)
   subst d0
   refine wpOp_call (by rfl) (by rfl) ?_ (toNode_own n x HS.out (HL.out.below h.pool.below)) ?_
   ·rw [h.p25 rfl]; go_simp
   ·rintro e w' ⟨nT, rfl, hdT, hoT, hPT⟩
    exact ⟨_, rfl, hK _ _ ⟨true, true, l2, l3, l4, l5, l6, l7, l8, l9, l10, l11, l12, u6, u7, u8, u24, u25, (ndV nT), u27, u28, u29, u30, u31, u32, (wN), (wA), (wC), (nT), rfl, rfl, { h with qT := (fun _ => ⟨rfl, hdT, hoT⟩), pool := (h.pool.call (i := 10) (rs := []) rfl hPT) }⟩⟩
  ·have e : l2 = false := hl
   subst e
   have c0_ : x.cell? ⟨w.heap.size + 1, 0, none⟩ = some (J Z a.kind) := (h.pool.blkAt (i := 1) rfl).c 0 _ rfl
   have c1_ : x.cell? ⟨w.heap.size + 1, 1, none⟩ = some (J Z a.id) := (h.pool.blkAt (i := 1) rfl).c 1 _ rfl
   have c2_ : x.cell? ⟨w.heap.size + 1, 2, none⟩ = some (J Z a.to) := (h.pool.blkAt (i := 1) rfl).c 2 _ rfl
   have c3_ : x.cell? ⟨w.heap.size + 1, 3, none⟩ = some (J Z a.amt) := (h.pool.blkAt (i := 1) rfl).c 3 _ rfl
   have c4_ : x.cell? ⟨w.heap.size + 1, 4, none⟩ = some (J Z a.msg.fr) := (h.pool.blkAt (i := 1) rfl).c 4 _ rfl
   have c5_ : x.cell? ⟨w.heap.size + 1, 5, none⟩ = some (J Z a.msg.to) := (h.pool.blkAt (i := 1) rfl).c 5 _ rfl
   have c6_ : x.cell? ⟨w.heap.size + 1, 6, none⟩ = some (J Z a.msg.kind) := (h.pool.blkAt (i := 1) rfl).c 6 _ rfl
   have c7_ : x.cell? ⟨w.heap.size + 1, 7, none⟩ = some (J Z a.msg.seq) := (h.pool.blkAt (i := 1) rfl).c 7 _ rfl
   have c8_ : x.cell? ⟨w.heap.size + 1, 8, none⟩ = some (J Z a.msg.amt) := (h.pool.blkAt (i := 1) rfl).c 8 _ rfl
   refine wpOp_run (v := .agg #[J Z a.kind, J Z a.id, J Z a.to, J Z a.amt, J Z a.msg.fr, J Z a.msg.to, J Z a.msg.kind, J Z a.msg.seq, J Z a.msg.amt]) (w' := x) (by rfl) (by rfl) ?_ (hK _ _ ⟨l0, l1, true, l3, l4, l5, l6, l7, l8, l9, l10, l11, l12, u6, u7, u8, u24, u25, u26, (.agg #[J Z a.kind, J Z a.id, J Z a.to, J Z a.amt, J Z a.msg.fr, J Z a.msg.to, J Z a.msg.kind, J Z a.msg.seq, J Z a.msg.amt]), u28, u29, u30, u31, u32, (wN), (wA), (wC), (wT), rfl, rfl, { h with p27 := fun _ => rfl }⟩)
   go_simp
  ·have e : l3 = false := hl
   subst e
   have d1 : l1 = true := ready_on hi 1 (by kernel_rfl)
   subst d1
   have d2 : l2 = true := ready_on hi 2 (by kernel_rfl)
   subst d2
   refine wpOp_call (by rfl) (by rfl) ?_ (toNAct_any a x) ?_
   ·rw [h.p27 rfl]; go_simp; rfl
   ·rintro e w' ⟨rfl, hbA⟩
    exact ⟨_, rfl, hK _ _ ⟨l0, true, true, true, l4, l5, l6, l7, l8, l9, l10, l11, l12, u6, u7, u8, u24, u25, u26, u27, (a.v), u29, u30, u31, u32, (wN), (wA), (wC), (wT), rfl, rfl, { h with qA := (fun _ => rfl), pool := (h.pool.keep hbA) }⟩⟩
  ·have e : l4 = false := hl
   subst e
   have d1 : l1 = true := ready_on hi 1 (by kernel_rfl)
   subst d1
   have d3 : l3 = true := ready_on hi 3 (by kernel_rfl)
   subst d3
   have z5 : l5 = false := by
    cases hz : l5
    ·rfl
    ·exact absurd (h.d5_4 hz) (by simp)
   subst z5
   have z6 : l6 = false := by
    cases hz : l6
    ·rfl
    ·exact absurd (h.d6_4 hz) (by simp)
   subst z6
   have z7 : l7 = false := by
    cases hz : l7
    ·rfl
    ·exact absurd (h.d7_4 hz) (by simp)
   subst z7
   have z10 : l10 = false := by
    cases hz : l10
    ·rfl
    ·exact absurd (h.d10_4 hz) (by simp)
   subst z10
   have z11 : l11 = false := by
    cases hz : l11
    ·rfl
    ·exact absurd (h.d11_4 hz) (by simp)
   subst z11
   obtain ⟨eT, hdT, h1T, h2T, h3T⟩ := h.qT rfl
   refine wpOp_call (by rfl) (by rfl) ?_ (ActedEnd_of hdT (specActed_any wT a x (smN_of hdT HS.out) (fun e => absurd e h1T) (fun p hp e => absurd e (h3T p hp)) (h.pool.get (i := 10) rfl).node)) ?_
   ·rw [eT, h.qA rfl]; go_simp
   ·rintro e w' ⟨nN, nA, nC, rfl, hdN, hPN⟩
    exact ⟨_, rfl, hK _ _ ⟨l0, true, l2, true, true, false, false, false, l8, l9, false, false, l12, u6, u7, u8, u24, u25, u26, u27, u28, (.tuple #[ndV nN, V nA (actM n.d a).2.1.length nC, J Z (actM n.d a).2.2]), u30, u31, u32, (nN), (nA), (nC), (wT), rfl, rfl, { h with qC := (fun _ => ⟨rfl, hdN⟩), qM := (fun q => by cases q), q0 := (fun q => by cases q), q1 := (fun q => by cases q), qQ := (fun q => by cases q), pool := (h.pool.call (i := 2) (rs := []) rfl (hPN.cast (S' := [ndL nN ++ [orow 5 mgCells nA nC (actM n.d a).2.1]]) (by simp))), d5_4 := fun _ => rfl, d6_4 := fun _ => rfl, d7_4 := fun _ => rfl, d10_4 := fun _ => rfl, d11_4 := fun _ => rfl }⟩⟩
  ·have e : l5 = false := hl
   subst e
   have d4 : l4 = true := ready_on hi 4 (by kernel_rfl)
   subst d4
   have z6 : l6 = false := by
    cases hz : l6
    ·rfl
    ·exact absurd (h.d6_5 hz) (by simp)
   subst z6
   have z7 : l7 = false := by
    cases hz : l7
    ·rfl
    ·exact absurd (h.d7_5 hz) (by simp)
   subst z7
   refine wpOp_run (v := .tuple #[ndV wN, V wA (actM n.d a).2.1.length wC, J Z (actM n.d a).2.2]) (w' := x) (by rfl) (by rfl) ?_ (hK _ _ ⟨l0, l1, l2, l3, true, true, false, false, l8, l9, l10, l11, l12, u6, u7, u8, (.tuple #[ndV wN, V wA (actM n.d a).2.1.length wC, J Z (actM n.d a).2.2]), u25, u26, u27, u28, u29, u30, u31, u32, (wN), (wA), (wC), (wT), rfl, rfl, { h with qM := (fun _ => rfl), d5_4 := fun _ => rfl, d6_5 := fun _ => rfl, d7_5 := fun _ => rfl }⟩)
   rw [(h.qC rfl).1]
   go_simp
  ·have e : l6 = false := hl
   subst e
   have d5 : l5 = true := ready_on hi 5 (by kernel_rfl)
   subst d5
   have z10 : l10 = false := by
    cases hz : l10
    ·rfl
    ·exact absurd (h.d10_6 hz) (by simp)
   subst z10
   refine wpOp_run (v := ndV wN) (w' := x) (by rfl) (by rfl) ?_ (hK _ _ ⟨l0, l1, l2, l3, l4, true, true, l7, l8, l9, false, l11, l12, u6, u7, u8, u24, u25, u26, u27, u28, u29, (ndV wN), u31, u32, (wN), (wA), (wC), (wT), rfl, rfl, { h with q0 := (fun _ => rfl), d6_4 := fun _ => h.d5_4 rfl, d6_5 := fun _ => rfl, d10_6 := fun _ => rfl }⟩)
   rw [h.qM rfl]
   go_simp
  ·have e : l7 = false := hl
   subst e
   have d5 : l5 = true := ready_on hi 5 (by kernel_rfl)
   subst d5
   have z11 : l11 = false := by
    cases hz : l11
    ·rfl
    ·exact absurd (h.d11_7 hz) (by simp)
   subst z11
   refine wpOp_run (v := V wA (actM n.d a).2.1.length wC) (w' := x) (by rfl) (by rfl) ?_ (hK _ _ ⟨l0, l1, l2, l3, l4, true, l6, true, l8, l9, l10, false, l12, u6, u7, u8, u24, u25, u26, u27, u28, u29, u30, (V wA (actM n.d a).2.1.length wC), u32, (wN), (wA), (wC), (wT), rfl, rfl, { h with q1 := (fun _ => rfl), d7_4 := fun _ => h.d5_4 rfl, d7_5 := fun _ => rfl, d11_7 := fun _ => rfl }⟩)
   rw [h.qM rfl]
   go_simp
  ·have e : l8 = false := hl
   subst e
   have d5 : l5 = true := ready_on hi 5 (by kernel_rfl)
   subst d5
   refine wpOp_run (v := J Z (actM n.d a).2.2) (w' := x) (by rfl) (by rfl) ?_ (hK _ _ ⟨l0, l1, l2, l3, l4, true, l6, l7, true, l9, l10, l11, l12, u6, u7, u8, u24, u25, u26, u27, u28, u29, u30, u31, (J Z (actM n.d a).2.2), (wN), (wA), (wC), (wT), rfl, rfl, { h with q2 := (fun _ => rfl) }⟩)
   rw [h.qM rfl]
   go_simp
  ·have e : l9 = false := hl
   subst e
   have z10 : l10 = false := by
    cases hz : l10
    ·rfl
    ·exact absurd (h.d10_9 hz) (by simp)
   subst z10
   refine wpOp_run (v := .pointer (some ⟨x.heap.size, 0, none⟩)) (w' := x.alloc (.cells #[J Z 0, J Z 0, J Z 0, J Z 0, V none 0 0, V none 0 0] 34)) (by rfl) (by rfl) ?_ (hK _ _ ⟨l0, l1, l2, l3, l4, l5, l6, l7, l8, true, false, l11, l12, (.pointer (some ⟨x.heap.size, 0, none⟩)), u7, u8, u24, u25, u26, u27, u28, u29, u30, u31, u32, (wN), (wA), (wC), (wT), rfl, rfl, { h with qB := (fun _ => rfl), pool := (h.pool.newBlk (i := 3) rfl [J Z 0, J Z 0, J Z 0, J Z 0, V none 0 0, V none 0 0] 34), d10_9 := fun _ => rfl }⟩)
   go_simp
  ·have e : l10 = false := hl
   subst e
   have d0 : l0 = true := ready_on hi 0 (by kernel_rfl)
   subst d0
   have d1 : l1 = true := ready_on hi 1 (by kernel_rfl)
   subst d1
   have d2 : l2 = true := ready_on hi 2 (by kernel_rfl)
   subst d2
   have d3 : l3 = true := ready_on hi 3 (by kernel_rfl)
   subst d3
   have d4 : l4 = true := ready_on hi 4 (by kernel_rfl)
   subst d4
   have d5 : l5 = true := ready_on hi 5 (by kernel_rfl)
   subst d5
   have d6 : l6 = true := ready_on hi 6 (by kernel_rfl)
   subst d6
   have d9 : l9 = true := ready_on hi 9 (by kernel_rfl)
   subst d9
   refine wpOp_skip (w' := ((((((x.setCell ⟨ptB u6, 0, none⟩ (J Z wN.id)).setCell ⟨ptB u6, 1, none⟩ (J Z wN.has)).setCell ⟨ptB u6, 2, none⟩ (J Z wN.spent)).setCell ⟨ptB u6, 3, none⟩ (J Z wN.earned)).setCell ⟨ptB u6, 4, none⟩ (V wN.sa wN.seen.length wN.sc)).setCell ⟨ptB u6, 5, none⟩ (V wN.pa wN.peers.length wN.pc))) (by rfl) (by rfl) ?_ (hK _ _ ⟨true, true, true, true, true, true, true, l7, l8, true, true, l11, l12, u6, u7, u8, u24, u25, u26, u27, u28, u29, u30, u31, u32, (wN), (wA), (wC), (wT), rfl, rfl, { h with pool := (h.pool.set6 (i := 3) rfl (J Z wN.id) (J Z wN.has) (J Z wN.spent) (J Z wN.earned) (V wN.sa wN.seen.length wN.sc) (V wN.pa wN.peers.length wN.pc)), d10_4 := fun _ => rfl, d10_9 := fun _ => rfl, d10_6 := fun _ => rfl }⟩)
   have A_ := h.pool.blkAt (i := 3) rfl
   have t0 := A_.c 0 _ rfl
   have f0 := A_.f 0
   have t1 := A_.c 1 _ rfl
   have f1 := A_.f 1
   have t2 := A_.c 2 _ rfl
   have f2 := A_.f 2
   have t3 := A_.c 3 _ rfl
   have f3 := A_.f 3
   have t4 := A_.c 4 _ rfl
   have f4 := A_.f 4
   have t5 := A_.c 5 _ rfl
   have f5 := A_.f 5
   obtain ⟨P8, hP8⟩ : ∃ P8, P8 = ptB u6 := ⟨_, rfl⟩
   have e8 := h.qB rfl
   rw [h.q0 rfl]
   unfold ndV
   rw [← hP8] at t0 t1 t2 t3 t4 t5 f0 f1 f2 f3 f4 f5 e8 ⊢
   rw [e8]
   clear e8 hP8 A_ h
   go_simp
  ·have e : l11 = false := hl
   subst e
   have d0 : l0 = true := ready_on hi 0 (by kernel_rfl)
   subst d0
   have d1 : l1 = true := ready_on hi 1 (by kernel_rfl)
   subst d1
   have d2 : l2 = true := ready_on hi 2 (by kernel_rfl)
   subst d2
   have d3 : l3 = true := ready_on hi 3 (by kernel_rfl)
   subst d3
   have d4 : l4 = true := ready_on hi 4 (by kernel_rfl)
   subst d4
   have d5 : l5 = true := ready_on hi 5 (by kernel_rfl)
   subst d5
   have d6 : l6 = true := ready_on hi 6 (by kernel_rfl)
   subst d6
   have d7 : l7 = true := ready_on hi 7 (by kernel_rfl)
   subst d7
   have d9 : l9 = true := ready_on hi 9 (by kernel_rfl)
   subst d9
   have d10 : l10 = true := ready_on hi 10 (by kernel_rfl)
   subst d10
   refine wpOp_run (v := V wA (actM n.d a).2.1.length wC) (w' := x) (by rfl) (by rfl) ?_ (hK _ _ ⟨true, true, true, true, true, true, true, true, l8, true, true, true, l12, u6, (V wA (actM n.d a).2.1.length wC), u8, u24, u25, u26, u27, u28, u29, u30, u31, u32, (wN), (wA), (wC), (wT), rfl, rfl, { h with qQ := (fun _ => rfl), d11_4 := fun _ => rfl, d11_7 := fun _ => rfl }⟩)
   rw [h.q1 rfl]
   go_simp
  ·have e : l12 = false := hl
   subst e
   have d0 : l0 = true := ready_on hi 0 (by kernel_rfl)
   subst d0
   have d1 : l1 = true := ready_on hi 1 (by kernel_rfl)
   subst d1
   have d2 : l2 = true := ready_on hi 2 (by kernel_rfl)
   subst d2
   have d3 : l3 = true := ready_on hi 3 (by kernel_rfl)
   subst d3
   have d4 : l4 = true := ready_on hi 4 (by kernel_rfl)
   subst d4
   have d5 : l5 = true := ready_on hi 5 (by kernel_rfl)
   subst d5
   have d6 : l6 = true := ready_on hi 6 (by kernel_rfl)
   subst d6
   have d7 : l7 = true := ready_on hi 7 (by kernel_rfl)
   subst d7
   have d8 : l8 = true := ready_on hi 8 (by kernel_rfl)
   subst d8
   have d9 : l9 = true := ready_on hi 9 (by kernel_rfl)
   subst d9
   have d10 : l10 = true := ready_on hi 10 (by kernel_rfl)
   subst d10
   have d11 : l11 = true := ready_on hi 11 (by kernel_rfl)
   subst d11
   refine wpOp_run (v := J Z (actM n.d a).2.2) (w' := x) (by rfl) (by rfl) ?_ (hK _ _ ⟨true, true, true, true, true, true, true, true, true, true, true, true, true, u6, u7, (J Z (actM n.d a).2.2), u24, u25, u26, u27, u28, u29, u30, u31, u32, (wN), (wA), (wC), (wT), rfl, rfl, { h with qK := (fun _ => rfl) }⟩)
   rw [h.q2 rfl]
   go_simp
 ·rintro L act x ⟨l0, l1, l2, l3, l4, l5, l6, l7, l8, l9, l10, l11, l12, u6, u7, u8, u24, u25, u26, u27, u28, u29, u30, u31, u32, wN, wA, wC, wT, rfl, rfl, h⟩ hr
  have hall := ready_all hr rfl (by decide)
  have t0 : l0 = true := hall 0 (by decide)
  have t1 : l1 = true := hall 1 (by decide)
  have t2 : l2 = true := hall 2 (by decide)
  have t3 : l3 = true := hall 3 (by decide)
  have t4 : l4 = true := hall 4 (by decide)
  have t5 : l5 = true := hall 5 (by decide)
  have t6 : l6 = true := hall 6 (by decide)
  have t7 : l7 = true := hall 7 (by decide)
  have t8 : l8 = true := hall 8 (by decide)
  have t9 : l9 = true := hall 9 (by decide)
  have t10 : l10 = true := hall 10 (by decide)
  have t11 : l11 = true := hall 11 (by decide)
  have t12 : l12 = true := hall 12 (by decide)
  subst t0 t1 t2 t3 t4 t5 t6 t7 t8 t9 t10 t11 t12
  clear hall hr
  have hdN := (h.qC rfl).2
  have eB := h.qB rfl
  have eQ := h.qQ rfl
  have eK := h.qK rfl
  obtain ⟨BW, hBB⟩ : ∃ P, P = ptB u6 := ⟨_, rfl⟩
  have hpool := h.pool.drop (i := 10) rfl
  have HPn : Hid (Pool [] w [[blk w.heap.size [J Z n.id, J Z n.has, J Z n.spent, J Z n.earned, V n.sa n.seen.length n.sc, V n.pa n.peers.length n.pc]], [blk (w.heap.size + 1) [J Z a.kind, J Z a.id, J Z a.to, J Z a.amt, J Z a.msg.fr, J Z a.msg.to, J Z a.msg.kind, J Z a.msg.seq, J Z a.msg.amt]], ndL wN ++ [orow 5 mgCells wA wC (actM n.d a).2.1], [blk BW [J Z wN.id, J Z wN.has, J Z wN.spent, J Z wN.earned, V wN.sa wN.seen.length wN.sc, V wN.pa wN.peers.length wN.pc]], [], [], [], [], [], [], [], []] x) := hide (by rw [hBB]; exact hpool)
  rw [← hBB] at eB
  have HDw : Hid (wN.d = (actM n.d a).1) := hide hdN
  clear h hBB hpool hdN
  subst eB eQ eK
  refine hK5 _ _ ?_
  clear hK5
  have c0 : x.cell? ⟨w.heap.size, 0, none⟩ = some (J Z n.id) := (HPn.out.blkAt (i := 0) rfl).c 0 _ rfl
  have c1 : x.cell? ⟨w.heap.size, 1, none⟩ = some (J Z n.has) := (HPn.out.blkAt (i := 0) rfl).c 1 _ rfl
  have c2 : x.cell? ⟨w.heap.size, 2, none⟩ = some (J Z n.spent) := (HPn.out.blkAt (i := 0) rfl).c 2 _ rfl
  have c3 : x.cell? ⟨w.heap.size, 3, none⟩ = some (J Z n.earned) := (HPn.out.blkAt (i := 0) rfl).c 3 _ rfl
  have c4 : x.cell? ⟨w.heap.size, 4, none⟩ = some (V n.sa n.seen.length n.sc) := (HPn.out.blkAt (i := 0) rfl).c 4 _ rfl
  have c5 : x.cell? ⟨w.heap.size, 5, none⟩ = some (V n.pa n.peers.length n.pc) := (HPn.out.blkAt (i := 0) rfl).c 5 _ rfl
  have HPA : Hid _ := hide HPn.out
  clear HPn HP1
  go_wp2_with fail
  refine (toNode_own n x HS.out (HL.out.below HPA.out.below)).mono ?_
  rintro e w2 ⟨XN, rfl, hdX, hoX, hPX⟩
  have HX : Hid (XN.d = n.d ∧ XN.sa ≠ none ∧ XN.pa ≠ none ∧ ∀ p ∈ XN.peers, p.a ≠ none) := hide ⟨hdX, hoX⟩
  have hp1 := (HPA.out.call (i := 4) (rs := []) rfl hPX).newBlk (i := 5) rfl [J Z XN.id, J Z XN.has, J Z XN.spent, J Z XN.earned, V XN.sa XN.seen.length XN.sc, V XN.pa XN.peers.length XN.pc] 34
  obtain ⟨BX, hBX⟩ : ∃ BX, BX = w2.heap.size := ⟨_, rfl⟩
  obtain ⟨w3, hw3⟩ : ∃ w3, w3 = w2.alloc (.cells #[J Z XN.id, J Z XN.has, J Z XN.spent, J Z XN.earned, V XN.sa XN.seen.length XN.sc, V XN.pa XN.peers.length XN.pc] 34) := ⟨_, rfl⟩
  have HPX : Hid (Pool [] w [[blk w.heap.size [J Z n.id, J Z n.has, J Z n.spent, J Z n.earned, V n.sa n.seen.length n.sc, V n.pa n.peers.length n.pc]], [blk (w.heap.size + 1) [J Z a.kind, J Z a.id, J Z a.to, J Z a.amt, J Z a.msg.fr, J Z a.msg.to, J Z a.msg.kind, J Z a.msg.seq, J Z a.msg.amt]], ndL wN ++ [orow 5 mgCells wA wC (actM n.d a).2.1], [blk BW [J Z wN.id, J Z wN.has, J Z wN.spent, J Z wN.earned, V wN.sa wN.seen.length wN.sc, V wN.pa wN.peers.length wN.pc]], ndL XN, [blk BX [J Z XN.id, J Z XN.has, J Z XN.spent, J Z XN.earned, V XN.sa XN.seen.length XN.sc, V XN.pa XN.peers.length XN.pc]], [], [], [], [], [], []] w3) := hide (by rw [hBX, hw3]; exact hp1)
  have HW3 : Hid _ := hide hw3
  have HBX : Hid _ := hide hBX
  clear hp1 hPX hdX hoX HPA hBX hw3
  unfold ndV
  go_wp2_with fail
  rw [← HBX.out, ← HW3.out]
  clear HBX HW3
  rename_i K7 hK7
  refine wp_region_inv (by kernel_rfl) (fun L act x => ∃ l0 l1 l2 l3 l4 l5 l6 l7 l8 l9 l10 l11 : Bool, ∃ u10 u11 u12 u35 u36 u37 u38 u39 u40 u41 u42 : Value, ∃ gN : Nd, ∃ gA : Option Addr, ∃ gC : Nat, L = #[l0, l1, l2, l3, l4, l5, l6, l7, l8, l9, l10, l11] ∧ act = { tmps := #[Value.agg #[J Z n.id, J Z n.has, J Z n.spent, J Z n.earned, V n.sa n.seen.length n.sc, V n.pa n.peers.length n.pc], Value.agg #[J Z a.kind, J Z a.id, J Z a.to, J Z a.amt, J Z a.msg.fr, J Z a.msg.to, J Z a.msg.kind, J Z a.msg.seq, J Z a.msg.amt], Value.pointer (some { block := w.heap.size, off := 0 }), Value.pointer (some { block := w.heap.size + 1, off := 0 }), Value.bool false, J Z r, Value.pointer (some { block := BW, off := 0 }), V wA (actM n.d a).snd.fst.length wC, J Z (actM n.d a).snd.snd, Value.pointer (some { block := BX, off := 0 }), u10, u11, u12, U, U, U, U, U, U, Value.agg #[J Z n.id, J Z n.has, J Z n.spent, J Z n.earned, V n.sa n.seen.length n.sc, V n.pa n.peers.length n.pc], J Z 1048576, J Z r, J Z r, Value.bool (decide (r < 0)), u24, u25, u26, u27, u28, u29, u30, u31, u32, Value.agg #[J Z n.id, J Z n.has, J Z n.spent, J Z n.earned, V n.sa n.seen.length n.sc, V n.pa n.peers.length n.pc], Value.agg #[J Z XN.id, J Z XN.has, J Z XN.spent, J Z XN.earned, V XN.sa XN.seen.length XN.sc, V XN.pa XN.peers.length XN.pc], u35, u36, u37, u38, u39, u40, u41, u42, U, U, U, U, U, U, U, U, U, U, U, U, U, U, U, U, U, U, U, U, U, U, U, U, U, U, U, U, U, U, U, U, U, U, U, U, U, U, U, U, U, U, U, U, U, U, U, U, U, U, U, U, U, U, U, U, U, U, U, U, U, U, U, U, U, U, U, U, U, U, U, U, U, U, U, U, U, U, U, U, U, U, U, U, U, U, U, U, U, U, U, U, U, U, U, U, U, U], defers := [] } ∧ LaB n XN wN wA wC BW BX a w l0 l1 l2 l3 l4 l5 l6 l7 l8 l9 l10 l11 u10 u11 u12 u35 u36 u37 u38 u39 u40 u41 u42 gN gA gC x) ?_ ?_ ?_
  rotate_left 2
  ·exact ⟨false, false, false, false, false, false, false, false, false, false, false, false, U, U, U, U, U, U, U, U, U, U, U, (n), (none), (0), rfl, rfl, ⟨HPX.out.drew, nofun, nofun, nofun, nofun, nofun, nofun, nofun, nofun, nofun, nofun, nofun, nofun, nofun, nofun, nofun, nofun, nofun, nofun, nofun, nofun, nofun⟩⟩
  ·rintro L act x i ⟨l0, l1, l2, l3, l4, l5, l6, l7, l8, l9, l10, l11, u10, u11, u12, u35, u36, u37, u38, u39, u40, u41, u42, gN, gA, gC, rfl, rfl, h⟩ hi K hK
   have hi15 : i < 12 := by
    obtain ⟨_, o, ho, _⟩ := mem_ready.1 hi
    exact (Array.getElem?_eq_some_iff.1 ho).1
   have hl := (mem_ready.1 hi).1
   obtain rfl | rfl | rfl | rfl | rfl | rfl | rfl | rfl | rfl | rfl | rfl | rfl := (by omega : i = 0 ∨ i = 1 ∨ i = 2 ∨ i = 3 ∨ i = 4 ∨ i = 5 ∨ i = 6 ∨ i = 7 ∨ i = 8 ∨ i = 9 ∨ i = 10 ∨ i = 11)
   ·have e : l0 = false := hl
    subst e
    have c0_ : x.cell? ⟨BX, 0, none⟩ = some (J Z XN.id) := (h.pool.blkAt (i := 5) rfl).c 0 _ rfl
    have c1_ : x.cell? ⟨BX, 1, none⟩ = some (J Z XN.has) := (h.pool.blkAt (i := 5) rfl).c 1 _ rfl
    have c2_ : x.cell? ⟨BX, 2, none⟩ = some (J Z XN.spent) := (h.pool.blkAt (i := 5) rfl).c 2 _ rfl
    have c3_ : x.cell? ⟨BX, 3, none⟩ = some (J Z XN.earned) := (h.pool.blkAt (i := 5) rfl).c 3 _ rfl
    have c4_ : x.cell? ⟨BX, 4, none⟩ = some (V XN.sa XN.seen.length XN.sc) := (h.pool.blkAt (i := 5) rfl).c 4 _ rfl
    have c5_ : x.cell? ⟨BX, 5, none⟩ = some (V XN.pa XN.peers.length XN.pc) := (h.pool.blkAt (i := 5) rfl).c 5 _ rfl
    refine wpOp_run (v := .agg #[J Z XN.id, J Z XN.has, J Z XN.spent, J Z XN.earned, V XN.sa XN.seen.length XN.sc, V XN.pa XN.peers.length XN.pc]) (w' := x) (by rfl) (by rfl) ?_ (hK _ _ ⟨true, l1, l2, l3, l4, l5, l6, l7, l8, l9, l10, l11, u10, u11, u12, u35, (.agg #[J Z XN.id, J Z XN.has, J Z XN.spent, J Z XN.earned, V XN.sa XN.seen.length XN.sc, V XN.pa XN.peers.length XN.pc]), u37, u38, u39, u40, u41, u42, (gN), (gA), (gC), rfl, rfl, { h with p36 := fun _ => rfl }⟩)
    go_simp
   ·have e : l1 = false := hl
    subst e
    have c0_ : x.cell? ⟨w.heap.size + 1, 0, none⟩ = some (J Z a.kind) := (h.pool.blkAt (i := 1) rfl).c 0 _ rfl
    have c1_ : x.cell? ⟨w.heap.size + 1, 1, none⟩ = some (J Z a.id) := (h.pool.blkAt (i := 1) rfl).c 1 _ rfl
    have c2_ : x.cell? ⟨w.heap.size + 1, 2, none⟩ = some (J Z a.to) := (h.pool.blkAt (i := 1) rfl).c 2 _ rfl
    have c3_ : x.cell? ⟨w.heap.size + 1, 3, none⟩ = some (J Z a.amt) := (h.pool.blkAt (i := 1) rfl).c 3 _ rfl
    have c4_ : x.cell? ⟨w.heap.size + 1, 4, none⟩ = some (J Z a.msg.fr) := (h.pool.blkAt (i := 1) rfl).c 4 _ rfl
    have c5_ : x.cell? ⟨w.heap.size + 1, 5, none⟩ = some (J Z a.msg.to) := (h.pool.blkAt (i := 1) rfl).c 5 _ rfl
    have c6_ : x.cell? ⟨w.heap.size + 1, 6, none⟩ = some (J Z a.msg.kind) := (h.pool.blkAt (i := 1) rfl).c 6 _ rfl
    have c7_ : x.cell? ⟨w.heap.size + 1, 7, none⟩ = some (J Z a.msg.seq) := (h.pool.blkAt (i := 1) rfl).c 7 _ rfl
    have c8_ : x.cell? ⟨w.heap.size + 1, 8, none⟩ = some (J Z a.msg.amt) := (h.pool.blkAt (i := 1) rfl).c 8 _ rfl
    refine wpOp_run (v := .agg #[J Z a.kind, J Z a.id, J Z a.to, J Z a.amt, J Z a.msg.fr, J Z a.msg.to, J Z a.msg.kind, J Z a.msg.seq, J Z a.msg.amt]) (w' := x) (by rfl) (by rfl) ?_ (hK _ _ ⟨l0, true, l2, l3, l4, l5, l6, l7, l8, l9, l10, l11, u10, u11, u12, u35, u36, (.agg #[J Z a.kind, J Z a.id, J Z a.to, J Z a.amt, J Z a.msg.fr, J Z a.msg.to, J Z a.msg.kind, J Z a.msg.seq, J Z a.msg.amt]), u38, u39, u40, u41, u42, (gN), (gA), (gC), rfl, rfl, { h with p37 := fun _ => rfl }⟩)
    go_simp
   ·have e : l2 = false := hl
    subst e
    have d1 : l1 = true := ready_on hi 1 (by kernel_rfl)
    subst d1
    refine wpOp_call (by rfl) (by rfl) ?_ (toNAct_any a x) ?_
    ·rw [h.p37 rfl]; go_simp; rfl
    ·rintro e w' ⟨rfl, hbA⟩
     exact ⟨_, rfl, hK _ _ ⟨l0, true, true, l3, l4, l5, l6, l7, l8, l9, l10, l11, u10, u11, u12, u35, u36, u37, (a.v), u39, u40, u41, u42, (gN), (gA), (gC), rfl, rfl, { h with qA := (fun _ => rfl), pool := (h.pool.keep hbA) }⟩⟩
   ·have e : l3 = false := hl
    subst e
    have d0 : l0 = true := ready_on hi 0 (by kernel_rfl)
    subst d0
    have d2 : l2 = true := ready_on hi 2 (by kernel_rfl)
    subst d2
    have z4 : l4 = false := by
     cases hz : l4
     ·rfl
     ·exact absurd (h.d4_3 hz) (by simp)
    subst z4
    have z5 : l5 = false := by
     cases hz : l5
     ·rfl
     ·exact absurd (h.d5_3 hz) (by simp)
    subst z5
    have z6 : l6 = false := by
     cases hz : l6
     ·rfl
     ·exact absurd (h.d6_3 hz) (by simp)
    subst z6
    have z9 : l9 = false := by
     cases hz : l9
     ·rfl
     ·exact absurd (h.d9_3 hz) (by simp)
    subst z9
    have z10 : l10 = false := by
     cases hz : l10
     ·rfl
     ·exact absurd (h.d10_3 hz) (by simp)
    subst z10
    obtain ⟨hdT, h1T, h2T, h3T⟩ := HX.out
    refine wpOp_call (by rfl) (by rfl) ?_ (ActedEnd_of hdT (implActed_any XN a x (smN_of hdT HS.out) (fun e => absurd e h1T) (fun e => absurd e h2T) (fun p hp e => absurd e (h3T p hp)) (h.pool.get (i := 4) rfl).node)) ?_
    ·rw [h.p36 rfl]; rw [h.qA rfl]; go_simp; try rfl
    ·rintro e w' ⟨nN, nA, nC, rfl, hdN, hPN⟩
     exact ⟨_, rfl, hK _ _ ⟨true, l1, true, true, false, false, false, l7, l8, false, false, l11, u10, u11, u12, u35, u36, u37, u38, (.tuple #[ndV nN, V nA (actM n.d a).2.1.length nC, J Z (actM n.d a).2.2]), u40, u41, u42, (nN), (nA), (nC), rfl, rfl, { h with qC := (fun _ => ⟨rfl, hdN⟩), qM := (fun q => by cases q), q0 := (fun q => by cases q), q1 := (fun q => by cases q), qQ := (fun q => by cases q), pool := (h.pool.call (i := 6) (rs := []) rfl (hPN.cast (S' := [ndL nN ++ [orow 5 mgCells nA nC (actM n.d a).2.1]]) (by simp))), d4_3 := fun _ => rfl, d5_3 := fun _ => rfl, d6_3 := fun _ => rfl, d9_3 := fun _ => rfl, d10_3 := fun _ => rfl }⟩⟩
   ·have e : l4 = false := hl
    subst e
    have d3 : l3 = true := ready_on hi 3 (by kernel_rfl)
    subst d3
    have z5 : l5 = false := by
     cases hz : l5
     ·rfl
     ·exact absurd (h.d5_4 hz) (by simp)
    subst z5
    have z6 : l6 = false := by
     cases hz : l6
     ·rfl
     ·exact absurd (h.d6_4 hz) (by simp)
    subst z6
    refine wpOp_run (v := .tuple #[ndV gN, V gA (actM n.d a).2.1.length gC, J Z (actM n.d a).2.2]) (w' := x) (by rfl) (by rfl) ?_ (hK _ _ ⟨l0, l1, l2, true, true, false, false, l7, l8, l9, l10, l11, u10, u11, u12, (.tuple #[ndV gN, V gA (actM n.d a).2.1.length gC, J Z (actM n.d a).2.2]), u36, u37, u38, u39, u40, u41, u42, (gN), (gA), (gC), rfl, rfl, { h with qM := (fun _ => rfl), d4_3 := fun _ => rfl, d5_4 := fun _ => rfl, d6_4 := fun _ => rfl }⟩)
    rw [(h.qC rfl).1]
    go_simp
   ·have e : l5 = false := hl
    subst e
    have d4 : l4 = true := ready_on hi 4 (by kernel_rfl)
    subst d4
    have z9 : l9 = false := by
     cases hz : l9
     ·rfl
     ·exact absurd (h.d9_5 hz) (by simp)
    subst z9
    refine wpOp_run (v := ndV gN) (w' := x) (by rfl) (by rfl) ?_ (hK _ _ ⟨l0, l1, l2, l3, true, true, l6, l7, l8, false, l10, l11, u10, u11, u12, u35, u36, u37, u38, u39, (ndV gN), u41, u42, (gN), (gA), (gC), rfl, rfl, { h with q0 := (fun _ => rfl), d5_3 := fun _ => h.d4_3 rfl, d5_4 := fun _ => rfl, d9_5 := fun _ => rfl }⟩)
    rw [h.qM rfl]
    go_simp
   ·have e : l6 = false := hl
    subst e
    have d4 : l4 = true := ready_on hi 4 (by kernel_rfl)
    subst d4
    have z10 : l10 = false := by
     cases hz : l10
     ·rfl
     ·exact absurd (h.d10_6 hz) (by simp)
    subst z10
    refine wpOp_run (v := V gA (actM n.d a).2.1.length gC) (w' := x) (by rfl) (by rfl) ?_ (hK _ _ ⟨l0, l1, l2, l3, true, l5, true, l7, l8, l9, false, l11, u10, u11, u12, u35, u36, u37, u38, u39, u40, (V gA (actM n.d a).2.1.length gC), u42, (gN), (gA), (gC), rfl, rfl, { h with q1 := (fun _ => rfl), d6_3 := fun _ => h.d4_3 rfl, d6_4 := fun _ => rfl, d10_6 := fun _ => rfl }⟩)
    rw [h.qM rfl]
    go_simp
   ·have e : l7 = false := hl
    subst e
    have d4 : l4 = true := ready_on hi 4 (by kernel_rfl)
    subst d4
    refine wpOp_run (v := J Z (actM n.d a).2.2) (w' := x) (by rfl) (by rfl) ?_ (hK _ _ ⟨l0, l1, l2, l3, true, l5, l6, true, l8, l9, l10, l11, u10, u11, u12, u35, u36, u37, u38, u39, u40, u41, (J Z (actM n.d a).2.2), (gN), (gA), (gC), rfl, rfl, { h with q2 := (fun _ => rfl) }⟩)
    rw [h.qM rfl]
    go_simp
   ·have e : l8 = false := hl
    subst e
    have z9 : l9 = false := by
     cases hz : l9
     ·rfl
     ·exact absurd (h.d9_8 hz) (by simp)
    subst z9
    refine wpOp_run (v := .pointer (some ⟨x.heap.size, 0, none⟩)) (w' := x.alloc (.cells #[J Z 0, J Z 0, J Z 0, J Z 0, V none 0 0, V none 0 0] 34)) (by rfl) (by rfl) ?_ (hK _ _ ⟨l0, l1, l2, l3, l4, l5, l6, l7, true, false, l10, l11, (.pointer (some ⟨x.heap.size, 0, none⟩)), u11, u12, u35, u36, u37, u38, u39, u40, u41, u42, (gN), (gA), (gC), rfl, rfl, { h with qB := (fun _ => rfl), pool := (h.pool.newBlk (i := 7) rfl [J Z 0, J Z 0, J Z 0, J Z 0, V none 0 0, V none 0 0] 34), d9_8 := fun _ => rfl }⟩)
    go_simp
   ·have e : l9 = false := hl
    subst e
    have d0 : l0 = true := ready_on hi 0 (by kernel_rfl)
    subst d0
    have d1 : l1 = true := ready_on hi 1 (by kernel_rfl)
    subst d1
    have d2 : l2 = true := ready_on hi 2 (by kernel_rfl)
    subst d2
    have d3 : l3 = true := ready_on hi 3 (by kernel_rfl)
    subst d3
    have d4 : l4 = true := ready_on hi 4 (by kernel_rfl)
    subst d4
    have d5 : l5 = true := ready_on hi 5 (by kernel_rfl)
    subst d5
    have d8 : l8 = true := ready_on hi 8 (by kernel_rfl)
    subst d8
    refine wpOp_skip (w' := ((((((x.setCell ⟨ptB u10, 0, none⟩ (J Z gN.id)).setCell ⟨ptB u10, 1, none⟩ (J Z gN.has)).setCell ⟨ptB u10, 2, none⟩ (J Z gN.spent)).setCell ⟨ptB u10, 3, none⟩ (J Z gN.earned)).setCell ⟨ptB u10, 4, none⟩ (V gN.sa gN.seen.length gN.sc)).setCell ⟨ptB u10, 5, none⟩ (V gN.pa gN.peers.length gN.pc))) (by rfl) (by rfl) ?_ (hK _ _ ⟨true, true, true, true, true, true, l6, l7, true, true, l10, l11, u10, u11, u12, u35, u36, u37, u38, u39, u40, u41, u42, (gN), (gA), (gC), rfl, rfl, { h with pool := (h.pool.set6 (i := 7) rfl (J Z gN.id) (J Z gN.has) (J Z gN.spent) (J Z gN.earned) (V gN.sa gN.seen.length gN.sc) (V gN.pa gN.peers.length gN.pc)), d9_3 := fun _ => rfl, d9_8 := fun _ => rfl, d9_5 := fun _ => rfl }⟩)
    have A_ := h.pool.blkAt (i := 7) rfl
    have t0 := A_.c 0 _ rfl
    have f0 := A_.f 0
    have t1 := A_.c 1 _ rfl
    have f1 := A_.f 1
    have t2 := A_.c 2 _ rfl
    have f2 := A_.f 2
    have t3 := A_.c 3 _ rfl
    have f3 := A_.f 3
    have t4 := A_.c 4 _ rfl
    have f4 := A_.f 4
    have t5 := A_.c 5 _ rfl
    have f5 := A_.f 5
    obtain ⟨P8, hP8⟩ : ∃ P8, P8 = ptB u10 := ⟨_, rfl⟩
    have e8 := h.qB rfl
    rw [h.q0 rfl]
    unfold ndV
    rw [← hP8] at t0 t1 t2 t3 t4 t5 f0 f1 f2 f3 f4 f5 e8 ⊢
    rw [e8]
    clear e8 hP8 A_ h
    go_simp
   ·have e : l10 = false := hl
    subst e
    have d0 : l0 = true := ready_on hi 0 (by kernel_rfl)
    subst d0
    have d1 : l1 = true := ready_on hi 1 (by kernel_rfl)
    subst d1
    have d2 : l2 = true := ready_on hi 2 (by kernel_rfl)
    subst d2
    have d3 : l3 = true := ready_on hi 3 (by kernel_rfl)
    subst d3
    have d4 : l4 = true := ready_on hi 4 (by kernel_rfl)
    subst d4
    have d5 : l5 = true := ready_on hi 5 (by kernel_rfl)
    subst d5
    have d6 : l6 = true := ready_on hi 6 (by kernel_rfl)
    subst d6
    have d8 : l8 = true := ready_on hi 8 (by kernel_rfl)
    subst d8
    have d9 : l9 = true := ready_on hi 9 (by kernel_rfl)
    subst d9
    refine wpOp_run (v := V gA (actM n.d a).2.1.length gC) (w' := x) (by rfl) (by rfl) ?_ (hK _ _ ⟨true, true, true, true, true, true, true, l7, true, true, true, l11, u10, (V gA (actM n.d a).2.1.length gC), u12, u35, u36, u37, u38, u39, u40, u41, u42, (gN), (gA), (gC), rfl, rfl, { h with qQ := (fun _ => rfl), d10_3 := fun _ => rfl, d10_6 := fun _ => rfl }⟩)
    rw [h.q1 rfl]
    go_simp
   ·have e : l11 = false := hl
    subst e
    have d0 : l0 = true := ready_on hi 0 (by kernel_rfl)
    subst d0
    have d1 : l1 = true := ready_on hi 1 (by kernel_rfl)
    subst d1
    have d2 : l2 = true := ready_on hi 2 (by kernel_rfl)
    subst d2
    have d3 : l3 = true := ready_on hi 3 (by kernel_rfl)
    subst d3
    have d4 : l4 = true := ready_on hi 4 (by kernel_rfl)
    subst d4
    have d5 : l5 = true := ready_on hi 5 (by kernel_rfl)
    subst d5
    have d6 : l6 = true := ready_on hi 6 (by kernel_rfl)
    subst d6
    have d7 : l7 = true := ready_on hi 7 (by kernel_rfl)
    subst d7
    have d8 : l8 = true := ready_on hi 8 (by kernel_rfl)
    subst d8
    have d9 : l9 = true := ready_on hi 9 (by kernel_rfl)
    subst d9
    have d10 : l10 = true := ready_on hi 10 (by kernel_rfl)
    subst d10
    refine wpOp_run (v := J Z (actM n.d a).2.2) (w' := x) (by rfl) (by rfl) ?_ (hK _ _ ⟨true, true, true, true, true, true, true, true, true, true, true, true, u10, u11, (J Z (actM n.d a).2.2), u35, u36, u37, u38, u39, u40, u41, u42, (gN), (gA), (gC), rfl, rfl, { h with qK := (fun _ => rfl) }⟩)
    rw [h.q2 rfl]
    go_simp
  ·rintro L act x ⟨l0, l1, l2, l3, l4, l5, l6, l7, l8, l9, l10, l11, u10, u11, u12, u35, u36, u37, u38, u39, u40, u41, u42, gN, gA, gC, rfl, rfl, h⟩ hr
   have hall := ready_all hr rfl (by decide)
   have t0 : l0 = true := hall 0 (by decide)
   have t1 : l1 = true := hall 1 (by decide)
   have t2 : l2 = true := hall 2 (by decide)
   have t3 : l3 = true := hall 3 (by decide)
   have t4 : l4 = true := hall 4 (by decide)
   have t5 : l5 = true := hall 5 (by decide)
   have t6 : l6 = true := hall 6 (by decide)
   have t7 : l7 = true := hall 7 (by decide)
   have t8 : l8 = true := hall 8 (by decide)
   have t9 : l9 = true := hall 9 (by decide)
   have t10 : l10 = true := hall 10 (by decide)
   have t11 : l11 = true := hall 11 (by decide)
   subst t0 t1 t2 t3 t4 t5 t6 t7 t8 t9 t10 t11
   clear hall hr
   have hdN := (h.qC rfl).2
   have eB := h.qB rfl
   have eQ := h.qQ rfl
   have eK := h.qK rfl
   obtain ⟨BG, hBB⟩ : ∃ P, P = ptB u10 := ⟨_, rfl⟩
   have hpool := h.pool
   have HPn : Hid (Pool [] w [[blk w.heap.size [J Z n.id, J Z n.has, J Z n.spent, J Z n.earned, V n.sa n.seen.length n.sc, V n.pa n.peers.length n.pc]], [blk (w.heap.size + 1) [J Z a.kind, J Z a.id, J Z a.to, J Z a.amt, J Z a.msg.fr, J Z a.msg.to, J Z a.msg.kind, J Z a.msg.seq, J Z a.msg.amt]], ndL wN ++ [orow 5 mgCells wA wC (actM n.d a).2.1], [blk BW [J Z wN.id, J Z wN.has, J Z wN.spent, J Z wN.earned, V wN.sa wN.seen.length wN.sc, V wN.pa wN.peers.length wN.pc]], ndL XN, [blk BX [J Z XN.id, J Z XN.has, J Z XN.spent, J Z XN.earned, V XN.sa XN.seen.length XN.sc, V XN.pa XN.peers.length XN.pc]], ndL gN ++ [orow 5 mgCells gA gC (actM n.d a).2.1], [blk BG [J Z gN.id, J Z gN.has, J Z gN.spent, J Z gN.earned, V gN.sa gN.seen.length gN.sc, V gN.pa gN.peers.length gN.pc]], [], [], [], []] x) := hide (by rw [hBB]; exact hpool)
   rw [← hBB] at eB
   have HDg : Hid (gN.d = (actM n.d a).1) := hide hdN
   clear h hBB hpool hdN
   subst eB eQ eK
   refine hK7 _ _ ?_
   clear hK7
   have HSg : Hid (SmN gN) := hide (smN_d.2 (by rw [HDg.out]; exact HAS.out.1))
   have HPG : Hid (Pool [] w [[blk w.heap.size [J Z n.id, J Z n.has, J Z n.spent, J Z n.earned, V n.sa n.seen.length n.sc, V n.pa n.peers.length n.pc]], [blk (w.heap.size + 1) [J Z a.kind, J Z a.id, J Z a.to, J Z a.amt, J Z a.msg.fr, J Z a.msg.to, J Z a.msg.kind, J Z a.msg.seq, J Z a.msg.amt]], ndL wN ++ [orow 5 mgCells wA wC (actM n.d a).2.1], [blk BW [J Z wN.id, J Z wN.has, J Z wN.spent, J Z wN.earned, V wN.sa wN.seen.length wN.sc, V wN.pa wN.peers.length wN.pc]], ndL XN, [blk BX [J Z XN.id, J Z XN.has, J Z XN.spent, J Z XN.earned, V XN.sa XN.seen.length XN.sc, V XN.pa XN.peers.length XN.pc]], ndL gN, [blk BG [J Z gN.id, J Z gN.has, J Z gN.spent, J Z gN.earned, V gN.sa gN.seen.length gN.sc, V gN.pa gN.peers.length gN.pc]], [orow 5 mgCells gA gC (actM n.d a).2.1], [], [], []] x) := hide (HPn.out.split (i := 6) (j := 8) (by decide) rfl rfl)
   clear HPn HPX
   have gc0 : x.cell? ⟨BG, 0, none⟩ = some (J Z gN.id) := (HPG.out.blkAt (i := 7) rfl).c 0 _ rfl
   have gc1 : x.cell? ⟨BG, 1, none⟩ = some (J Z gN.has) := (HPG.out.blkAt (i := 7) rfl).c 1 _ rfl
   have gc2 : x.cell? ⟨BG, 2, none⟩ = some (J Z gN.spent) := (HPG.out.blkAt (i := 7) rfl).c 2 _ rfl
   have gc3 : x.cell? ⟨BG, 3, none⟩ = some (J Z gN.earned) := (HPG.out.blkAt (i := 7) rfl).c 3 _ rfl
   have gc4 : x.cell? ⟨BG, 4, none⟩ = some (V gN.sa gN.seen.length gN.sc) := (HPG.out.blkAt (i := 7) rfl).c 4 _ rfl
   have gc5 : x.cell? ⟨BG, 5, none⟩ = some (V gN.pa gN.peers.length gN.pc) := (HPG.out.blkAt (i := 7) rfl).c 5 _ rfl
   have wc0 : x.cell? ⟨BW, 0, none⟩ = some (J Z wN.id) := (HPG.out.blkAt (i := 3) rfl).c 0 _ rfl
   have wc1 : x.cell? ⟨BW, 1, none⟩ = some (J Z wN.has) := (HPG.out.blkAt (i := 3) rfl).c 1 _ rfl
   have wc2 : x.cell? ⟨BW, 2, none⟩ = some (J Z wN.spent) := (HPG.out.blkAt (i := 3) rfl).c 2 _ rfl
   have wc3 : x.cell? ⟨BW, 3, none⟩ = some (J Z wN.earned) := (HPG.out.blkAt (i := 3) rfl).c 3 _ rfl
   have wc4 : x.cell? ⟨BW, 4, none⟩ = some (V wN.sa wN.seen.length wN.sc) := (HPG.out.blkAt (i := 3) rfl).c 4 _ rfl
   have wc5 : x.cell? ⟨BW, 5, none⟩ = some (V wN.pa wN.peers.length wN.pc) := (HPG.out.blkAt (i := 3) rfl).c 5 _ rfl
   go_wp2_with fail
   refine (eqNode_same gN wN x HSg.out (by rw [HDw.out, HDg.out]) (HPG.out.get (i := 6) rfl).node (Star.left (HPG.out.get (i := 2) rfl)).node).mono ?_
   rintro e w4 ⟨rfl, hb4⟩
   have HPH : Hid (Pool [] w [[blk w.heap.size [J Z n.id, J Z n.has, J Z n.spent, J Z n.earned, V n.sa n.seen.length n.sc, V n.pa n.peers.length n.pc]], [blk (w.heap.size + 1) [J Z a.kind, J Z a.id, J Z a.to, J Z a.amt, J Z a.msg.fr, J Z a.msg.to, J Z a.msg.kind, J Z a.msg.seq, J Z a.msg.amt]], ndL wN ++ [orow 5 mgCells wA wC (actM n.d a).2.1], [blk BW [J Z wN.id, J Z wN.has, J Z wN.spent, J Z wN.earned, V wN.sa wN.seen.length wN.sc, V wN.pa wN.peers.length wN.pc]], ndL XN, [blk BX [J Z XN.id, J Z XN.has, J Z XN.spent, J Z XN.earned, V XN.sa XN.seen.length XN.sc, V XN.pa XN.peers.length XN.pc]], ndL gN, [blk BG [J Z gN.id, J Z gN.has, J Z gN.spent, J Z gN.earned, V gN.sa gN.seen.length gN.sc, V gN.pa gN.peers.length gN.pc]], [orow 5 mgCells gA gC (actM n.d a).2.1], [], [], []] w4) := hide (HPG.out.keep hb4)
   clear hb4 HPG
   go_wp2_with fail
   refine (eqMsgS_any gA wA (actM n.d a).2.1 gC wC w4 HAS.out.2 (HPH.out.orowAt (i := 8) rfl).rows (msg_rows (HPH.out.get (i := 2) rfl))).mono ?_
   rintro e w5 ⟨rfl, hb5⟩
   have HPI : Hid (Pool [] w [[blk w.heap.size [J Z n.id, J Z n.has, J Z n.spent, J Z n.earned, V n.sa n.seen.length n.sc, V n.pa n.peers.length n.pc]], [blk (w.heap.size + 1) [J Z a.kind, J Z a.id, J Z a.to, J Z a.amt, J Z a.msg.fr, J Z a.msg.to, J Z a.msg.kind, J Z a.msg.seq, J Z a.msg.amt]], ndL wN ++ [orow 5 mgCells wA wC (actM n.d a).2.1], [blk BW [J Z wN.id, J Z wN.has, J Z wN.spent, J Z wN.earned, V wN.sa wN.seen.length wN.sc, V wN.pa wN.peers.length wN.pc]], ndL XN, [blk BX [J Z XN.id, J Z XN.has, J Z XN.spent, J Z XN.earned, V XN.sa XN.seen.length XN.sc, V XN.pa XN.peers.length XN.pc]], ndL gN, [blk BG [J Z gN.id, J Z gN.has, J Z gN.spent, J Z gN.earned, V gN.sa gN.seen.length gN.sc, V gN.pa gN.peers.length gN.pc]], [orow 5 mgCells gA gC (actM n.d a).2.1], [], [], []] w5) := hide (HPH.out.keep hb5)
   clear hb5 HPH
   clear gc0 gc1 gc2 gc3 gc4 gc5 wc0 wc1 wc2 wc3 wc4 wc5
   go_wp2_with fail
   rename_i KA hKA
   refine wp_region_inv (by kernel_rfl) (fun L act x => ∃ l0 l1 l2 l3 l4 : Bool, ∃ u58 u59 u60 u61 u62 : Value, ∃ ET : Nd, L = #[l0, l1, l2, l3, l4] ∧ act = { tmps := #[Value.agg #[J Z n.id, J Z n.has, J Z n.spent, J Z n.earned, V n.sa n.seen.length n.sc, V n.pa n.peers.length n.pc], Value.agg #[J Z a.kind, J Z a.id, J Z a.to, J Z a.amt, J Z a.msg.fr, J Z a.msg.to, J Z a.msg.kind, J Z a.msg.seq, J Z a.msg.amt], Value.pointer (some { block := w.heap.size, off := 0 }), Value.pointer (some { block := w.heap.size + 1, off := 0 }), Value.bool false, J Z r, Value.pointer (some { block := BW, off := 0 }), V wA (actM n.d a).snd.fst.length wC, J Z (actM n.d a).snd.snd, Value.pointer (some { block := BX, off := 0 }), Value.pointer (some { block := BG, off := 0 }), V gA (actM n.d a).snd.fst.length gC, J Z (actM n.d a).snd.snd, U, U, U, U, U, U, Value.agg #[J Z n.id, J Z n.has, J Z n.spent, J Z n.earned, V n.sa n.seen.length n.sc, V n.pa n.peers.length n.pc], J Z 1048576, J Z r, J Z r, Value.bool (decide (r < 0)), u24, u25, u26, u27, u28, u29, u30, u31, u32, Value.agg #[J Z n.id, J Z n.has, J Z n.spent, J Z n.earned, V n.sa n.seen.length n.sc, V n.pa n.peers.length n.pc], Value.agg #[J Z XN.id, J Z XN.has, J Z XN.spent, J Z XN.earned, V XN.sa XN.seen.length XN.sc, V XN.pa XN.peers.length XN.pc], u35, u36, u37, u38, u39, u40, u41, u42, Value.agg #[J Z gN.id, J Z gN.has, J Z gN.spent, J Z gN.earned, V gN.sa gN.seen.length gN.sc, V gN.pa gN.peers.length gN.pc], Value.agg #[J Z wN.id, J Z wN.has, J Z wN.spent, J Z wN.earned, V wN.sa wN.seen.length wN.sc, V wN.pa wN.peers.length wN.pc], Value.bool true, Value.bool false, Value.bool false, V gA (actM n.d a).snd.fst.length gC, V wA (actM n.d a).snd.fst.length wC, Value.bool true, Value.bool false, Value.bool false, Value.bool false, J Z (actM n.d a).snd.snd, J Z (actM n.d a).snd.snd, Value.bool false, Value.bool false, u58, u59, u60, u61, u62, U, U, U, U, U, U, U, U, U, U, U, U, U, U, U, U, U, U, U, U, U, U, U, U, U, U, U, U, U, U, U, U, U, U, U, U, U, U, U, U, U, U, U, U, U, U, U, U, U, U, U, U, U, U, U, U, U, U, U, U, U, U, U, U, U, U, U, U, U, U, U, U, U, U, U, U, U, U], defers := [] } ∧ LaC n XN wN gN wA gA wC gC BW BX BG a w l0 l1 l2 l3 l4 u58 u59 u60 u61 u62 ET x) ?_ ?_ ?_
   rotate_left 2
   ·exact ⟨false, false, false, false, false, U, U, U, U, U, (n), rfl, rfl, ⟨HPI.out.drew, nofun, nofun, nofun, nofun, nofun, nofun⟩⟩
   ·rintro L act x i ⟨l0, l1, l2, l3, l4, u58, u59, u60, u61, u62, ET, rfl, rfl, h⟩ hi K hK
    have hi15 : i < 5 := by
     obtain ⟨_, o, ho, _⟩ := mem_ready.1 hi
     exact (Array.getElem?_eq_some_iff.1 ho).1
    have hl := (mem_ready.1 hi).1
    obtain rfl | rfl | rfl | rfl | rfl := (by omega : i = 0 ∨ i = 1 ∨ i = 2 ∨ i = 3 ∨ i = 4)
    ·have e : l0 = false := hl
     subst e
     have c0_ : x.cell? ⟨BX, 0, none⟩ = some (J Z XN.id) := (h.pool.blkAt (i := 5) rfl).c 0 _ rfl
     have c1_ : x.cell? ⟨BX, 1, none⟩ = some (J Z XN.has) := (h.pool.blkAt (i := 5) rfl).c 1 _ rfl
     have c2_ : x.cell? ⟨BX, 2, none⟩ = some (J Z XN.spent) := (h.pool.blkAt (i := 5) rfl).c 2 _ rfl
     have c3_ : x.cell? ⟨BX, 3, none⟩ = some (J Z XN.earned) := (h.pool.blkAt (i := 5) rfl).c 3 _ rfl
     have c4_ : x.cell? ⟨BX, 4, none⟩ = some (V XN.sa XN.seen.length XN.sc) := (h.pool.blkAt (i := 5) rfl).c 4 _ rfl
     have c5_ : x.cell? ⟨BX, 5, none⟩ = some (V XN.pa XN.peers.length XN.pc) := (h.pool.blkAt (i := 5) rfl).c 5 _ rfl
     refine wpOp_run (v := .agg #[J Z XN.id, J Z XN.has, J Z XN.spent, J Z XN.earned, V XN.sa XN.seen.length XN.sc, V XN.pa XN.peers.length XN.pc]) (w' := x) (by rfl) (by rfl) ?_ (hK _ _ ⟨true, l1, l2, l3, l4, (.agg #[J Z XN.id, J Z XN.has, J Z XN.spent, J Z XN.earned, V XN.sa XN.seen.length XN.sc, V XN.pa XN.peers.length XN.pc]), u59, u60, u61, u62, (ET), rfl, rfl, { h with p58 := fun _ => rfl }⟩)
     go_simp
    ·have e : l1 = false := hl
     subst e
     have c0_ : x.cell? ⟨w.heap.size, 0, none⟩ = some (J Z n.id) := (h.pool.blkAt (i := 0) rfl).c 0 _ rfl
     have c1_ : x.cell? ⟨w.heap.size, 1, none⟩ = some (J Z n.has) := (h.pool.blkAt (i := 0) rfl).c 1 _ rfl
     have c2_ : x.cell? ⟨w.heap.size, 2, none⟩ = some (J Z n.spent) := (h.pool.blkAt (i := 0) rfl).c 2 _ rfl
     have c3_ : x.cell? ⟨w.heap.size, 3, none⟩ = some (J Z n.earned) := (h.pool.blkAt (i := 0) rfl).c 3 _ rfl
     have c4_ : x.cell? ⟨w.heap.size, 4, none⟩ = some (V n.sa n.seen.length n.sc) := (h.pool.blkAt (i := 0) rfl).c 4 _ rfl
     have c5_ : x.cell? ⟨w.heap.size, 5, none⟩ = some (V n.pa n.peers.length n.pc) := (h.pool.blkAt (i := 0) rfl).c 5 _ rfl
     refine wpOp_run (v := .agg #[J Z n.id, J Z n.has, J Z n.spent, J Z n.earned, V n.sa n.seen.length n.sc, V n.pa n.peers.length n.pc]) (w' := x) (by rfl) (by rfl) ?_ (hK _ _ ⟨l0, true, l2, l3, l4, u58, (.agg #[J Z n.id, J Z n.has, J Z n.spent, J Z n.earned, V n.sa n.seen.length n.sc, V n.pa n.peers.length n.pc]), u60, u61, u62, (ET), rfl, rfl, { h with p59 := fun _ => rfl }⟩)
     go_simp
    ·have e : l2 = false := hl
     subst e
     have d1 : l1 = true := ready_on hi 1 (by kernel_rfl)
     subst d1
     have z3 : l3 = false := by
      cases hz : l3
      ·rfl
      ·exact absurd (h.d3_2 hz) (by simp)
     subst z3
     refine wpOp_call (by rfl) (by rfl) ?_ (toNode_own n x HS.out (HL.out.below h.pool.below)) ?_
     ·rw [h.p59 rfl]; go_simp
     ·rintro e w' ⟨nT, rfl, hdT, hoT, hPT⟩
      exact ⟨_, rfl, hK _ _ ⟨l0, true, true, false, l4, u58, u59, (ndV nT), u61, u62, (nT), rfl, rfl, { h with qT := (fun _ => ⟨rfl, hdT⟩), pool := (h.pool.call (i := 9) (rs := []) rfl hPT), d3_2 := fun _ => rfl }⟩⟩
    ·have e : l3 = false := hl
     subst e
     have d0 : l0 = true := ready_on hi 0 (by kernel_rfl)
     subst d0
     have d2 : l2 = true := ready_on hi 2 (by kernel_rfl)
     subst d2
     obtain ⟨eT, hdT⟩ := h.qT rfl
     refine wpOp_call (by rfl) (by rfl) ?_ (eqNode_same XN ET x (smN_of HX.out.1 HS.out) (by rw [hdT, HX.out.1]) (h.pool.get (i := 4) rfl).node (h.pool.get (i := 9) rfl).node) ?_
     ·rw [h.p58 rfl]; rw [eT]; go_simp; try rfl
     ·rintro e w' ⟨rfl, hb⟩
      exact ⟨_, rfl, hK _ _ ⟨true, l1, true, true, l4, u58, u59, u60, (.bool true), u62, (ET), rfl, rfl, { h with q61 := (fun _ => rfl), pool := (h.pool.keep hb), d3_2 := fun _ => rfl }⟩⟩
    ·have e : l4 = false := hl
     subst e
     have d3 : l3 = true := ready_on hi 3 (by kernel_rfl)
     subst d3
     refine wpOp_run (v := .bool false) (w' := x) (by rfl) (by rfl) ?_ (hK _ _ ⟨l0, l1, l2, true, true, u58, u59, u60, u61, (.bool false), (ET), rfl, rfl, { h with q62 := (fun _ => rfl) }⟩)
     rw [h.q61 rfl]
     go_simp
   ·rintro L act x ⟨l0, l1, l2, l3, l4, u58, u59, u60, u61, u62, ET, rfl, rfl, h⟩ hr
    have hall := ready_all hr rfl (by decide)
    have t0 : l0 = true := hall 0 (by decide)
    have t1 : l1 = true := hall 1 (by decide)
    have t2 : l2 = true := hall 2 (by decide)
    have t3 : l3 = true := hall 3 (by decide)
    have t4 : l4 = true := hall 4 (by decide)
    subst t0 t1 t2 t3 t4
    clear hall hr
    have e62 := h.q62 rfl
    have HPJ : Hid (Pool [] w [[blk w.heap.size [J Z n.id, J Z n.has, J Z n.spent, J Z n.earned, V n.sa n.seen.length n.sc, V n.pa n.peers.length n.pc]], [blk (w.heap.size + 1) [J Z a.kind, J Z a.id, J Z a.to, J Z a.amt, J Z a.msg.fr, J Z a.msg.to, J Z a.msg.kind, J Z a.msg.seq, J Z a.msg.amt]], ndL wN ++ [orow 5 mgCells wA wC (actM n.d a).2.1], [blk BW [J Z wN.id, J Z wN.has, J Z wN.spent, J Z wN.earned, V wN.sa wN.seen.length wN.sc, V wN.pa wN.peers.length wN.pc]], ndL XN, [blk BX [J Z XN.id, J Z XN.has, J Z XN.spent, J Z XN.earned, V XN.sa XN.seen.length XN.sc, V XN.pa XN.peers.length XN.pc]], ndL gN, [blk BG [J Z gN.id, J Z gN.has, J Z gN.spent, J Z gN.earned, V gN.sa gN.seen.length gN.sc, V gN.pa gN.peers.length gN.pc]], [orow 5 mgCells gA gC (actM n.d a).2.1], [], [], []] x) := hide (h.pool.drop (i := 9) rfl)
    clear h
    subst e62
    refine hKA _ _ ?_
    clear hKA HPI
    have xc0 : x.cell? ⟨BX, 0, none⟩ = some (J Z XN.id) := (HPJ.out.blkAt (i := 5) rfl).c 0 _ rfl
    have xc1 : x.cell? ⟨BX, 1, none⟩ = some (J Z XN.has) := (HPJ.out.blkAt (i := 5) rfl).c 1 _ rfl
    have xc2 : x.cell? ⟨BX, 2, none⟩ = some (J Z XN.spent) := (HPJ.out.blkAt (i := 5) rfl).c 2 _ rfl
    have xc3 : x.cell? ⟨BX, 3, none⟩ = some (J Z XN.earned) := (HPJ.out.blkAt (i := 5) rfl).c 3 _ rfl
    have xc4 : x.cell? ⟨BX, 4, none⟩ = some (V XN.sa XN.seen.length XN.sc) := (HPJ.out.blkAt (i := 5) rfl).c 4 _ rfl
    have xc5 : x.cell? ⟨BX, 5, none⟩ = some (V XN.pa XN.peers.length XN.pc) := (HPJ.out.blkAt (i := 5) rfl).c 5 _ rfl
    go_wp2_with fail
    refine (markNode_pool XN 1 x (smN_of HX.out.1 HS.out) ⟨by omega, by omega⟩ (HPJ.out.get (i := 4) rfl)).mono ?_
    rintro e w6 ⟨rfl, hP6⟩
    have HPK : Hid (Pool [] w [[blk w.heap.size [J Z n.id, J Z n.has, J Z n.spent, J Z n.earned, V n.sa n.seen.length n.sc, V n.pa n.peers.length n.pc]], [blk (w.heap.size + 1) [J Z a.kind, J Z a.id, J Z a.to, J Z a.amt, J Z a.msg.fr, J Z a.msg.to, J Z a.msg.kind, J Z a.msg.seq, J Z a.msg.amt]], ndL wN ++ [orow 5 mgCells wA wC (actM n.d a).2.1], [blk BW [J Z wN.id, J Z wN.has, J Z wN.spent, J Z wN.earned, V wN.sa wN.seen.length wN.sc, V wN.pa wN.peers.length wN.pc]], ndL (mkN 1 XN), [blk BX [J Z XN.id, J Z XN.has, J Z XN.spent, J Z XN.earned, V XN.sa XN.seen.length XN.sc, V XN.pa XN.peers.length XN.pc]], ndL gN, [blk BG [J Z gN.id, J Z gN.has, J Z gN.spent, J Z gN.earned, V gN.sa gN.seen.length gN.sc, V gN.pa gN.peers.length gN.pc]], [orow 5 mgCells gA gC (actM n.d a).2.1], [], [], []] w6) := hide (HPJ.out.call (i := 4) rfl hP6)
    have hqx := qN_bd (q := 1) (smN_of HX.out.1 HS.out) ⟨by omega, by omega⟩
    obtain ⟨QX, hQX⟩ : ∃ QX, QX = qN 1 XN := ⟨_, rfl⟩
    rw [← hQX] at hqx ⊢
    have hqx0 : ¬ QX < 0 := by omega
    clear hQX hqx hP6 HPJ xc0 xc1 xc2 xc3 xc4 xc5
    have gc0 : w6.cell? ⟨BG, 0, none⟩ = some (J Z gN.id) := (HPK.out.blkAt (i := 7) rfl).c 0 _ rfl
    have gc1 : w6.cell? ⟨BG, 1, none⟩ = some (J Z gN.has) := (HPK.out.blkAt (i := 7) rfl).c 1 _ rfl
    have gc2 : w6.cell? ⟨BG, 2, none⟩ = some (J Z gN.spent) := (HPK.out.blkAt (i := 7) rfl).c 2 _ rfl
    have gc3 : w6.cell? ⟨BG, 3, none⟩ = some (J Z gN.earned) := (HPK.out.blkAt (i := 7) rfl).c 3 _ rfl
    have gc4 : w6.cell? ⟨BG, 4, none⟩ = some (V gN.sa gN.seen.length gN.sc) := (HPK.out.blkAt (i := 7) rfl).c 4 _ rfl
    have gc5 : w6.cell? ⟨BG, 5, none⟩ = some (V gN.pa gN.peers.length gN.pc) := (HPK.out.blkAt (i := 7) rfl).c 5 _ rfl
    have wc0 : w6.cell? ⟨BW, 0, none⟩ = some (J Z wN.id) := (HPK.out.blkAt (i := 3) rfl).c 0 _ rfl
    have wc1 : w6.cell? ⟨BW, 1, none⟩ = some (J Z wN.has) := (HPK.out.blkAt (i := 3) rfl).c 1 _ rfl
    have wc2 : w6.cell? ⟨BW, 2, none⟩ = some (J Z wN.spent) := (HPK.out.blkAt (i := 3) rfl).c 2 _ rfl
    have wc3 : w6.cell? ⟨BW, 3, none⟩ = some (J Z wN.earned) := (HPK.out.blkAt (i := 3) rfl).c 3 _ rfl
    have wc4 : w6.cell? ⟨BW, 4, none⟩ = some (V wN.sa wN.seen.length wN.sc) := (HPK.out.blkAt (i := 3) rfl).c 4 _ rfl
    have wc5 : w6.cell? ⟨BW, 5, none⟩ = some (V wN.pa wN.peers.length wN.pc) := (HPK.out.blkAt (i := 3) rfl).c 5 _ rfl
    go_wp2_with fail
    refine (eqNode_same gN wN w6 HSg.out (by rw [HDw.out, HDg.out]) (HPK.out.get (i := 6) rfl).node (Star.left (HPK.out.get (i := 2) rfl)).node).mono ?_
    rintro e w7 ⟨rfl, hb7⟩
    have HPL : Hid (Pool [] w [[blk w.heap.size [J Z n.id, J Z n.has, J Z n.spent, J Z n.earned, V n.sa n.seen.length n.sc, V n.pa n.peers.length n.pc]], [blk (w.heap.size + 1) [J Z a.kind, J Z a.id, J Z a.to, J Z a.amt, J Z a.msg.fr, J Z a.msg.to, J Z a.msg.kind, J Z a.msg.seq, J Z a.msg.amt]], ndL wN ++ [orow 5 mgCells wA wC (actM n.d a).2.1], [blk BW [J Z wN.id, J Z wN.has, J Z wN.spent, J Z wN.earned, V wN.sa wN.seen.length wN.sc, V wN.pa wN.peers.length wN.pc]], ndL (mkN 1 XN), [blk BX [J Z XN.id, J Z XN.has, J Z XN.spent, J Z XN.earned, V XN.sa XN.seen.length XN.sc, V XN.pa XN.peers.length XN.pc]], ndL gN, [blk BG [J Z gN.id, J Z gN.has, J Z gN.spent, J Z gN.earned, V gN.sa gN.seen.length gN.sc, V gN.pa gN.peers.length gN.pc]], [orow 5 mgCells gA gC (actM n.d a).2.1], [], [], []] w7) := hide (HPK.out.keep hb7)
    clear hb7 HPK
    go_wp2_with fail
    refine (eqMsgS_any gA wA (actM n.d a).2.1 gC wC w7 HAS.out.2 (HPL.out.orowAt (i := 8) rfl).rows (msg_rows (HPL.out.get (i := 2) rfl))).mono ?_
    rintro e w8 ⟨rfl, hb8⟩
    have HPM : Hid (Pool [] w [[blk w.heap.size [J Z n.id, J Z n.has, J Z n.spent, J Z n.earned, V n.sa n.seen.length n.sc, V n.pa n.peers.length n.pc]], [blk (w.heap.size + 1) [J Z a.kind, J Z a.id, J Z a.to, J Z a.amt, J Z a.msg.fr, J Z a.msg.to, J Z a.msg.kind, J Z a.msg.seq, J Z a.msg.amt]], ndL wN ++ [orow 5 mgCells wA wC (actM n.d a).2.1], [blk BW [J Z wN.id, J Z wN.has, J Z wN.spent, J Z wN.earned, V wN.sa wN.seen.length wN.sc, V wN.pa wN.peers.length wN.pc]], ndL (mkN 1 XN), [blk BX [J Z XN.id, J Z XN.has, J Z XN.spent, J Z XN.earned, V XN.sa XN.seen.length XN.sc, V XN.pa XN.peers.length XN.pc]], ndL gN, [blk BG [J Z gN.id, J Z gN.has, J Z gN.spent, J Z gN.earned, V gN.sa gN.seen.length gN.sc, V gN.pa gN.peers.length gN.pc]], [orow 5 mgCells gA gC (actM n.d a).2.1], [], [], []] w8) := hide (HPL.out.keep hb8)
    clear hb8 HPL gc0 gc1 gc2 gc3 gc4 gc5 wc0 wc1 wc2 wc3 wc4 wc5
    have gc0 : w8.cell? ⟨BG, 0, none⟩ = some (J Z gN.id) := (HPM.out.blkAt (i := 7) rfl).c 0 _ rfl
    have gc1 : w8.cell? ⟨BG, 1, none⟩ = some (J Z gN.has) := (HPM.out.blkAt (i := 7) rfl).c 1 _ rfl
    have gc2 : w8.cell? ⟨BG, 2, none⟩ = some (J Z gN.spent) := (HPM.out.blkAt (i := 7) rfl).c 2 _ rfl
    have gc3 : w8.cell? ⟨BG, 3, none⟩ = some (J Z gN.earned) := (HPM.out.blkAt (i := 7) rfl).c 3 _ rfl
    have gc4 : w8.cell? ⟨BG, 4, none⟩ = some (V gN.sa gN.seen.length gN.sc) := (HPM.out.blkAt (i := 7) rfl).c 4 _ rfl
    have gc5 : w8.cell? ⟨BG, 5, none⟩ = some (V gN.pa gN.peers.length gN.pc) := (HPM.out.blkAt (i := 7) rfl).c 5 _ rfl
    go_wp2_with fail
    refine (markNode_pool gN 1 w8 HSg.out ⟨by omega, by omega⟩ (HPM.out.get (i := 6) rfl)).mono ?_
    rintro e w9 ⟨rfl, hP9⟩
    have HPN : Hid (Pool [] w [[blk w.heap.size [J Z n.id, J Z n.has, J Z n.spent, J Z n.earned, V n.sa n.seen.length n.sc, V n.pa n.peers.length n.pc]], [blk (w.heap.size + 1) [J Z a.kind, J Z a.id, J Z a.to, J Z a.amt, J Z a.msg.fr, J Z a.msg.to, J Z a.msg.kind, J Z a.msg.seq, J Z a.msg.amt]], ndL wN ++ [orow 5 mgCells wA wC (actM n.d a).2.1], [blk BW [J Z wN.id, J Z wN.has, J Z wN.spent, J Z wN.earned, V wN.sa wN.seen.length wN.sc, V wN.pa wN.peers.length wN.pc]], ndL (mkN 1 XN), [blk BX [J Z XN.id, J Z XN.has, J Z XN.spent, J Z XN.earned, V XN.sa XN.seen.length XN.sc, V XN.pa XN.peers.length XN.pc]], ndL (mkN 1 gN), [blk BG [J Z gN.id, J Z gN.has, J Z gN.spent, J Z gN.earned, V gN.sa gN.seen.length gN.sc, V gN.pa gN.peers.length gN.pc]], [orow 5 mgCells gA gC (actM n.d a).2.1], [], [], []] w9) := hide (HPM.out.call (i := 6) rfl hP9)
    have hqg := qN_bd (q := 1) HSg.out ⟨by omega, by omega⟩
    obtain ⟨QG, hQG⟩ : ∃ QG, QG = qN 1 gN := ⟨_, rfl⟩
    rw [← hQG] at hqg ⊢
    have HQG : Hid _ := hide hQG
    obtain ⟨g0_, g1_⟩ := hqg
    have hlm := HAS.out.2
    clear hP9 HPM hQG gc0 gc1 gc2 gc3 gc4 gc5
    go_wp2_with fail
    refine (markM_pool gA (actM n.d a).2.1 gC QG w9 hlm ⟨by omega, by omega⟩ (HPN.out.get (i := 8) rfl)).mono ?_
    rintro e w10 ⟨rfl, hP10⟩
    have HPO : Hid (Pool [] w [[blk w.heap.size [J Z n.id, J Z n.has, J Z n.spent, J Z n.earned, V n.sa n.seen.length n.sc, V n.pa n.peers.length n.pc]], [blk (w.heap.size + 1) [J Z a.kind, J Z a.id, J Z a.to, J Z a.amt, J Z a.msg.fr, J Z a.msg.to, J Z a.msg.kind, J Z a.msg.seq, J Z a.msg.amt]], ndL wN ++ [orow 5 mgCells wA wC (actM n.d a).2.1], [blk BW [J Z wN.id, J Z wN.has, J Z wN.spent, J Z wN.earned, V wN.sa wN.seen.length wN.sc, V wN.pa wN.peers.length wN.pc]], ndL (mkN 1 XN), [blk BX [J Z XN.id, J Z XN.has, J Z XN.spent, J Z XN.earned, V XN.sa XN.seen.length XN.sc, V XN.pa XN.peers.length XN.pc]], ndL (mkN 1 gN), [blk BG [J Z gN.id, J Z gN.has, J Z gN.spent, J Z gN.earned, V gN.sa gN.seen.length gN.sc, V gN.pa gN.peers.length gN.pc]], [orow 5 mgCells gA gC (mkM QG (actM n.d a).2.1.length)], [], [], []] w10) := hide (HPN.out.call (i := 8) rfl hP10)
    clear hP10 HPN
    have gc0 : w10.cell? ⟨BG, 0, none⟩ = some (J Z gN.id) := (HPO.out.blkAt (i := 7) rfl).c 0 _ rfl
    have gc1 : w10.cell? ⟨BG, 1, none⟩ = some (J Z gN.has) := (HPO.out.blkAt (i := 7) rfl).c 1 _ rfl
    have gc2 : w10.cell? ⟨BG, 2, none⟩ = some (J Z gN.spent) := (HPO.out.blkAt (i := 7) rfl).c 2 _ rfl
    have gc3 : w10.cell? ⟨BG, 3, none⟩ = some (J Z gN.earned) := (HPO.out.blkAt (i := 7) rfl).c 3 _ rfl
    have gc4 : w10.cell? ⟨BG, 4, none⟩ = some (V gN.sa gN.seen.length gN.sc) := (HPO.out.blkAt (i := 7) rfl).c 4 _ rfl
    have gc5 : w10.cell? ⟨BG, 5, none⟩ = some (V gN.pa gN.peers.length gN.pc) := (HPO.out.blkAt (i := 7) rfl).c 5 _ rfl
    go_wp2_with fail
    refine (heldNode_pool gN 1 w10 HSg.out ⟨by omega, by omega⟩ (HPO.out.get (i := 6) rfl).node).mono ?_
    rw [← HQG.out]
    rintro e w11 ⟨rfl, hb11⟩
    have HPQ : Hid (Pool [] w [[blk w.heap.size [J Z n.id, J Z n.has, J Z n.spent, J Z n.earned, V n.sa n.seen.length n.sc, V n.pa n.peers.length n.pc]], [blk (w.heap.size + 1) [J Z a.kind, J Z a.id, J Z a.to, J Z a.amt, J Z a.msg.fr, J Z a.msg.to, J Z a.msg.kind, J Z a.msg.seq, J Z a.msg.amt]], ndL wN ++ [orow 5 mgCells wA wC (actM n.d a).2.1], [blk BW [J Z wN.id, J Z wN.has, J Z wN.spent, J Z wN.earned, V wN.sa wN.seen.length wN.sc, V wN.pa wN.peers.length wN.pc]], ndL (mkN 1 XN), [blk BX [J Z XN.id, J Z XN.has, J Z XN.spent, J Z XN.earned, V XN.sa XN.seen.length XN.sc, V XN.pa XN.peers.length XN.pc]], ndL (mkN 1 gN), [blk BG [J Z gN.id, J Z gN.has, J Z gN.spent, J Z gN.earned, V gN.sa gN.seen.length gN.sc, V gN.pa gN.peers.length gN.pc]], [orow 5 mgCells gA gC (mkM QG (actM n.d a).2.1.length)], [], [], []] w11) := hide (HPO.out.keep hb11)
    clear hb11 HPO gc0 gc1 gc2 gc3 gc4 gc5
    have gn0 : ¬ QG < 0 := by omega
    go_wp2_with fail
    refine (heldM_any gA (actM n.d a).2.1.length gC QG w11 hlm ⟨by omega, by omega⟩ (HPQ.out.orowAt (i := 8) rfl).rows).mono ?_
    rintro e w12 ⟨rfl, hw12⟩
    rw [hw12]
    clear hw12
    have gn1 : ¬ (QG + 5 * ((actM n.d a).2.1.length : Int) < 0) := by omega
    have c0 : w11.cell? ⟨w.heap.size, 0, none⟩ = some (J Z n.id) := (HPQ.out.blkAt (i := 0) rfl).c 0 _ rfl
    have c1 : w11.cell? ⟨w.heap.size, 1, none⟩ = some (J Z n.has) := (HPQ.out.blkAt (i := 0) rfl).c 1 _ rfl
    have c2 : w11.cell? ⟨w.heap.size, 2, none⟩ = some (J Z n.spent) := (HPQ.out.blkAt (i := 0) rfl).c 2 _ rfl
    have c3 : w11.cell? ⟨w.heap.size, 3, none⟩ = some (J Z n.earned) := (HPQ.out.blkAt (i := 0) rfl).c 3 _ rfl
    have c4 : w11.cell? ⟨w.heap.size, 4, none⟩ = some (V n.sa n.seen.length n.sc) := (HPQ.out.blkAt (i := 0) rfl).c 4 _ rfl
    have c5 : w11.cell? ⟨w.heap.size, 5, none⟩ = some (V n.pa n.peers.length n.pc) := (HPQ.out.blkAt (i := 0) rfl).c 5 _ rfl
    have d0 : w11.cell? ⟨w.heap.size + 1, 0, none⟩ = some (J Z a.kind) := (HPQ.out.blkAt (i := 1) rfl).c 0 _ rfl
    have d1 : w11.cell? ⟨w.heap.size + 1, 1, none⟩ = some (J Z a.id) := (HPQ.out.blkAt (i := 1) rfl).c 1 _ rfl
    have d2 : w11.cell? ⟨w.heap.size + 1, 2, none⟩ = some (J Z a.to) := (HPQ.out.blkAt (i := 1) rfl).c 2 _ rfl
    have d3 : w11.cell? ⟨w.heap.size + 1, 3, none⟩ = some (J Z a.amt) := (HPQ.out.blkAt (i := 1) rfl).c 3 _ rfl
    have d4 : w11.cell? ⟨w.heap.size + 1, 4, none⟩ = some (J Z a.msg.fr) := (HPQ.out.blkAt (i := 1) rfl).c 4 _ rfl
    have d5 : w11.cell? ⟨w.heap.size + 1, 5, none⟩ = some (J Z a.msg.to) := (HPQ.out.blkAt (i := 1) rfl).c 5 _ rfl
    have d6 : w11.cell? ⟨w.heap.size + 1, 6, none⟩ = some (J Z a.msg.kind) := (HPQ.out.blkAt (i := 1) rfl).c 6 _ rfl
    have d7 : w11.cell? ⟨w.heap.size + 1, 7, none⟩ = some (J Z a.msg.seq) := (HPQ.out.blkAt (i := 1) rfl).c 7 _ rfl
    have d8 : w11.cell? ⟨w.heap.size + 1, 8, none⟩ = some (J Z a.msg.amt) := (HPQ.out.blkAt (i := 1) rfl).c 8 _ rfl
    go_wp2_with fail
    rename_i KB hKB
    refine wp_region_inv (by kernel_rfl) (fun L act x => ∃ l0 l1 l2 l3 l4 l5 l6 l7 l8 l9 l10 l11 l12 : Bool, ∃ u16 u17 u18 u104 u105 u106 u107 u108 u109 u110 u111 u112 : Value, ∃ hN : Nd, ∃ hA : Option Addr, ∃ hC : Nat, ∃ hT : Nd, L = #[l0, l1, l2, l3, l4, l5, l6, l7, l8, l9, l10, l11, l12] ∧ act = { tmps := #[Value.agg #[J Z n.id, J Z n.has, J Z n.spent, J Z n.earned, V n.sa n.seen.length n.sc, V n.pa n.peers.length n.pc], Value.agg #[J Z a.kind, J Z a.id, J Z a.to, J Z a.amt, J Z a.msg.fr, J Z a.msg.to, J Z a.msg.kind, J Z a.msg.seq, J Z a.msg.amt], Value.pointer (some { block := w.heap.size, off := 0 }), Value.pointer (some { block := w.heap.size + 1, off := 0 }), Value.bool false, J Z r, Value.pointer (some { block := BW, off := 0 }), V wA (actM n.d a).snd.fst.length wC, J Z (actM n.d a).snd.snd, Value.pointer (some { block := BX, off := 0 }), Value.pointer (some { block := BG, off := 0 }), V gA (actM n.d a).snd.fst.length gC, J Z (actM n.d a).snd.snd, J Z QX, J Z (QG + 5 * ↑(actM n.d a).snd.fst.length), J Z (QG + 5 * ↑(actM n.d a).snd.fst.length), u16, u17, u18, Value.agg #[J Z n.id, J Z n.has, J Z n.spent, J Z n.earned, V n.sa n.seen.length n.sc, V n.pa n.peers.length n.pc], J Z 1048576, J Z r, J Z r, Value.bool (decide (r < 0)), u24, u25, u26, u27, u28, u29, u30, u31, u32, Value.agg #[J Z n.id, J Z n.has, J Z n.spent, J Z n.earned, V n.sa n.seen.length n.sc, V n.pa n.peers.length n.pc], Value.agg #[J Z XN.id, J Z XN.has, J Z XN.spent, J Z XN.earned, V XN.sa XN.seen.length XN.sc, V XN.pa XN.peers.length XN.pc], u35, u36, u37, u38, u39, u40, u41, u42, Value.agg #[J Z gN.id, J Z gN.has, J Z gN.spent, J Z gN.earned, V gN.sa gN.seen.length gN.sc, V gN.pa gN.peers.length gN.pc], Value.agg #[J Z wN.id, J Z wN.has, J Z wN.spent, J Z wN.earned, V wN.sa wN.seen.length wN.sc, V wN.pa wN.peers.length wN.pc], Value.bool true, Value.bool false, Value.bool false, V gA (actM n.d a).snd.fst.length gC, V wA (actM n.d a).snd.fst.length wC, Value.bool true, Value.bool false, Value.bool false, Value.bool false, J Z (actM n.d a).snd.snd, J Z (actM n.d a).snd.snd, Value.bool false, Value.bool false, u58, u59, u60, u61, Value.bool false, Value.agg #[J Z XN.id, J Z XN.has, J Z XN.spent, J Z XN.earned, V XN.sa XN.seen.length XN.sc, V XN.pa XN.peers.length XN.pc], J Z 1, J Z QX, J Z QX, Value.bool (decide (QX < 0)), Value.bool (decide (QX < 0)), Value.agg #[J Z gN.id, J Z gN.has, J Z gN.spent, J Z gN.earned, V gN.sa gN.seen.length gN.sc, V gN.pa gN.peers.length gN.pc], Value.agg #[J Z wN.id, J Z wN.has, J Z wN.spent, J Z wN.earned, V wN.sa wN.seen.length wN.sc, V wN.pa wN.peers.length wN.pc], Value.bool true, Value.bool false, Value.bool (decide (QX < 0)), Value.bool (decide (QX < 0)), V gA (actM n.d a).snd.fst.length gC, V wA (actM n.d a).snd.fst.length wC, Value.bool true, Value.bool false, Value.bool (decide (QX < 0)), Value.bool (decide (QX < 0)), J Z (actM n.d a).snd.snd, J Z (actM n.d a).snd.snd, Value.bool false, Value.bool (decide (QX < 0)), Value.agg #[J Z gN.id, J Z gN.has, J Z gN.spent, J Z gN.earned, V gN.sa gN.seen.length gN.sc, V gN.pa gN.peers.length gN.pc], J Z 1, J Z QG, V gA (actM n.d a).snd.fst.length gC, J Z QG, J Z (QG + 5 * ↑(actM n.d a).snd.fst.length), Value.agg #[J Z gN.id, J Z gN.has, J Z gN.spent, J Z gN.earned, V gN.sa gN.seen.length gN.sc, V gN.pa gN.peers.length gN.pc], J Z 1, J Z QG, J Z QG, Value.bool (decide (QG < 0)), V gA (actM n.d a).snd.fst.length gC, J Z QG, J Z (QG + 5 * ↑(actM n.d a).snd.fst.length), J Z (QG + 5 * ↑(actM n.d a).snd.fst.length), Value.bool (decide (QG + 5 * ↑(actM n.d a).snd.fst.length < 0)), J Z (QG + 5 * ↑(actM n.d a).snd.fst.length), J Z (QG + 5 * ↑(actM n.d a).snd.fst.length), Value.bool false, u104, u105, u106, u107, u108, u109, u110, u111, u112, U, U, U, U, U, U, U, U, U, U, U, U, U, U, U, U, U, U, U, U, U, U, U, U, U, U, U, U], defers := [] } ∧ LaD n XN wN gN wA gA wC gC BW BX BG QG a w l0 l1 l2 l3 l4 l5 l6 l7 l8 l9 l10 l11 l12 u16 u17 u18 u104 u105 u106 u107 u108 u109 u110 u111 u112 hN hA hC hT x) ?_ ?_ ?_
    rotate_left 2
    ·exact ⟨false, false, false, false, false, false, false, false, false, false, false, false, false, U, U, U, U, U, U, U, U, U, U, U, U, (n), (none), (0), (n), rfl, rfl, ⟨HPQ.out.drew, nofun, nofun, nofun, nofun, nofun, nofun, nofun, nofun, nofun, nofun, nofun, nofun, nofun, nofun, nofun, nofun, nofun, nofun, nofun, nofun, nofun, nofun⟩⟩
    ·rintro L act x i ⟨l0, l1, l2, l3, l4, l5, l6, l7, l8, l9, l10, l11, l12, u16, u17, u18, u104, u105, u106, u107, u108, u109, u110, u111, u112, hN, hA, hC, hT, rfl, rfl, h⟩ hi K hK
     have hi15 : i < 13 := by
      obtain ⟨_, o, ho, _⟩ := mem_ready.1 hi
      exact (Array.getElem?_eq_some_iff.1 ho).1
     have hl := (mem_ready.1 hi).1
     obtain rfl | rfl | rfl | rfl | rfl | rfl | rfl | rfl | rfl | rfl | rfl | rfl | rfl := (by omega : i = 0 ∨ i = 1 ∨ i = 2 ∨ i = 3 ∨ i = 4 ∨ i = 5 ∨ i = 6 ∨ i = 7 ∨ i = 8 ∨ i = 9 ∨ i = 10 ∨ i = 11 ∨ i = 12)
     ·have e : l0 = false := hl
      subst e
      have c0_ : x.cell? ⟨w.heap.size, 0, none⟩ = some (J Z n.id) := (h.pool.blkAt (i := 0) rfl).c 0 _ rfl
      have c1_ : x.cell? ⟨w.heap.size, 1, none⟩ = some (J Z n.has) := (h.pool.blkAt (i := 0) rfl).c 1 _ rfl
      have c2_ : x.cell? ⟨w.heap.size, 2, none⟩ = some (J Z n.spent) := (h.pool.blkAt (i := 0) rfl).c 2 _ rfl
      have c3_ : x.cell? ⟨w.heap.size, 3, none⟩ = some (J Z n.earned) := (h.pool.blkAt (i := 0) rfl).c 3 _ rfl
      have c4_ : x.cell? ⟨w.heap.size, 4, none⟩ = some (V n.sa n.seen.length n.sc) := (h.pool.blkAt (i := 0) rfl).c 4 _ rfl
      have c5_ : x.cell? ⟨w.heap.size, 5, none⟩ = some (V n.pa n.peers.length n.pc) := (h.pool.blkAt (i := 0) rfl).c 5 _ rfl
      refine wpOp_run (v := .agg #[J Z n.id, J Z n.has, J Z n.spent, J Z n.earned, V n.sa n.seen.length n.sc, V n.pa n.peers.length n.pc]) (w' := x) (by rfl) (by rfl) ?_ (hK _ _ ⟨true, l1, l2, l3, l4, l5, l6, l7, l8, l9, l10, l11, l12, u16, u17, u18, u104, (.agg #[J Z n.id, J Z n.has, J Z n.spent, J Z n.earned, V n.sa n.seen.length n.sc, V n.pa n.peers.length n.pc]), u106, u107, u108, u109, u110, u111, u112, (hN), (hA), (hC), (hT), rfl, rfl, { h with p105 := fun _ => rfl }⟩)
      go_simp
     ·have e : l1 = false := hl
      subst e
      have d0 : l0 = true := ready_on hi 0 (by kernel_rfl)
      subst d0
      refine wpOp_call (by rfl) (by rfl) ?_ (toNode_own n x HS.out (HL.out.below h.pool.below)) ?_
      ·rw [h.p105 rfl]; go_simp
      ·rintro e w' ⟨nT, rfl, hdT, hoT, hPT⟩
       exact ⟨_, rfl, hK _ _ ⟨true, true, l2, l3, l4, l5, l6, l7, l8, l9, l10, l11, l12, u16, u17, u18, u104, u105, (ndV nT), u107, u108, u109, u110, u111, u112, (hN), (hA), (hC), (nT), rfl, rfl, { h with qT := (fun _ => ⟨rfl, hdT, hoT⟩), pool := (h.pool.call (i := 9) (rs := []) rfl hPT) }⟩⟩
     ·have e : l2 = false := hl
      subst e
      have c0_ : x.cell? ⟨w.heap.size + 1, 0, none⟩ = some (J Z a.kind) := (h.pool.blkAt (i := 1) rfl).c 0 _ rfl
      have c1_ : x.cell? ⟨w.heap.size + 1, 1, none⟩ = some (J Z a.id) := (h.pool.blkAt (i := 1) rfl).c 1 _ rfl
      have c2_ : x.cell? ⟨w.heap.size + 1, 2, none⟩ = some (J Z a.to) := (h.pool.blkAt (i := 1) rfl).c 2 _ rfl
      have c3_ : x.cell? ⟨w.heap.size + 1, 3, none⟩ = some (J Z a.amt) := (h.pool.blkAt (i := 1) rfl).c 3 _ rfl
      have c4_ : x.cell? ⟨w.heap.size + 1, 4, none⟩ = some (J Z a.msg.fr) := (h.pool.blkAt (i := 1) rfl).c 4 _ rfl
      have c5_ : x.cell? ⟨w.heap.size + 1, 5, none⟩ = some (J Z a.msg.to) := (h.pool.blkAt (i := 1) rfl).c 5 _ rfl
      have c6_ : x.cell? ⟨w.heap.size + 1, 6, none⟩ = some (J Z a.msg.kind) := (h.pool.blkAt (i := 1) rfl).c 6 _ rfl
      have c7_ : x.cell? ⟨w.heap.size + 1, 7, none⟩ = some (J Z a.msg.seq) := (h.pool.blkAt (i := 1) rfl).c 7 _ rfl
      have c8_ : x.cell? ⟨w.heap.size + 1, 8, none⟩ = some (J Z a.msg.amt) := (h.pool.blkAt (i := 1) rfl).c 8 _ rfl
      refine wpOp_run (v := .agg #[J Z a.kind, J Z a.id, J Z a.to, J Z a.amt, J Z a.msg.fr, J Z a.msg.to, J Z a.msg.kind, J Z a.msg.seq, J Z a.msg.amt]) (w' := x) (by rfl) (by rfl) ?_ (hK _ _ ⟨l0, l1, true, l3, l4, l5, l6, l7, l8, l9, l10, l11, l12, u16, u17, u18, u104, u105, u106, (.agg #[J Z a.kind, J Z a.id, J Z a.to, J Z a.amt, J Z a.msg.fr, J Z a.msg.to, J Z a.msg.kind, J Z a.msg.seq, J Z a.msg.amt]), u108, u109, u110, u111, u112, (hN), (hA), (hC), (hT), rfl, rfl, { h with p107 := fun _ => rfl }⟩)
      go_simp
     ·have e : l3 = false := hl
      subst e
      have d1 : l1 = true := ready_on hi 1 (by kernel_rfl)
      subst d1
      have d2 : l2 = true := ready_on hi 2 (by kernel_rfl)
      subst d2
      refine wpOp_call (by rfl) (by rfl) ?_ (toNAct_any a x) ?_
      ·rw [h.p107 rfl]; go_simp; rfl
      ·rintro e w' ⟨rfl, hbA⟩
       exact ⟨_, rfl, hK _ _ ⟨l0, true, true, true, l4, l5, l6, l7, l8, l9, l10, l11, l12, u16, u17, u18, u104, u105, u106, u107, (a.v), u109, u110, u111, u112, (hN), (hA), (hC), (hT), rfl, rfl, { h with qA := (fun _ => rfl), pool := (h.pool.keep hbA) }⟩⟩
     ·have e : l4 = false := hl
      subst e
      have d1 : l1 = true := ready_on hi 1 (by kernel_rfl)
      subst d1
      have d3 : l3 = true := ready_on hi 3 (by kernel_rfl)
      subst d3
      have z5 : l5 = false := by
       cases hz : l5
       ·rfl
       ·exact absurd (h.d5_4 hz) (by simp)
      subst z5
      have z6 : l6 = false := by
       cases hz : l6
       ·rfl
       ·exact absurd (h.d6_4 hz) (by simp)
      subst z6
      have z7 : l7 = false := by
       cases hz : l7
       ·rfl
       ·exact absurd (h.d7_4 hz) (by simp)
      subst z7
      have z10 : l10 = false := by
       cases hz : l10
       ·rfl
       ·exact absurd (h.d10_4 hz) (by simp)
      subst z10
      have z11 : l11 = false := by
       cases hz : l11
       ·rfl
       ·exact absurd (h.d11_4 hz) (by simp)
      subst z11
      obtain ⟨eT, hdT, h1T, h2T, h3T⟩ := h.qT rfl
      refine wpOp_call (by rfl) (by rfl) ?_ (ActedEnd_of hdT (implActed_any hT a x (smN_of hdT HS.out) (fun e => absurd e h1T) (fun e => absurd e h2T) (fun p hp e => absurd e (h3T p hp)) (h.pool.get (i := 9) rfl).node)) ?_
      ·rw [eT, h.qA rfl]; go_simp
      ·rintro e w' ⟨nN, nA, nC, rfl, hdN, hPN⟩
       exact ⟨_, rfl, hK _ _ ⟨l0, true, l2, true, true, false, false, false, l8, l9, false, false, l12, u16, u17, u18, u104, u105, u106, u107, u108, (.tuple #[ndV nN, V nA (actM n.d a).2.1.length nC, J Z (actM n.d a).2.2]), u110, u111, u112, (nN), (nA), (nC), (hT), rfl, rfl, { h with qC := (fun _ => ⟨rfl, hdN⟩), qM := (fun q => by cases q), q0 := (fun q => by cases q), q1 := (fun q => by cases q), qQ := (fun q => by cases q), pool := (h.pool.call (i := 10) (rs := []) rfl (hPN.cast (S' := [ndL nN ++ [orow 5 mgCells nA nC (actM n.d a).2.1]]) (by simp))), d5_4 := fun _ => rfl, d6_4 := fun _ => rfl, d7_4 := fun _ => rfl, d10_4 := fun _ => rfl, d11_4 := fun _ => rfl }⟩⟩
     ·have e : l5 = false := hl
      subst e
      have d4 : l4 = true := ready_on hi 4 (by kernel_rfl)
      subst d4
      have z6 : l6 = false := by
       cases hz : l6
       ·rfl
       ·exact absurd (h.d6_5 hz) (by simp)
      subst z6
      have z7 : l7 = false := by
       cases hz : l7
       ·rfl
       ·exact absurd (h.d7_5 hz) (by simp)
      subst z7
      refine wpOp_run (v := .tuple #[ndV hN, V hA (actM n.d a).2.1.length hC, J Z (actM n.d a).2.2]) (w' := x) (by rfl) (by rfl) ?_ (hK _ _ ⟨l0, l1, l2, l3, true, true, false, false, l8, l9, l10, l11, l12, u16, u17, u18, (.tuple #[ndV hN, V hA (actM n.d a).2.1.length hC, J Z (actM n.d a).2.2]), u105, u106, u107, u108, u109, u110, u111, u112, (hN), (hA), (hC), (hT), rfl, rfl, { h with qM := (fun _ => rfl), d5_4 := fun _ => rfl, d6_5 := fun _ => rfl, d7_5 := fun _ => rfl }⟩)
      rw [(h.qC rfl).1]
      go_simp
     ·have e : l6 = false := hl
      subst e
      have d5 : l5 = true := ready_on hi 5 (by kernel_rfl)
      subst d5
      have z10 : l10 = false := by
       cases hz : l10
       ·rfl
       ·exact absurd (h.d10_6 hz) (by simp)
      subst z10
      refine wpOp_run (v := ndV hN) (w' := x) (by rfl) (by rfl) ?_ (hK _ _ ⟨l0, l1, l2, l3, l4, true, true, l7, l8, l9, false, l11, l12, u16, u17, u18, u104, u105, u106, u107, u108, u109, (ndV hN), u111, u112, (hN), (hA), (hC), (hT), rfl, rfl, { h with q0 := (fun _ => rfl), d6_4 := fun _ => h.d5_4 rfl, d6_5 := fun _ => rfl, d10_6 := fun _ => rfl }⟩)
      rw [h.qM rfl]
      go_simp
     ·have e : l7 = false := hl
      subst e
      have d5 : l5 = true := ready_on hi 5 (by kernel_rfl)
      subst d5
      have z11 : l11 = false := by
       cases hz : l11
       ·rfl
       ·exact absurd (h.d11_7 hz) (by simp)
      subst z11
      refine wpOp_run (v := V hA (actM n.d a).2.1.length hC) (w' := x) (by rfl) (by rfl) ?_ (hK _ _ ⟨l0, l1, l2, l3, l4, true, l6, true, l8, l9, l10, false, l12, u16, u17, u18, u104, u105, u106, u107, u108, u109, u110, (V hA (actM n.d a).2.1.length hC), u112, (hN), (hA), (hC), (hT), rfl, rfl, { h with q1 := (fun _ => rfl), d7_4 := fun _ => h.d5_4 rfl, d7_5 := fun _ => rfl, d11_7 := fun _ => rfl }⟩)
      rw [h.qM rfl]
      go_simp
     ·have e : l8 = false := hl
      subst e
      have d5 : l5 = true := ready_on hi 5 (by kernel_rfl)
      subst d5
      refine wpOp_run (v := J Z (actM n.d a).2.2) (w' := x) (by rfl) (by rfl) ?_ (hK _ _ ⟨l0, l1, l2, l3, l4, true, l6, l7, true, l9, l10, l11, l12, u16, u17, u18, u104, u105, u106, u107, u108, u109, u110, u111, (J Z (actM n.d a).2.2), (hN), (hA), (hC), (hT), rfl, rfl, { h with q2 := (fun _ => rfl) }⟩)
      rw [h.qM rfl]
      go_simp
     ·have e : l9 = false := hl
      subst e
      have z10 : l10 = false := by
       cases hz : l10
       ·rfl
       ·exact absurd (h.d10_9 hz) (by simp)
      subst z10
      refine wpOp_run (v := .pointer (some ⟨x.heap.size, 0, none⟩)) (w' := x.alloc (.cells #[J Z 0, J Z 0, J Z 0, J Z 0, V none 0 0, V none 0 0] 34)) (by rfl) (by rfl) ?_ (hK _ _ ⟨l0, l1, l2, l3, l4, l5, l6, l7, l8, true, false, l11, l12, (.pointer (some ⟨x.heap.size, 0, none⟩)), u17, u18, u104, u105, u106, u107, u108, u109, u110, u111, u112, (hN), (hA), (hC), (hT), rfl, rfl, { h with qB := (fun _ => rfl), pool := (h.pool.newBlk (i := 11) rfl [J Z 0, J Z 0, J Z 0, J Z 0, V none 0 0, V none 0 0] 34), d10_9 := fun _ => rfl }⟩)
      go_simp
     ·have e : l10 = false := hl
      subst e
      have d0 : l0 = true := ready_on hi 0 (by kernel_rfl)
      subst d0
      have d1 : l1 = true := ready_on hi 1 (by kernel_rfl)
      subst d1
      have d2 : l2 = true := ready_on hi 2 (by kernel_rfl)
      subst d2
      have d3 : l3 = true := ready_on hi 3 (by kernel_rfl)
      subst d3
      have d4 : l4 = true := ready_on hi 4 (by kernel_rfl)
      subst d4
      have d5 : l5 = true := ready_on hi 5 (by kernel_rfl)
      subst d5
      have d6 : l6 = true := ready_on hi 6 (by kernel_rfl)
      subst d6
      have d9 : l9 = true := ready_on hi 9 (by kernel_rfl)
      subst d9
      refine wpOp_skip (w' := ((((((x.setCell ⟨ptB u16, 0, none⟩ (J Z hN.id)).setCell ⟨ptB u16, 1, none⟩ (J Z hN.has)).setCell ⟨ptB u16, 2, none⟩ (J Z hN.spent)).setCell ⟨ptB u16, 3, none⟩ (J Z hN.earned)).setCell ⟨ptB u16, 4, none⟩ (V hN.sa hN.seen.length hN.sc)).setCell ⟨ptB u16, 5, none⟩ (V hN.pa hN.peers.length hN.pc))) (by rfl) (by rfl) ?_ (hK _ _ ⟨true, true, true, true, true, true, true, l7, l8, true, true, l11, l12, u16, u17, u18, u104, u105, u106, u107, u108, u109, u110, u111, u112, (hN), (hA), (hC), (hT), rfl, rfl, { h with pool := (h.pool.set6 (i := 11) rfl (J Z hN.id) (J Z hN.has) (J Z hN.spent) (J Z hN.earned) (V hN.sa hN.seen.length hN.sc) (V hN.pa hN.peers.length hN.pc)), d10_4 := fun _ => rfl, d10_9 := fun _ => rfl, d10_6 := fun _ => rfl }⟩)
      have A_ := h.pool.blkAt (i := 11) rfl
      have t0 := A_.c 0 _ rfl
      have f0 := A_.f 0
      have t1 := A_.c 1 _ rfl
      have f1 := A_.f 1
      have t2 := A_.c 2 _ rfl
      have f2 := A_.f 2
      have t3 := A_.c 3 _ rfl
      have f3 := A_.f 3
      have t4 := A_.c 4 _ rfl
      have f4 := A_.f 4
      have t5 := A_.c 5 _ rfl
      have f5 := A_.f 5
      obtain ⟨P8, hP8⟩ : ∃ P8, P8 = ptB u16 := ⟨_, rfl⟩
      have e8 := h.qB rfl
      rw [h.q0 rfl]
      unfold ndV
      rw [← hP8] at t0 t1 t2 t3 t4 t5 f0 f1 f2 f3 f4 f5 e8 ⊢
      rw [e8]
      clear e8 hP8 A_ h
      go_simp
     ·have e : l11 = false := hl
      subst e
      have d0 : l0 = true := ready_on hi 0 (by kernel_rfl)
      subst d0
      have d1 : l1 = true := ready_on hi 1 (by kernel_rfl)
      subst d1
      have d2 : l2 = true := ready_on hi 2 (by kernel_rfl)
      subst d2
      have d3 : l3 = true := ready_on hi 3 (by kernel_rfl)
      subst d3
      have d4 : l4 = true := ready_on hi 4 (by kernel_rfl)
      subst d4
      have d5 : l5 = true := ready_on hi 5 (by kernel_rfl)
      subst d5
      have d6 : l6 = true := ready_on hi 6 (by kernel_rfl)
      subst d6
      have d7 : l7 = true := ready_on hi 7 (by kernel_rfl)
      subst d7
      have d9 : l9 = true := ready_on hi 9 (by kernel_rfl)
      subst d9
      have d10 : l10 = true := ready_on hi 10 (by kernel_rfl)
      subst d10
      refine wpOp_run (v := V hA (actM n.d a).2.1.length hC) (w' := x) (by rfl) (by rfl) ?_ (hK _ _ ⟨true, true, true, true, true, true, true, true, l8, true, true, true, l12, u16, (V hA (actM n.d a).2.1.length hC), u18, u104, u105, u106, u107, u108, u109, u110, u111, u112, (hN), (hA), (hC), (hT), rfl, rfl, { h with qQ := (fun _ => rfl), d11_4 := fun _ => rfl, d11_7 := fun _ => rfl }⟩)
      rw [h.q1 rfl]
      go_simp
     ·have e : l12 = false := hl
      subst e
      have d0 : l0 = true := ready_on hi 0 (by kernel_rfl)
      subst d0
      have d1 : l1 = true := ready_on hi 1 (by kernel_rfl)
      subst d1
      have d2 : l2 = true := ready_on hi 2 (by kernel_rfl)
      subst d2
      have d3 : l3 = true := ready_on hi 3 (by kernel_rfl)
      subst d3
      have d4 : l4 = true := ready_on hi 4 (by kernel_rfl)
      subst d4
      have d5 : l5 = true := ready_on hi 5 (by kernel_rfl)
      subst d5
      have d6 : l6 = true := ready_on hi 6 (by kernel_rfl)
      subst d6
      have d7 : l7 = true := ready_on hi 7 (by kernel_rfl)
      subst d7
      have d8 : l8 = true := ready_on hi 8 (by kernel_rfl)
      subst d8
      have d9 : l9 = true := ready_on hi 9 (by kernel_rfl)
      subst d9
      have d10 : l10 = true := ready_on hi 10 (by kernel_rfl)
      subst d10
      have d11 : l11 = true := ready_on hi 11 (by kernel_rfl)
      subst d11
      refine wpOp_run (v := J Z (actM n.d a).2.2) (w' := x) (by rfl) (by rfl) ?_ (hK _ _ ⟨true, true, true, true, true, true, true, true, true, true, true, true, true, u16, u17, (J Z (actM n.d a).2.2), u104, u105, u106, u107, u108, u109, u110, u111, u112, (hN), (hA), (hC), (hT), rfl, rfl, { h with qK := (fun _ => rfl) }⟩)
      rw [h.q2 rfl]
      go_simp
    ·rintro L act x ⟨l0, l1, l2, l3, l4, l5, l6, l7, l8, l9, l10, l11, l12, u16, u17, u18, u104, u105, u106, u107, u108, u109, u110, u111, u112, hN, hA, hC, hT, rfl, rfl, h⟩ hr
     have hall := ready_all hr rfl (by decide)
     have t0 : l0 = true := hall 0 (by decide)
     have t1 : l1 = true := hall 1 (by decide)
     have t2 : l2 = true := hall 2 (by decide)
     have t3 : l3 = true := hall 3 (by decide)
     have t4 : l4 = true := hall 4 (by decide)
     have t5 : l5 = true := hall 5 (by decide)
     have t6 : l6 = true := hall 6 (by decide)
     have t7 : l7 = true := hall 7 (by decide)
     have t8 : l8 = true := hall 8 (by decide)
     have t9 : l9 = true := hall 9 (by decide)
     have t10 : l10 = true := hall 10 (by decide)
     have t11 : l11 = true := hall 11 (by decide)
     have t12 : l12 = true := hall 12 (by decide)
     subst t0 t1 t2 t3 t4 t5 t6 t7 t8 t9 t10 t11 t12
     clear hall hr
     have hdN := (h.qC rfl).2
     have eB := h.qB rfl
     have eQ := h.qQ rfl
     have eK := h.qK rfl
     obtain ⟨BH, hBB⟩ : ∃ P, P = ptB u16 := ⟨_, rfl⟩
     have hpool := h.pool.drop (i := 9) rfl
     have HPn : Hid (Pool [] w [[blk w.heap.size [J Z n.id, J Z n.has, J Z n.spent, J Z n.earned, V n.sa n.seen.length n.sc, V n.pa n.peers.length n.pc]], [blk (w.heap.size + 1) [J Z a.kind, J Z a.id, J Z a.to, J Z a.amt, J Z a.msg.fr, J Z a.msg.to, J Z a.msg.kind, J Z a.msg.seq, J Z a.msg.amt]], ndL wN ++ [orow 5 mgCells wA wC (actM n.d a).2.1], [blk BW [J Z wN.id, J Z wN.has, J Z wN.spent, J Z wN.earned, V wN.sa wN.seen.length wN.sc, V wN.pa wN.peers.length wN.pc]], ndL (mkN 1 XN), [blk BX [J Z XN.id, J Z XN.has, J Z XN.spent, J Z XN.earned, V XN.sa XN.seen.length XN.sc, V XN.pa XN.peers.length XN.pc]], ndL (mkN 1 gN), [blk BG [J Z gN.id, J Z gN.has, J Z gN.spent, J Z gN.earned, V gN.sa gN.seen.length gN.sc, V gN.pa gN.peers.length gN.pc]], [orow 5 mgCells gA gC (mkM QG (actM n.d a).2.1.length)], [], ndL hN ++ [orow 5 mgCells hA hC (actM n.d a).2.1], [blk BH [J Z hN.id, J Z hN.has, J Z hN.spent, J Z hN.earned, V hN.sa hN.seen.length hN.sc, V hN.pa hN.peers.length hN.pc]]] x) := hide (by rw [hBB]; exact hpool)
     rw [← hBB] at eB
     have HDh : Hid (hN.d = (actM n.d a).1) := hide hdN
     clear h hBB hpool hdN
     subst eB eQ eK
     refine hKB _ _ ?_
     clear hKB
     have hc0 : x.cell? ⟨BH, 0, none⟩ = some (J Z hN.id) := (HPn.out.blkAt (i := 11) rfl).c 0 _ rfl
     have hc1 : x.cell? ⟨BH, 1, none⟩ = some (J Z hN.has) := (HPn.out.blkAt (i := 11) rfl).c 1 _ rfl
     have hc2 : x.cell? ⟨BH, 2, none⟩ = some (J Z hN.spent) := (HPn.out.blkAt (i := 11) rfl).c 2 _ rfl
     have hc3 : x.cell? ⟨BH, 3, none⟩ = some (J Z hN.earned) := (HPn.out.blkAt (i := 11) rfl).c 3 _ rfl
     have hc4 : x.cell? ⟨BH, 4, none⟩ = some (V hN.sa hN.seen.length hN.sc) := (HPn.out.blkAt (i := 11) rfl).c 4 _ rfl
     have hc5 : x.cell? ⟨BH, 5, none⟩ = some (V hN.pa hN.peers.length hN.pc) := (HPn.out.blkAt (i := 11) rfl).c 5 _ rfl
     have wc0 : x.cell? ⟨BW, 0, none⟩ = some (J Z wN.id) := (HPn.out.blkAt (i := 3) rfl).c 0 _ rfl
     have wc1 : x.cell? ⟨BW, 1, none⟩ = some (J Z wN.has) := (HPn.out.blkAt (i := 3) rfl).c 1 _ rfl
     have wc2 : x.cell? ⟨BW, 2, none⟩ = some (J Z wN.spent) := (HPn.out.blkAt (i := 3) rfl).c 2 _ rfl
     have wc3 : x.cell? ⟨BW, 3, none⟩ = some (J Z wN.earned) := (HPn.out.blkAt (i := 3) rfl).c 3 _ rfl
     have wc4 : x.cell? ⟨BW, 4, none⟩ = some (V wN.sa wN.seen.length wN.sc) := (HPn.out.blkAt (i := 3) rfl).c 4 _ rfl
     have wc5 : x.cell? ⟨BW, 5, none⟩ = some (V wN.pa wN.peers.length wN.pc) := (HPn.out.blkAt (i := 3) rfl).c 5 _ rfl
     have HSh : Hid (SmN hN) := hide (smN_d.2 (by rw [HDh.out]; exact HAS.out.1))
     clear HPQ
     go_wp2_with fail
     refine (eqNode_same hN wN x HSh.out (by rw [HDw.out, HDh.out]) (Star.left (HPn.out.get (i := 10) rfl)).node (Star.left (HPn.out.get (i := 2) rfl)).node).mono ?_
     rintro e w13 ⟨rfl, hb13⟩
     have HPR : Hid (Pool [] w [[blk w.heap.size [J Z n.id, J Z n.has, J Z n.spent, J Z n.earned, V n.sa n.seen.length n.sc, V n.pa n.peers.length n.pc]], [blk (w.heap.size + 1) [J Z a.kind, J Z a.id, J Z a.to, J Z a.amt, J Z a.msg.fr, J Z a.msg.to, J Z a.msg.kind, J Z a.msg.seq, J Z a.msg.amt]], ndL wN ++ [orow 5 mgCells wA wC (actM n.d a).2.1], [blk BW [J Z wN.id, J Z wN.has, J Z wN.spent, J Z wN.earned, V wN.sa wN.seen.length wN.sc, V wN.pa wN.peers.length wN.pc]], ndL (mkN 1 XN), [blk BX [J Z XN.id, J Z XN.has, J Z XN.spent, J Z XN.earned, V XN.sa XN.seen.length XN.sc, V XN.pa XN.peers.length XN.pc]], ndL (mkN 1 gN), [blk BG [J Z gN.id, J Z gN.has, J Z gN.spent, J Z gN.earned, V gN.sa gN.seen.length gN.sc, V gN.pa gN.peers.length gN.pc]], [orow 5 mgCells gA gC (mkM QG (actM n.d a).2.1.length)], [], ndL hN ++ [orow 5 mgCells hA hC (actM n.d a).2.1], [blk BH [J Z hN.id, J Z hN.has, J Z hN.spent, J Z hN.earned, V hN.sa hN.seen.length hN.sc, V hN.pa hN.peers.length hN.pc]]] w13) := hide (HPn.out.keep hb13)
     clear hb13 HPn
     go_wp2_with fail
     refine (eqMsgS_any hA wA (actM n.d a).2.1 hC wC w13 HAS.out.2 (msg_rows (HPR.out.get (i := 10) rfl)) (msg_rows (HPR.out.get (i := 2) rfl))).mono ?_
     rintro e w14 ⟨rfl, hb14⟩
     have HPS : Hid (Pool [] w [[blk w.heap.size [J Z n.id, J Z n.has, J Z n.spent, J Z n.earned, V n.sa n.seen.length n.sc, V n.pa n.peers.length n.pc]], [blk (w.heap.size + 1) [J Z a.kind, J Z a.id, J Z a.to, J Z a.amt, J Z a.msg.fr, J Z a.msg.to, J Z a.msg.kind, J Z a.msg.seq, J Z a.msg.amt]], ndL wN ++ [orow 5 mgCells wA wC (actM n.d a).2.1], [blk BW [J Z wN.id, J Z wN.has, J Z wN.spent, J Z wN.earned, V wN.sa wN.seen.length wN.sc, V wN.pa wN.peers.length wN.pc]], ndL (mkN 1 XN), [blk BX [J Z XN.id, J Z XN.has, J Z XN.spent, J Z XN.earned, V XN.sa XN.seen.length XN.sc, V XN.pa XN.peers.length XN.pc]], ndL (mkN 1 gN), [blk BG [J Z gN.id, J Z gN.has, J Z gN.spent, J Z gN.earned, V gN.sa gN.seen.length gN.sc, V gN.pa gN.peers.length gN.pc]], [orow 5 mgCells gA gC (mkM QG (actM n.d a).2.1.length)], [], ndL hN ++ [orow 5 mgCells hA hC (actM n.d a).2.1], [blk BH [J Z hN.id, J Z hN.has, J Z hN.spent, J Z hN.earned, V hN.sa hN.seen.length hN.sc, V hN.pa hN.peers.length hN.pc]]] w14) := hide (HPR.out.keep hb14)
     clear hb14 HPR hc0 hc1 hc2 hc3 hc4 hc5 wc0 wc1 wc2 wc3 wc4 wc5
     have gc0 : w14.cell? ⟨BG, 0, none⟩ = some (J Z gN.id) := (HPS.out.blkAt (i := 7) rfl).c 0 _ rfl
     have gc1 : w14.cell? ⟨BG, 1, none⟩ = some (J Z gN.has) := (HPS.out.blkAt (i := 7) rfl).c 1 _ rfl
     have gc2 : w14.cell? ⟨BG, 2, none⟩ = some (J Z gN.spent) := (HPS.out.blkAt (i := 7) rfl).c 2 _ rfl
     have gc3 : w14.cell? ⟨BG, 3, none⟩ = some (J Z gN.earned) := (HPS.out.blkAt (i := 7) rfl).c 3 _ rfl
     have gc4 : w14.cell? ⟨BG, 4, none⟩ = some (V gN.sa gN.seen.length gN.sc) := (HPS.out.blkAt (i := 7) rfl).c 4 _ rfl
     have gc5 : w14.cell? ⟨BG, 5, none⟩ = some (V gN.pa gN.peers.length gN.pc) := (HPS.out.blkAt (i := 7) rfl).c 5 _ rfl
     go_wp2_with fail
     refine (heldNode_pool gN 1 w14 HSg.out ⟨by omega, by omega⟩ (HPS.out.get (i := 6) rfl).node).mono ?_
     rw [← HQG.out]
     rintro e w15 ⟨rfl, hb15⟩
     have HPT : Hid (Pool [] w [[blk w.heap.size [J Z n.id, J Z n.has, J Z n.spent, J Z n.earned, V n.sa n.seen.length n.sc, V n.pa n.peers.length n.pc]], [blk (w.heap.size + 1) [J Z a.kind, J Z a.id, J Z a.to, J Z a.amt, J Z a.msg.fr, J Z a.msg.to, J Z a.msg.kind, J Z a.msg.seq, J Z a.msg.amt]], ndL wN ++ [orow 5 mgCells wA wC (actM n.d a).2.1], [blk BW [J Z wN.id, J Z wN.has, J Z wN.spent, J Z wN.earned, V wN.sa wN.seen.length wN.sc, V wN.pa wN.peers.length wN.pc]], ndL (mkN 1 XN), [blk BX [J Z XN.id, J Z XN.has, J Z XN.spent, J Z XN.earned, V XN.sa XN.seen.length XN.sc, V XN.pa XN.peers.length XN.pc]], ndL (mkN 1 gN), [blk BG [J Z gN.id, J Z gN.has, J Z gN.spent, J Z gN.earned, V gN.sa gN.seen.length gN.sc, V gN.pa gN.peers.length gN.pc]], [orow 5 mgCells gA gC (mkM QG (actM n.d a).2.1.length)], [], ndL hN ++ [orow 5 mgCells hA hC (actM n.d a).2.1], [blk BH [J Z hN.id, J Z hN.has, J Z hN.spent, J Z hN.earned, V hN.sa hN.seen.length hN.sc, V hN.pa hN.peers.length hN.pc]]] w15) := hide (HPS.out.keep hb15)
     clear hb15 HPS gc0 gc1 gc2 gc3 gc4 gc5
     go_wp2_with fail
     refine (heldM_any gA (actM n.d a).2.1.length gC QG w15 hlm ⟨by omega, by omega⟩ (HPT.out.orowAt (i := 8) rfl).rows).mono ?_
     rintro e w16 ⟨rfl, hw16⟩
     rw [hw16]
     clear hw16
     go_wp2
     go_ret
     exact ⟨rfl, HPT.out.below⟩
end Go.Proofs.YtaohhdlkgnjphaaGreat
