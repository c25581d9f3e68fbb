/- The contract of the book's drop. -/
import Derived.Test.YtjjoeajnhblacaaGreatDoorBkM
import Derived.Test.YtjjoeajnhblacaaGreatDoorBkI
namespace Go.Proofs.YtjjoeajnhblacaaGreatDoor
open Go.ChangeShapes Go.WideShapes Go.ChangeAt Go.RowKit Go.Maps
set_option linter.unusedVariables false
set_option maxRecDepth 100000
theorem row_some {w : World} {base : Nat} {e : TypeId} {size c n : Nat} {a : Option Addr} {xs : List Value} (h : w.ownsRow base e size (.slice a n c) n xs) (h0 : 0 < n) : ∃ g, a = some ⟨g, 0, none⟩ := by
  obtain ⟨_, ⟨_, h1⟩ | ⟨g, c', cur, e0, _⟩⟩ := h
  · omega
  · simp only [Value.slice.injEq] at e0
    exact ⟨g, e0.1⟩
theorem row_room {w : World} {base : Nat} {e : TypeId} {size c n : Nat} {a : Option Addr} {xs : List Value} (h : w.ownsRow base e size (.slice a n c) n xs) (h0 : 0 < n) : n ≤ c := by
  obtain ⟨_, ⟨_, h1⟩ | ⟨g, c', cur, e0, _, _, hc, _⟩⟩ := h
  · omega
  · simp only [Value.slice.injEq] at e0
    rw [e0.2.2]
    exact hc
theorem del_pool {F : List Nat} {w x : World} {S : List (List Rs)} (h : Pool F w S x) {i g c k : Nat} {l : List Hld} (hi : S[i]? = some [row 71 4 (.slice (some ⟨g, 0, none⟩) l.length c) l.length (l.flatMap hldCells)]) (hl : l.length ≤ 1048576) (hk : k < l.length) :
    Calls Tryz.prog 96 #[.slice (some ⟨g, 0, none⟩) l.length c, .int .i64 (k : Int), .int .i64 ((k : Int) + 1)] x fun e y => e = .returned (.slice (some ⟨g, 0, none⟩) (cutL l k).length c) ∧ Pool F w (S.set i [row 71 4 (.slice (some ⟨g, 0, none⟩) (cutL l k).length c) (cutL l k).length ((cutL l k).flatMap hldCells)]) y := by
  refine (delete_any g c l k x hl hk (h.rowAt hi)).mono ?_
  rintro e y ⟨he, ho, hg⟩
  rw [← cutL_len l k hk] at he ho
  exact ⟨he, h.grow hi ho hg (.inl rfl)⟩
/-- what do leaves -/
def DoneEnd (q m : Nat) (sv : Value) (D : Led) (c : Cm) (g : Value) (FF : List Nat) (w : World) (e : Ending) (w' : World) : Prop :=
  ∃ (o : Option Int) (ps' : List Nat) (hv' : Value) (A' : List Acc) (H' : List Hld), DoIs D c o A' H' ∧ ps'.length = A'.length ∧ DoEnd o g FF (bkS q m ps' hv' sv A' H' D.seen).flatten w e w'
set_option maxHeartbeats 4000000 in
theorem drop_any (q m : Nat) (ps : List Nat) (hv sv : Value) (D : Led) (c : Cm) (t : TypeId) (v : Value) (w : World) (hps : ps.length = D.acc.length) (hm : LedM D) (hup : (D.hold.map Hld.id).Pairwise (· < ·)) (hl : D.hold.length ≤ 10) (hk : c.kind = 5) (h : Star (bkS q m ps hv sv D.acc D.hold D.seen).flatten w) (hg : w.cell? ⟨2, 0, none⟩ = some (.iface t v)) :
    Calls Tryz.prog 63 #[.pointer (some ⟨q, 0, none⟩), .int .i64 c.ref] w fun e w' => DoneEnd q m sv D c (.iface t v) (fps (bkS q m ps hv sv D.acc D.hold D.seen).flatten) w e w' := by
  obtain ⟨FF, hFF⟩ : ∃ FF, FF = fps (bkS q m ps hv sv D.acc D.hold D.seen).flatten := ⟨_, rfl⟩
  obtain ⟨ha, ch, sa, cs, rfl, rfl, hbk⟩ := h.bk hps
  obtain ⟨sv, hsv⟩ : ∃ sv, sv = Value.slice sa D.seen.length cs := ⟨_, rfl⟩
  rw [← hsv] at h hFF ⊢
  have HP : Hid (Pool FF w [[blk q [.map (some m), .slice ha D.hold.length ch, sv]], [mapR m (D.acc.map Acc.name) ps], accB' ps D.acc, [row 71 4 (.slice ha D.hold.length ch) D.hold.length (D.hold.flatMap hldCells)], [row 47 2 sv D.seen.length (D.seen.flatMap snCells)], []] w) := hide (by
    rw [hFF]
    exact (Pool.of h).cast (by simp [bkS]))
  have HG : Hid _ := hide hg
  have HK : Hid _ := hide hbk
  have HM : Hid _ := hide hm
  have HU : Hid _ := hide hup
  have HC : Hid _ := hide hk
  have HPS : Hid _ := hide hps
  rw [← hFF]
  clear h hg hFF hps hbk hm hup hk hsv
  go_enter Tryz.func63, Tryz.ntmps63
  go_wp2_with fail
  refine (holdPlace_any q ha D.hold ch c.ref w (by omega) HK.out.hold HK.out.lt HK.out.c1).mono ?_
  rintro e w1 ⟨rfl, hb1⟩
  have HP1 : Hid (Pool FF w [[blk q [.map (some m), .slice ha D.hold.length ch, sv]], [mapR m (D.acc.map Acc.name) ps], accB' ps D.acc, [row 71 4 (.slice ha D.hold.length ch) D.hold.length (D.hold.flatMap hldCells)], [row 47 2 sv D.seen.length (D.seen.flatMap snCells)], []] w1) := hide (HP.out.keep hb1)
  have HG1 : Hid _ := hide ((hb1.cell (p := ⟨2, 0, none⟩) (cell_lt HG.out)).trans HG.out)
  clear hb1 HP HG HK
  cases hf : fi (D.hold.map Hld.id) c.ref with
  | none =>
    have HE : Hid _ := hide (do_end_none HM.out (.inr HC.out) hf)
    clear hf
    simp only [ixV]
    go_wp2_with fail
    refine (denied_any _ t v _ HG1.out).mono ?_
    rintro e w3 ⟨rfl, rfl⟩
    go_wp2_with fail
    go_ret
    exact ⟨some 9, ps, .slice ha D.hold.length ch, D.acc, D.hold, HE.out, HPS.out, _, rfl, (HP1.out.newBlk (i := 5) rfl [.int .i64 9, .iface t v] 95).cast (by simp [bkS])⟩
  | some k =>
    obtain ⟨hkl, _, _⟩ := fiH_some hf
    have HE : Hid _ := hide (do_drop HM.out HU.out HC.out hf)
    obtain ⟨g, rfl⟩ := row_some (HP1.out.rowAt (i := 3) rfl) (by omega)
    clear hf
    simp only [ixV]
    have k0 : ¬ ((k : Int) < 0) := by omega
    have w1_ : IntKind.i64.wrap ((k : Int) + 1) = (k : Int) + 1 := wrap64_id (by omega)
    have d1 := (HP1.out.blkAt (i := 0) rfl).c 1 _ rfl
    have dl := (HP1.out.blkAt (i := 0) rfl).lt
    go_wp2_with fail
    refine (del_pool HP1.out (i := 3) rfl (by omega) hkl).mono ?_
    rintro e w2 ⟨rfl, hp2⟩
    have HP2 : Hid (Pool FF w [[blk q [.map (some m), .slice (some ⟨g, 0, none⟩) D.hold.length ch, sv]], [mapR m (D.acc.map Acc.name) ps], accB' ps D.acc, [row 71 4 (.slice (some ⟨g, 0, none⟩) (cutL D.hold k).length ch) (cutL D.hold k).length ((cutL D.hold k).flatMap hldCells)], [row 47 2 sv D.seen.length (D.seen.flatMap snCells)], []] w2) := hide hp2
    clear hp2 HP1 d1 dl
    obtain ⟨Z, hZ⟩ : ∃ Z, Z = cutL D.hold k := ⟨_, rfl⟩
    rw [← hZ] at HP2 HE ⊢
    clear hZ
    have t1 := (HP2.out.blkAt (i := 0) rfl).c 1 _ rfl
    have f1 := (HP2.out.blkAt (i := 0) rfl).f 1
    have HP3 : Hid _ := hide (HP2.out.setBlk (i := 0) rfl 1 (.slice (some ⟨g, 0, none⟩) Z.length ch) (by simp))
    clear HP2
    go_wp2_with fail
    go_ret
    exact ⟨none, ps, .slice (some ⟨g, 0, none⟩) Z.length ch, D.acc, Z, HE.out, HPS.out, rfl, HP3.out.cast (by simp [bkS])⟩
end Go.Proofs.YtjjoeajnhblacaaGreatDoor
