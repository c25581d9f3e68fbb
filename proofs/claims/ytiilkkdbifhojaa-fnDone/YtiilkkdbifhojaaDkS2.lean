/- The contracts of the model's l8Put, l8Files, l8Form, l8Same. -/
import Derived.Test.YtiilkkdbifhojaaDkS1
namespace Go.Proofs.Ytiilkkdbifhojaa
open Go.ChangeShapes Go.WideShapes Go.ChangeAt Go.RowKit
set_option linter.unusedVariables false
set_option maxRecDepth 100000
set_option maxHeartbeats 4000000 in
theorem l8Put_any (a : Option Addr) (l : List Fl) (cap : Nat) (nm da : ByteArray) (w : World) (hl : l.length ≤ 1000) (h : RowAt 2 flCells w a l) :
    Calls Try.prog 48 #[.slice a l.length cap, .string nm, .string da] w fun e w' => NewF (putL l nm da) w e w' := by
  have HC : Hid _ := hide h
  clear h
  obtain ⟨i0, hi0, hz0, hz1, hz2⟩ := info_parts infoF
  have hu := huF
  go_enter Try.func48, Try.ntmps48
  go_wp2
  go_loopw [7, 8, 9] (fun v d i wr => ∃ (k : Nat) (out : List Fl) (dn : Bool), k ≤ l.length ∧ i = .int .i64 (k : Int) ∧ d = .bool dn ∧ Hid (putK l nm da k = (out, dn)) ∧ Hid (Below w.heap.size w wr) ∧ Hid (wr.ownsRow w.heap.size 52 2 v out.length (out.flatMap flCells))) (fun v d i wr => l.length - (intOf i).toNat)
  case atStart => exact ⟨0, [], false, Nat.zero_le _, rfl, rfl, hide rfl, hide (below_alloc (Below.refl _ _) _), hide (World.ownsRow_made w #[] 0 (Nat.le_refl _) (by unfold maxLen; omega) rfl)⟩
  case round =>
    obtain ⟨k, out, dn, hk, rfl, rfl, HK, HX, HO⟩ := hrel
    obtain ⟨va, vc, rfl⟩ := row_shape HO.out
    have HLN : Hid (out.length ≤ 2000) := hide (by have := putK_len l nm da k; rw [HK.out] at this; simp only at this; omega)
    by_cases hlt : k < l.length
    · have hlt' : (k : Int) < (l.length : Int) := by omega
      obtain ⟨b, off, rfl, hb, c0, c1⟩ := fl_row (HC.out.below HX.out) k hlt
      have HNX : Hid (putK l nm da (k + 1) = putS nm da (out, dn) l[k]) := hide (by rw [putK_next l nm da k hlt, HK.out])
      cases dn
      · cases hls : Op.bytesLess (l[k]).nm.toList nm.toList
        · cases hq : ((l[k]).nm.toList == nm.toList)
          · go_wp2_with (first | (at_builtin; refine Shut2.mk ?_) | fail)
            refine Shut2.mk' ?_
            refine wpList_append_own_at _ rfl _ _ 24 rfl w.heap.size 52 i0 _ 2 32 hu hi0 hz0 hz1 hz2 rfl (by decide) (.slice va out.length vc) out.length (out.flatMap flCells) rfl ?ownf ⟨wr.heap.size, 0, none⟩ 1 1 [.string nm, .string da] rfl rfl ?newsf (by simp [Value.oneCell']) (by have := HLN.out; unfold maxLen; omega) (by have := HLN.out; omega) ?basef ?_
            case ownf => exact own_keep HO.out (below_alloc (Below.refl _ _) _)
            case newsf => exact news2 (World.cell?_alloc_at _ _ _ _ rfl) (World.cell?_alloc_at _ _ _ _ rfl)
            case basef => have := HX.out.size; simp; omega
            intro v6 w6 ho6 hg6 _ _
            have HO6 : Hid (w6.ownsRow w.heap.size 52 2 v6 (out ++ [(⟨nm, da⟩ : Fl)]).length ((out ++ [(⟨nm, da⟩ : Fl)]).flatMap flCells)) := hide (by
              rw [List.flatMap_append]
              simpa [flCells] using ho6)
            have HX6 : Hid (Below w.heap.size w w6) := hide ((below_alloc HX.out _).grown hg6 (by have := HX.out.size; simp; omega) (fun j hj => own_base HO.out j hj))
            obtain ⟨b2, off2, e2, hb2, d0, d1⟩ := fl_row (HC.out.below HX6.out) k hlt
            simp only [Option.some.injEq, Addr.mk.injEq, and_true] at e2
            obtain ⟨rfl, rfl⟩ := e2
            obtain ⟨out2, hout2⟩ : ∃ o, o = out ++ [(⟨nm, da⟩ : Fl)] := ⟨_, rfl⟩
            rw [← hout2] at HO6
            have HLN2 : Hid (out2.length ≤ 2001) := hide (by have := HLN.out; rw [hout2]; simp; omega)
            have HO2 : Hid (out2 = out ++ [(⟨nm, da⟩ : Fl)]) := hide hout2
            obtain ⟨va6, vc6, rfl⟩ := row_shape HO6.out
            clear HO ho6 hg6 HX c0 c1 hb hout2
            go_wp2_with (first | (at_builtin; refine Shut2.mk ?_) | fail)
            refine Shut2.mk' ?_
            refine wpList_append_own_at _ rfl _ _ 24 rfl w.heap.size 52 i0 _ 2 32 hu hi0 hz0 hz1 hz2 rfl (by decide) (.slice va6 out2.length vc6) out2.length (out2.flatMap flCells) rfl ?owna ⟨w6.heap.size, 0, none⟩ 1 1 [.string l[k].nm, .string l[k].da] rfl rfl ?newsa (by simp [Value.oneCell']) (by have := HLN2.out; unfold maxLen; simp; omega) (by have := HLN2.out; simp; omega) ?basea ?_
            case owna => exact own_keep HO6.out (below_alloc (Below.refl _ _) _)
            case newsa => exact news2 (World.cell?_alloc_at _ _ _ _ rfl) (World.cell?_alloc_at _ _ _ _ rfl)
            case basea => have := HX6.out.size; simp; omega
            intro v7 w7 ho7 hg7 _ _
            have HO7 : Hid (w7.ownsRow w.heap.size 52 2 v7 (out2 ++ [l[k]]).length ((out2 ++ [l[k]]).flatMap flCells)) := hide (by
              rw [List.flatMap_append]
              simpa [flCells] using ho7)
            have HX7 : Hid (Below w.heap.size w w7) := hide ((below_alloc HX6.out _).grown hg7 (by have := HX6.out.size; simp; omega) (fun j hj => own_base HO6.out j hj))
            have HK7 : Hid (putK l nm da (k + 1) = (out2 ++ [l[k]], true)) := hide (by rw [HNX.out, HO2.out]; simp [putS, hls, hq])
            clear HNX HK HO6 ho7 hg7 HX6
            go_wp2
            exact ⟨⟨k + 1, out2 ++ [l[k]], true, by omega, by go_num, rfl, HK7, HX7, HO7⟩, by simp [intOf]; omega⟩
          · go_wp2_with (first | (at_builtin; refine Shut2.mk ?_) | fail)
            refine Shut2.mk' ?_
            refine wpList_append_own_at _ rfl _ _ 24 rfl w.heap.size 52 i0 _ 2 32 hu hi0 hz0 hz1 hz2 rfl (by decide) (.slice va out.length vc) out.length (out.flatMap flCells) rfl ?owng ⟨wr.heap.size, 0, none⟩ 1 1 [.string nm, .string da] rfl rfl ?newsg (by simp [Value.oneCell']) (by have := HLN.out; unfold maxLen; omega) (by have := HLN.out; omega) ?baseg ?_
            case owng => exact own_keep HO.out (below_alloc (Below.refl _ _) _)
            case newsg => exact news2 (World.cell?_alloc_at _ _ _ _ rfl) (World.cell?_alloc_at _ _ _ _ rfl)
            case baseg => have := HX.out.size; simp; omega
            intro v6 w6 ho6 hg6 _ _
            have HO6 : Hid (w6.ownsRow w.heap.size 52 2 v6 (out ++ [(⟨nm, da⟩ : Fl)]).length ((out ++ [(⟨nm, da⟩ : Fl)]).flatMap flCells)) := hide (by
              rw [List.flatMap_append]
              simpa [flCells] using ho6)
            have HX6 : Hid (Below w.heap.size w w6) := hide ((below_alloc HX.out _).grown hg6 (by have := HX.out.size; simp; omega) (fun j hj => own_base HO.out j hj))
            obtain ⟨b2, off2, e2, hb2, d0, d1⟩ := fl_row (HC.out.below HX6.out) k hlt
            simp only [Option.some.injEq, Addr.mk.injEq, and_true] at e2
            obtain ⟨rfl, rfl⟩ := e2
            obtain ⟨out2, hout2⟩ : ∃ o, o = out ++ [(⟨nm, da⟩ : Fl)] := ⟨_, rfl⟩
            rw [← hout2] at HO6
            have HLN2 : Hid (out2.length ≤ 2001) := hide (by have := HLN.out; rw [hout2]; simp; omega)
            have HO2 : Hid (out2 = out ++ [(⟨nm, da⟩ : Fl)]) := hide hout2
            obtain ⟨va6, vc6, rfl⟩ := row_shape HO6.out
            clear HO ho6 hg6 HX c0 c1 hb hout2
            have HK7 : Hid (putK l nm da (k + 1) = (out2, true)) := hide (by rw [HNX.out, HO2.out]; simp [putS, hls, hq])
            clear HNX HK
            go_wp2
            exact ⟨⟨k + 1, out2, true, by omega, by go_num, rfl, HK7, HX6, HO6⟩, by simp [intOf]; omega⟩
        · cases hq : ((l[k]).nm.toList == nm.toList)
          · go_wp2_with (first | (at_builtin; refine Shut2.mk ?_) | fail)
            refine Shut2.mk' ?_
            refine wpList_append_own_at _ rfl _ _ 24 rfl w.heap.size 52 i0 _ 2 32 hu hi0 hz0 hz1 hz2 rfl (by decide) (.slice va out.length vc) out.length (out.flatMap flCells) rfl ?ownb ⟨wr.heap.size, 0, none⟩ 1 1 [.string l[k].nm, .string l[k].da] rfl rfl ?newsb (by simp [Value.oneCell']) (by have := HLN.out; unfold maxLen; simp; omega) (by have := HLN.out; simp; omega) ?baseb ?_
            case ownb => exact own_keep HO.out (below_alloc (Below.refl _ _) _)
            case newsb => exact news2 (World.cell?_alloc_at _ _ _ _ rfl) (World.cell?_alloc_at _ _ _ _ rfl)
            case baseb => have := HX.out.size; simp; omega
            intro v7 w7 ho7 hg7 _ _
            have HO7 : Hid (w7.ownsRow w.heap.size 52 2 v7 (out ++ [l[k]]).length ((out ++ [l[k]]).flatMap flCells)) := hide (by
              rw [List.flatMap_append]
              simpa [flCells] using ho7)
            have HX7 : Hid (Below w.heap.size w w7) := hide ((below_alloc HX.out _).grown hg7 (by have := HX.out.size; simp; omega) (fun j hj => own_base HO.out j hj))
            have HK7 : Hid (putK l nm da (k + 1) = (out ++ [l[k]], false)) := hide (by rw [HNX.out]; simp [putS, hls, hq])
            clear HNX HK HO ho7 hg7 HX
            go_wp2
            exact ⟨⟨k + 1, out ++ [l[k]], false, by omega, by go_num, rfl, HK7, HX7, HO7⟩, by simp [intOf]; omega⟩
          · have HK7 : Hid (putK l nm da (k + 1) = (out, false)) := hide (by rw [HNX.out]; simp [putS, hls, hq])
            clear HNX HK
            go_wp2
            exact ⟨⟨k + 1, out, false, by omega, by go_num, rfl, HK7, HX, HO⟩, by simp [intOf]; omega⟩
      · cases hq : ((l[k]).nm.toList == nm.toList)
        · go_wp2_with (first | (at_builtin; refine Shut2.mk ?_) | fail)
          refine Shut2.mk' ?_
          refine wpList_append_own_at _ rfl _ _ 24 rfl w.heap.size 52 i0 _ 2 32 hu hi0 hz0 hz1 hz2 rfl (by decide) (.slice va out.length vc) out.length (out.flatMap flCells) rfl ?ownc ⟨wr.heap.size, 0, none⟩ 1 1 [.string l[k].nm, .string l[k].da] rfl rfl ?newsc (by simp [Value.oneCell']) (by have := HLN.out; unfold maxLen; simp; omega) (by have := HLN.out; simp; omega) ?basec ?_
          case ownc => exact own_keep HO.out (below_alloc (Below.refl _ _) _)
          case newsc => exact news2 (World.cell?_alloc_at _ _ _ _ rfl) (World.cell?_alloc_at _ _ _ _ rfl)
          case basec => have := HX.out.size; simp; omega
          intro v7 w7 ho7 hg7 _ _
          have HO7 : Hid (w7.ownsRow w.heap.size 52 2 v7 (out ++ [l[k]]).length ((out ++ [l[k]]).flatMap flCells)) := hide (by
            rw [List.flatMap_append]
            simpa [flCells] using ho7)
          have HX7 : Hid (Below w.heap.size w w7) := hide ((below_alloc HX.out _).grown hg7 (by have := HX.out.size; simp; omega) (fun j hj => own_base HO.out j hj))
          have HK7 : Hid (putK l nm da (k + 1) = (out ++ [l[k]], true)) := hide (by rw [HNX.out]; simp [putS, hq])
          clear HNX HK HO ho7 hg7 HX
          go_wp2
          exact ⟨⟨k + 1, out ++ [l[k]], true, by omega, by go_num, rfl, HK7, HX7, HO7⟩, by simp [intOf]; omega⟩
        · have HK7 : Hid (putK l nm da (k + 1) = (out, true)) := hide (by rw [HNX.out]; simp [putS, hq])
          clear HNX HK
          go_wp2
          exact ⟨⟨k + 1, out, true, by omega, by go_num, rfl, HK7, HX, HO⟩, by simp [intOf]; omega⟩
    · have hlt' : ¬ (k : Int) < (l.length : Int) := by omega
      have HE : Hid (k = l.length) := hide (by omega)
      cases dn
      · go_wp2_with (first | (at_builtin; refine Shut2.mk ?_) | fail)
        refine Shut2.mk' ?_
        refine wpList_append_own_at _ rfl _ _ 24 rfl w.heap.size 52 i0 _ 2 32 hu hi0 hz0 hz1 hz2 rfl (by decide) (.slice va out.length vc) out.length (out.flatMap flCells) rfl ?own ⟨wr.heap.size, 0, none⟩ 1 1 [.string nm, .string da] rfl rfl ?news (by simp [Value.oneCell']) (by have := HLN.out; unfold maxLen; omega) (by have := HLN.out; omega) ?base ?_
        case own => exact own_keep HO.out (below_alloc (Below.refl _ _) _)
        case news => exact news2 (World.cell?_alloc_at _ _ _ _ rfl) (World.cell?_alloc_at _ _ _ _ rfl)
        case base => have := HX.out.size; simp; omega
        intro v6 w6 ho6 hg6 _ _
        have HO6 : Hid (w6.ownsRow w.heap.size 52 2 v6 (out ++ [(⟨nm, da⟩ : Fl)]).length ((out ++ [(⟨nm, da⟩ : Fl)]).flatMap flCells)) := hide (by
          rw [List.flatMap_append]
          simpa [flCells] using ho6)
        have HX6 : Hid (Below w.heap.size w w6) := hide ((below_alloc HX.out _).grown hg6 (by have := HX.out.size; simp; omega) (fun j hj => own_base HO.out j hj))
        have HEE : Hid (NewF (putL l nm da) w (.returned v6) w6) := hide (newF_of HX6.out (by
          have hk2 := HK.out
          rw [HE.out] at hk2
          have e : putL l nm da = out ++ [⟨nm, da⟩] := by simp [putL, hk2]
          rw [e]
          exact HO6.out))
        clear HO ho6 hg6 HX HE HK
        go_wp2
        go_ret
        exact HEE.out
      · have HEE : Hid (NewF (putL l nm da) w (.returned (.slice va out.length vc)) wr) := hide (newF_of HX.out (by
          have hk2 := HK.out
          rw [HE.out] at hk2
          have e : putL l nm da = out := by simp [putL, hk2]
          rw [e]
          exact HO.out))
        clear HE HK
        go_wp2
        go_ret
        exact HEE.out
end Go.Proofs.Ytiilkkdbifhojaa
