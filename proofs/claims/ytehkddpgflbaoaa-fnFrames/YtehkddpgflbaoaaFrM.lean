/- Frames put one behind the other, and taken again: the mathematics of the law FnFrames. -/
import Derived.Test.YtehkddpgflbaoaaITk
namespace Go.Proofs.Ytehkddpgflbaoaa
open Go.ChangeShapes Go.WideShapes Go.ChangeAt Go.RowKit
set_option linter.unusedVariables false
/-- the frames of texts, one behind the other -/
def catL (l : List ByteArray) : List UInt8 := l.flatMap fun d => (frame d).data.toList
theorem catL_snoc (l : List ByteArray) (d : ByteArray) : catL (l ++ [d]) = catL l ++ (frame d).data.toList := by simp [catL]
theorem bs_self (d : ByteArray) : bs d.data.toList = d := (bs_of rfl).symm
theorem beN_be4 (n : Nat) (h : n ≤ 100000) (r : List UInt8) : beN ((be4 (n : Int)).data.toList ++ r) = n := by
  rw [beN_is]
  simp only [be4, List.cons_append, List.nil_append, List.getD_cons_zero, List.getD_cons_succ, UInt8.toNat_ofNat']
  omega
theorem frame_size (d : ByteArray) : (frame d).data.toList.length = 8 + d.size := by
  rw [frame_list, List.length_append, List.length_append, size_list]
  show 4 + 4 + d.size = _
  omega
theorem be4_len (z : Int) : (be4 z).data.toList.length = 4 := rfl
theorem le4_len (z : Int) : (le4 z).data.toList.length = 4 := rfl
theorem frame_ok (d : ByteArray) (h : d.size ≤ 100000) (r : List UInt8) : okL ((frame d).data.toList ++ r) ∧ beN ((frame d).data.toList ++ r) = d.size ∧ (((frame d).data.toList ++ r).drop 8).take d.size = d.data.toList ∧ ((frame d).data.toList ++ r).drop (8 + d.size) = r := by
  have hn : beN ((frame d).data.toList ++ r) = d.size := by
    rw [frame_list, List.append_assoc, List.append_assoc]; exact beN_be4 d.size h _
  have hd8 : ((frame d).data.toList ++ r).drop 8 = d.data.toList ++ r := by
    rw [frame_list, List.append_assoc, List.append_assoc, ← List.append_assoc]
    exact List.drop_left' (by rw [List.length_append]; rfl)
  have hd4 : (((frame d).data.toList ++ r).drop 4).take 4 = (le4 (crc d.data.toList)).data.toList := by
    rw [frame_list, List.append_assoc, List.append_assoc, List.drop_left' (be4_len _)]
    exact List.take_left' (le4_len _)
  have ht : (((frame d).data.toList ++ r).drop 8).take d.size = d.data.toList := by
    rw [hd8]; exact List.take_left' (size_list d)
  have hr : ((frame d).data.toList ++ r).drop (8 + d.size) = r := List.drop_left' (frame_size d)
  refine ⟨⟨?_, by rw [hn]; exact h, ?_, ?_⟩, hn, ht, hr⟩
  · rw [List.length_append, frame_size]; omega
  · rw [hn, List.length_append, frame_size]; omega
  · rw [hn, ht, hd4]; exact (bs_self _).symm
theorem frL_cons (f : Nat) (d : ByteArray) (h : d.size ≤ 100000) (r : List UInt8) : frL (f + 1) ((frame d).data.toList ++ r) = (d :: (frL f r).1, 8 + d.size + (frL f r).2) := by
  obtain ⟨h1, h2, h3, h4⟩ := frame_ok d h r
  rw [frL, if_pos h1, h2, h3, h4, bs_self]
theorem frL_nil : ∀ f, frL f [] = ([], 0)
  | 0 => rfl
  | f + 1 => by rw [frL, if_neg (fun k => by have := k.1; simp at this)]
theorem frL_cat : ∀ (ds : List ByteArray) (f : Nat), (∀ d ∈ ds, d.size ≤ 100000) → ds.length ≤ f → frL f (catL ds) = (ds, (catL ds).length)
  | [], f, _, _ => by rw [show catL [] = [] from rfl, frL_nil]; rfl
  | d :: ds, f, h, hf => by
    obtain ⟨f, rfl⟩ : ∃ g, f = g + 1 := ⟨f - 1, by simp at hf; omega⟩
    have ih := frL_cat ds f (fun x hx => h x (List.mem_cons_of_mem _ hx)) (by simp at hf; omega)
    show frL (f + 1) ((frame d).data.toList ++ catL ds) = (d :: ds, ((frame d).data.toList ++ catL ds).length)
    rw [frL_cons f d (h d (List.mem_cons_self ..)), ih, List.length_append, frame_size]
theorem cat_len (ds : List ByteArray) : ds.length ≤ (catL ds).length := by
  induction ds with
  | nil => simp
  | cons d ds ih =>
    show ds.length + 1 ≤ ((frame d).data.toList ++ catL ds).length
    rw [List.length_append, frame_size]; omega
/-- frames that are put together are taken again -/
theorem frames_cat (ds : List ByteArray) (h : ∀ d ∈ ds, d.size ≤ 100000) : frames (bs (catL ds)) = ds ∧ framesEnd (bs (catL ds)) = (catL ds).length := by
  have := frL_cat ds ((bs (catL ds)).size + 1) h (by rw [bs_size]; have := cat_len ds; omega)
  unfold frames framesEnd
  rw [bs_list, this]
  exact ⟨rfl, rfl⟩
theorem frL_small : ∀ f (l : List UInt8), ∀ d ∈ (frL f l).1, d.size ≤ 100000
  | 0, l => by simp [frL]
  | f + 1, l => by
    rw [frL]
    split
    · rename_i k
      intro d hd
      rcases List.mem_cons.1 hd with rfl | hd
      · rw [bs_size, List.length_take]; have := k.2.1; omega
      · exact frL_small f _ d hd
    · simp
theorem frames_small (s : ByteArray) : ∀ d ∈ frames s, d.size ≤ 100000 := frL_small _ _
theorem frL_take : ∀ f (l : List UInt8), catL (frL f l).1 = l.take (frL f l).2
  | 0, l => by simp [frL, catL]
  | f + 1, l => by
    rw [frL]
    split
    · rename_i k
      have ih := frL_take f (l.drop (8 + beN l))
      have hl : (bs l).size = l.length := bs_size l
      have hi := frame_is (bs l) (beN l) (by rw [bs_list]) (by rw [hl]; exact k.2.2.1)
      have e8 : (bs l).extract 8 (8 + beN l) = bs ((l.drop 8).take (beN l)) := bs_of (by rw [extract_list, bs_list, show 8 + beN l - 8 = beN l by omega])
      have e0 : ((bs l).extract 0 (8 + beN l)).data.toList = l.take (8 + beN l) := by rw [extract_list, bs_list, List.drop_zero, Nat.sub_zero]
      have hf := hi.2 (by rw [e8, bs_list, bs_list]; exact k.2.2.2)
      rw [e8] at hf
      show (frame (bs ((l.drop 8).take (beN l)))).data.toList ++ catL (frL f (l.drop (8 + beN l))).1 = _
      rw [hf, e0, ih]
      show _ = l.take (8 + beN l + (frL f (l.drop (8 + beN l))).2)
      conv => rhs; rw [List.take_add]
    · simp [catL]
theorem frL_end : ∀ f (l : List UInt8), (frL f l).2 ≤ l.length
  | 0, l => by simp [frL]
  | f + 1, l => by
    rw [frL]
    split
    · rename_i k
      have := frL_end f (l.drop (8 + beN l))
      have := k.2.2.1
      simp at *; omega
    · simp
theorem frames_end_le (s : ByteArray) : framesEnd s ≤ s.size := by
  have := frL_end (s.size + 1) s.data.toList
  rw [size_list] at this; exact this
theorem frames_take (s : ByteArray) : bs (catL (frames s)) = s.extract 0 (framesEnd s) := by
  have h := frL_take (s.size + 1) s.data.toList
  refine (bs_of ?_).symm
  rw [extract_list, List.drop_zero, Nat.sub_zero]
  exact h.symm
theorem cat_frames_len (s : ByteArray) : (catL (frames s)).length = framesEnd s := by
  have h := frL_take (s.size + 1) s.data.toList
  have h2 := frames_end_le s
  show (catL (frL (s.size + 1) s.data.toList).1).length = _
  rw [h, List.length_take, size_list]
  exact Nat.min_eq_left h2
theorem getD_take (l : List UInt8) (k j : Nat) (h : j < k) : (l.take k).getD j 0 = l.getD j 0 := by
  simp [List.getD, h]
theorem ok_take (l : List UInt8) (k : Nat) (h : okL (l.take k)) : okL l ∧ beN (l.take k) = beN l ∧ ((l.take k).drop 8).take (beN l) = (l.drop 8).take (beN l) ∧ 8 + beN l ≤ k := by
  have h8 := h.1
  have hk : 8 ≤ k ∧ 8 ≤ l.length := by rw [List.length_take] at h8; omega
  have hb : beN (l.take k) = beN l := by
    rw [beN_is, beN_is, getD_take _ _ _ (by omega), getD_take _ _ _ (by omega), getD_take _ _ _ (by omega), getD_take _ _ _ (by omega)]
  have hn := h.2.2.1
  rw [hb, List.length_take] at hn
  have e1 : ((l.take k).drop 8).take (beN l) = (l.drop 8).take (beN l) := by
    rw [List.drop_take, List.take_take, Nat.min_eq_left (by omega)]
  have e2 : ((l.take k).drop 4).take 4 = (l.drop 4).take 4 := by
    rw [List.drop_take, List.take_take, Nat.min_eq_left (by omega)]
  have h2 := h.2.1
  have h4 := h.2.2.2
  rw [hb] at h2 h4
  rw [e1, e2] at h4
  exact ⟨⟨hk.2, h2, by omega, h4⟩, hb, e1, by omega⟩
theorem frL_pre : ∀ f (l : List UInt8) k, (frL f (l.take k)).1 <+: (frL f l).1
  | 0, l, k => by simp [frL]
  | f + 1, l, k => by
    by_cases h : okL (l.take k)
    · obtain ⟨h1, h2, h3, h4⟩ := ok_take l k h
      have ih := frL_pre f (l.drop (8 + beN l)) (k - (8 + beN l))
      rw [frL, if_pos h, frL, if_pos h1, h2, h3, List.drop_take]
      exact List.prefix_cons_inj _ |>.2 ih
    · rw [frL, if_neg h]; exact List.nil_prefix
theorem frL_fuel : ∀ f g (l : List UInt8), l.length < f → l.length < g → frL f l = frL g l
  | 0, _, l, h, _ => by omega
  | _, 0, l, _, h => by omega
  | f + 1, g + 1, l, hf, hg => by
    rw [frL, frL]
    split
    · rename_i k
      have := k.2.2.1
      have e := frL_fuel f g (l.drop (8 + beN l)) (by simp; omega) (by simp; omega)
      rw [e]
    · rfl
/-- of frames that are cut the first few come back -/
theorem frames_pre (s : ByteArray) (k : Nat) : frames (s.extract 0 k) <+: frames s := by
  have h := frL_pre (s.size + 1) s.data.toList k
  have e : (s.extract 0 k).data.toList = s.data.toList.take k := by rw [extract_list, List.drop_zero, Nat.sub_zero]
  have e2 : frL ((s.extract 0 k).size + 1) (s.extract 0 k).data.toList = frL (s.size + 1) (s.data.toList.take k) := by
    rw [e]
    refine frL_fuel _ _ _ ?_ ?_
    · rw [← e, size_list]; omega
    · rw [List.length_take, size_list]; omega
  unfold frames
  rw [e2]; exact h
end Go.Proofs.Ytehkddpgflbaoaa
