/- The contracts of the program's fileNameOk, shelf.has, shelf.fits and shelfOf. -/
import Derived.Test.YtiilkkdbifhojaaDkI1
import Derived.Deep.CutRange
namespace Go.Proofs.Ytiilkkdbifhojaa
open Go.ChangeShapes Go.WideShapes Go.ChangeAt Go.RowKit Go.Maps
set_option linter.unusedVariables false
set_option maxRecDepth 100000
theorem fileNameOk_any (s : ByteArray) (w : World) (h : s.size ≤ 4194304) :
    Calls Try.prog 40 #[.string s] w fun e w' => e = .returned (.bool (nmB s)) ∧ w' = w := by
  go_enter Try.func40, Try.ntmps40
  go_wp2_with fail
  refine (within_any _ _ _ _).mono ?_
  rintro e w' ⟨rfl, rfl⟩
  go_wp2
  go_ret
  exact ⟨rfl, rfl⟩
theorem sameKey_kn {a b : ByteArray} : (kn a).sameKey (kn b) = true ↔ a = b := by
  constructor
  · intro h
    by_cases e : kn a = kn b
    · exact kn_inj e
    · rw [sameKey_ne e] at h; cases h
  · rintro rfl
    exact WideAt.sameKey_self (kn_key _)
/-- what those that are done have, in all -/
def dnS (left : Lit → Bool) : List Fl → Nat
  | [] => 0
  | f :: l => (if left (kn f.nm) then 0 else f.da.size) + dnS left l
theorem dnS_start {left : Lit → Bool} {l : List Fl} (h : ∀ f ∈ l, left (kn f.nm) = true) : dnS left l = 0 := by
  induction l with
  | nil => rfl
  | cons x xs ih => simp only [dnS, h x (by simp), if_true]; rw [ih (fun y hy => h y (by simp [hy]))]
theorem dnS_end {left : Lit → Bool} {l : List Fl} (h : ∀ kl, left kl = false) : dnS left l = datL l := by
  induction l with
  | nil => rfl
  | cons x xs ih => simp only [dnS, h, Bool.false_eq_true, if_false, datL, ih]
theorem dnS_congr {left left' : Lit → Bool} {l : List Fl} (h : ∀ f ∈ l, left (kn f.nm) = left' (kn f.nm)) : dnS left l = dnS left' l := by
  induction l with
  | nil => rfl
  | cons x xs ih => simp only [dnS, h x (by simp)]; rw [ih (fun y hy => h y (by simp [hy]))]
theorem dnS_le (left : Lit → Bool) (l : List Fl) : dnS left l ≤ datL l := by
  induction l with
  | nil => simp [dnS]
  | cons x xs ih => simp only [dnS, datL]; split <;> omega
theorem dnS_step {left : Lit → Bool} : ∀ {l : List Fl} (hs : Srt l) {f : Fl} (hf : f ∈ l), left (kn f.nm) = true → dnS (fun z => left z && !z.sameKey (kn f.nm)) l = dnS left l + f.da.size := by
  intro l
  induction l with
  | nil => intro hs f hf; simp at hf
  | cons x xs ih =>
    intro hs f hf hl
    have hs' := List.pairwise_cons.1 hs
    rcases List.mem_cons.1 hf with rfl | hf'
    · have hself : (kn f.nm).sameKey (kn f.nm) = true := sameKey_kn.2 rfl
      simp only [dnS, hl, hself, if_true, Bool.not_true, Bool.and_false, Bool.false_eq_true, if_false]
      rw [dnS_congr (left' := left) (fun y hy => by
        have hne := hs'.1 y hy
        have : (kn y.nm).sameKey (kn f.nm) = false := by
          rw [Bool.eq_false_iff]; intro e; rw [sameKey_kn.1 e] at hne; exact List.lt_irrefl _ hne
        simp [this])]
      omega
    · have hne := hs'.1 f hf'
      have : (kn x.nm).sameKey (kn f.nm) = false := by
        rw [Bool.eq_false_iff]; intro e; rw [sameKey_kn.1 e] at hne; exact List.lt_irrefl _ hne
      simp only [dnS, this, Bool.not_false, Bool.and_true]
      rw [ih hs'.2 hf' hl]
      omega
/-- the step of a range over a shelf -/
theorem wpList_next_shelf {ops : Array Oper} {rest : List Oper} {o : Oper} {a : Act} {Q : Exit → Act → World → Prop} (w : World) (hg : o.guard = none) (it : Operand) (hop : o.op = Op.next it false) (m r n : Nat) (D : DataW Unit) (left : Lit → Bool) (cnt : Nat)
    (hit : a.eval it = .pointer (some ⟨r, 0, none⟩)) (h : w.ranges Try.prog 9 bdElem m r n D left cnt) (l : List Fl) (β : ByteArray → Bd) (hat : ∀ f ∈ l, ∀ z, D.atKey (kn f.nm) z = (β f.nm).D) (honly : ∀ kl, Maps.has D kl = true → ∃ f ∈ l, kl = kn f.nm)
    (hDone : (∀ kl, left kl = false) → wpList Try.prog ops Q rest (a.put o.dst (.tuple #[.bool false])) w)
    (hMore : ∀ f ∈ l, ∀ (w' : World) (cnt' : Nat), left (kn f.nm) = true → w'.ranges Try.prog 9 bdElem m r n D (fun z => left z && !z.sameKey (kn f.nm)) cnt' → cnt' < cnt → w.grownBy w' (some r) → w'.heap.size = w.heap.size →
      (Instr.entry (.pointer (some ⟨r, 0, none⟩))).run Try.prog w' = .ok (.tuple #[.string f.nm, .agg #[.slice (adr (β f.nm).a) (β f.nm).ps.length (β f.nm).c, .int .i64 ((catL (β f.nm).ps).size : Int)]]) w' → wpList Try.prog ops Q rest (a.put o.dst (.tuple #[.bool true, .string f.nm, .agg #[.slice (adr (β f.nm).a) (β f.nm).ps.length (β f.nm).c, .int .i64 ((catL (β f.nm).ps).size : Int)]])) w') :
    wpList Try.prog ops Q (o :: rest) a w := by
  refine wpList_next_ranges w hg it hop 9 law9 bdElem Value.string (fun q : Option Nat × Nat × Nat × Int => .agg #[.slice (adr q.1) q.2.1 q.2.2.1, .int .i64 q.2.2.2]) (fun key kl hk => by obtain ⟨s, rfl, _⟩ := WideMaps.string_of_keyOf u9 hk; exact ⟨s, rfl⟩) (fun v y hv => by obtain ⟨a, n, c, k, rfl, _⟩ := bd_inv hv; exact ⟨(a, n, c, k), rfl⟩)
    m r n D left cnt hit h (fun _ hl => hDone hl) (fun x c kl y w' cnt' hkey hlk hv hat' hrg hlt hgr hsz hen => ?_)
  obtain ⟨f, hf, rfl⟩ := honly kl (has_true_of_atKey hat')
  obtain ⟨a1, n1, c1, k1, e1, e2⟩ := bd_inv hv
  have e3 : (β f.nm).D = bdD a1 n1 c1 k1 := by
    have h1 := (hat f hf b0.D).symm.trans (hat' b0.D)
    rw [h1, e2]
  obtain ⟨q1, q2, q3, q4⟩ := bdD_inj e3
  obtain ⟨s, e4, e5, _⟩ := WideMaps.string_of_keyOf u9 hkey
  cases e4
  obtain rfl := kn_inj (a := f.nm) e5
  have ev : Value.agg #[.slice (adr c.1) c.2.1 c.2.2.1, .int .i64 c.2.2.2] = .agg #[.slice (adr (β f.nm).a) (β f.nm).ps.length (β f.nm).c, .int .i64 ((catL (β f.nm).ps).size : Int)] := by
    rw [e1, q1, q2, q3, q4]
  simp only [ev] at hen ⊢
  exact hMore f hf w' cnt' hlk hrg hlt hgr hsz hen
def fitB (l : List Fl) : Bool := decide ((l.length : Int) ≤ 60) && decide ((datL l : Int) ≤ 200000)
set_option maxHeartbeats 2000000 in
theorem fits_any (base m N : Nat) (l : List Fl) (β : ByteArray → Bd) (w : World) (hd : datL l ≤ 1000000000) (h : Shelf base m l β N w) :
    Calls Try.prog 29 #[.map (some m)] w fun e w' => e = .returned (.bool (fitB l)) ∧ Below w.heap.size w w' := by
  obtain ⟨D, n, hn, hown, hat, honly, hsz⟩ := h.map
  have HS : Hid _ := hide h.srt
  have HCT : Hid _ := hide h.cat
  have HA : Hid _ := hide hat
  have HO : Hid _ := hide honly
  have HL : Hid (∀ x : World, x.ownsMap Try.prog 9 bdElem m n D → (Builtin.len_ #[48] 3 #[.map (some m)]).run Try.prog x = .ok (.int .i64 (l.length : Int)) x) := hide (fun x hx => by rw [hx.len uM, hsz])
  clear hat honly hsz h
  go_enter Try.func29, Try.ntmps29
  go_wp2_with (first
    | (at_range; refine wpList_range_own _ rfl _ 48 rfl 9 77 law9 uM _ m n D rfl hown ?_; intro w0 hrg0 hg0 hs0)
    | go_in)
  go_frame
  have HB0 : Hid (Below w.heap.size w w0) := hide ((Below.refl _ _).grown hg0 (Nat.le_refl _) (fun j hj => by cases hj))
  go_loopw [3] (fun s wr => ∃ (left : Lit → Bool) (cnt : Nat) (z : Nat), wr.ranges Try.prog 9 bdElem m w.heap.size n D left cnt ∧ Below w.heap.size w wr ∧ s = .int .i64 (z : Int) ∧ Hid (z = dnS left l)) (fun s wr => wr.rangeLeft m w.heap.size)
  case atStart =>
    refine ⟨_, _, 0, hrg0, HB0.out, rfl, hide ?_⟩
    rw [dnS_start]
    intro f hf
    exact has_true_of_atKey (HA.out f hf)
  case round =>
    obtain ⟨left, cnt, z, hrg, HB, rfl, HZ⟩ := hrel
    have hzb : z ≤ 1000000000 := by rw [HZ.out]; exact Nat.le_trans (dnS_le _ _) hd
    go_wp2_with (first
      | (at_next; refine wpList_next_shelf _ rfl _ rfl m w.heap.size n D left cnt rfl hrg l β HA.out HO.out ?_ ?_)
      | go_in)
    · intro hl0
      have HE : Hid (z = datL l) := hide (by rw [HZ.out, dnS_end hl0])
      have hlen := HL.out wr hrg.owns
      have hfb : fitB l = (decide ((l.length : Int) ≤ 60) && decide ((z : Int) ≤ 200000)) := by rw [HE.out]; rfl
      have HF : Hid _ := hide hfb
      clear hl0 hfb HZ
      by_cases g1 : (l.length : Int) ≤ 60
      · go_wp2
        go_ret
        exact ⟨by rw [HF.out]; simp [g1], HB⟩
      · go_wp2
        go_ret
        exact ⟨by rw [HF.out]; simp; omega, HB⟩
    · intro f hf w1 cnt1 hlj hrg1 hlt hg1 hs1 hen
      have HB1 : Hid (Below w.heap.size w w1) := hide (HB.grown hg1 HB.size (fun k hk => by cases hk; exact Nat.le_refl _))
      have hst := dnS_step HS.out hf hlj
      have hle := dnS_le (fun z => left z && !z.sameKey (kn f.nm)) l
      have hcs : (catL (β f.nm).ps).size = f.da.size := by rw [HCT.out f hf]
      have HT : Hid (z + f.da.size = dnS (fun z => left z && !z.sameKey (kn f.nm)) l) := hide (by rw [hst, HZ.out])
      have hzb2 : z + f.da.size ≤ 1000000000 := by rw [HT.out]; omega
      have HM : Hid (w1.rangeLeft m w.heap.size < wr.rangeLeft m w.heap.size) := hide (by rw [hrg1.left_eq, hrg.left_eq]; exact hlt)
      have HR : Hid _ := hide hrg1
      rw [hcs] at hen ⊢
      clear hrg1 hrg hg1 hs1 hlt hlj hrg0 hg0 hs0 hown hst hle hcs HZ
      go_wp2
      go_roundw
      case rel => exact ⟨_, cnt1, z + f.da.size, HR.out.alloc _, below_alloc HB1.out _, by go_num, HT⟩
      case measure =>
        have hm := HM.out
        rw [HR.out.left_eq] at hm
        rw [(HR.out.alloc _).left_eq]
        exact hm

theorem b0V : b0.V = .agg #[.slice none 0 0, .int .i64 0] := rfl
set_option maxHeartbeats 1000000 in
theorem has_any (base m N : Nat) (l : List Fl) (β : ByteArray → Bd) (nm : ByteArray) (w : World) (hn : nm.size ≤ 4194304) (h : Shelf base m l β N w) :
    Calls Try.prog 116 #[.map (some m), .string nm] w fun e w' => e = .returned (.bool (hasN l nm)) ∧ Below w.heap.size w w' := by
  have hl : (Instr.lookup 48 (.map (some m)) (.string nm) true).run Try.prog w = .ok (if true then .tuple #[if hasN l nm then (β nm).V else b0.V, .bool (hasN l nm)] else if hasN l nm then (β nm).V else b0.V) w := h.look hn true 0
  simp only [if_true] at hl
  cases e : hasN l nm
  · rw [e] at hl
    simp only [Bool.false_eq_true, if_false, b0V] at hl
    have HR : Hid (hasN l nm = false) := hide e
    clear e
    go_enter Try.func116, Try.ntmps116
    go_wp2
    go_ret
    exact ⟨rfl, below_alloc (Below.refl _ _) _⟩
  · rw [e] at hl
    simp only [if_true, Bd.V] at hl
    have HR : Hid (hasN l nm = true) := hide e
    clear e
    go_enter Try.func116, Try.ntmps116
    go_wp2
    go_ret
    exact ⟨rfl, below_alloc (Below.refl _ _) _⟩
/-- one more at the end of a sorted list -/
theorem put_last {l : List Fl} (hs : Srt l) (k : Nat) (hk : k < l.length) : putL (l.take k) (l[k]).nm (l[k]).da = l.take (k + 1) := by
  have hst : Srt (l.take k) := hs.sublist (List.take_sublist _ _)
  have hall : ∀ f ∈ l.take k, f.nm.toList < (l[k]).nm.toList := fun f hf => by
    obtain ⟨i, hi, rfl⟩ := List.getElem_of_mem hf
    have hi2 : i < k := by simp at hi; omega
    have e : (l.take k)[i] = l[i]'(by omega) := by simp
    rw [e]
    exact List.pairwise_iff_getElem.1 hs i k (by omega) hk hi2
  obtain ⟨fa, fb⟩ := filter_all hall
  rw [putL_eq hst, putF, fa, fb, take_next l k hk]
def ShelfEnd (l : List Fl) (w : World) (e : Ending) (w' : World) : Prop := Below w.heap.size w w' ∧ ∃ m β, e = .returned (.map (some m)) ∧ Shelf w.heap.size m l β l.length w'
theorem own_b0 {w : World} {base : Nat} : w.ownsRow base 9 1 b0.v b0.ps.length (strs b0.ps) := ⟨by simp [strs, b0], .inl ⟨rfl, rfl⟩⟩
theorem below_of_none {w w' : World} (h : w.grownBy w' none) : Below w.heap.size w w' := (Below.refl _ _).grown h (Nat.le_refl _) (fun j hj => by cases hj)
theorem Sw.grown {B : Nat} {p0 p1 : Value} {x y : World} {row : Option Nat} (h : Sw B p0 p1 x) (hg : x.grownBy y row) (hr : row ≠ some B) : Sw B p0 p1 y := ⟨hg.cell h.1 (fun e => hr e.symm), hg.cell h.2 (fun e => hr e.symm)⟩
/-- rows apart: one that is new -/
theorem apt_hi {x : World} {base sz k : Nat} {e : TypeId} {u v : Value} {xs : List Value} (hv : x.ownsRow base e sz v k xs) (hu : ∀ g, u.ownBlock = some g → x.heap.size ≤ g) : Apt u v ∧ Apt v u := by
  have hne : ∀ g, u.ownBlock = some g → v.ownBlock ≠ some g := fun g h1 h2 => by
    have := (hv.lt g h2).2
    have := hu g h1
    omega
  constructor
  · cases h : u.ownBlock with
    | none => exact .inl h
    | some g => exact .inr (fun q => hne g h (by rw [← q, h]))
  · cases h : v.ownBlock with
    | none => exact .inl h
    | some g => exact .inr (fun q => hne g (by rw [← q, h]) h)
/-- a new body is put on a shelf -/
theorem Shelf.add {base m N : Nat} {l : List Fl} {β : ByteArray → Bd} {x x2 : World} (h : Shelf base m l β N x) {nm da : ByteArray} {b b' : Bd} (hn : nm.size ≤ 4194304) (hN : N ≤ 100000) (hps : b'.ps = b.ps ++ [da]) (hb : b.ps = []) (hb2 : b.v.ownBlock = none) (hro : x2.ownsRow base 9 1 b'.v b'.ps.length (strs b'.ps)) (hg : x.grownBy x2 b.v.ownBlock) (hli : b'.v.ownBlock = b.v.ownBlock ∨ ∃ g, b'.v.ownBlock = some g ∧ x.heap.size ≤ g) :
    ∃ y, (Instr.mapUpdate 48 (.map (some m)) (.string nm) b'.V).run Try.prog x2 = .ok () y ∧ Shelf base m (putL l nm da) (upd β nm b') (N + 1) y ∧ x2.grownBy y (some m) := by
  rw [hb2] at hg hli
  have hbl := below_of_none hg
  refine (h.below hbl).store b' hn (by omega) hro (by rw [hps, hb]; simp [catL]) (fun f hf hne => ?_) (by rw [hps, hb]; simp)
  have := apt_hi (u := b'.v) (h.rows f hf) (fun g hg => by
    rcases hli with q | ⟨g', q, hge⟩
    · rw [q] at hg; cases hg
    · rw [q] at hg; cases hg; exact hge)
  exact this
set_option maxHeartbeats 4000000 in
theorem shelfOf_any (a : Option Addr) (l : List Fl) (cap : Nat) (w : World) (hl : l.length ≤ 60) (hg : SmG0 l) (hs : Srt l) (h : RowAt 2 flCells w a l) :
    Calls Try.prog 19 #[.slice a l.length cap] w fun e w' => ShelfEnd l w e w' := by
  have HC : Hid _ := hide h
  have HG : Hid _ := hide hg
  have HS : Hid _ := hide hs
  clear h hg hs
  have hmm := @run_makeMap Try.prog
  go_enter Try.func19, Try.ntmps19
  go_wp2
  clear hmm
  go_loopw [9] (fun i wr => ∃ (k : Nat) (β : ByteArray → Bd), k ≤ l.length ∧ i = .int .i64 (k : Int) ∧ Hid (Below w.heap.size w wr) ∧ Hid (Shelf w.heap.size w.heap.size (l.take k) β k wr)) (fun i wr => l.length - (intOf i).toNat)
  case atStart => exact ⟨0, fun _ => b0, Nat.zero_le _, rfl, hide (below_alloc (Below.refl _ _) _), hide (shelf_made (Nat.le_refl _) _)⟩
  case round =>
    obtain ⟨k, β, hk, rfl, HB, HH⟩ := hrel
    by_cases hlt : k < l.length
    · have hlt' : (k : Int) < (l.length : Int) := by omega
      obtain ⟨b, off, rfl, hb, c0, c1⟩ := fl_row (HC.out.below HB.out) k hlt
      have s1 := (HG.out _ (List.getElem_mem hlt)).1
      have s2 := (HG.out _ (List.getElem_mem hlt)).2
      have HLW : Hid (w.heap.size < wr.heap.size) := hide HH.out.lt
      have HW2 : Hid (Below wr.heap.size wr (wr.alloc (.cells #[.string (l[k]).nm, .string (l[k]).da] 52))) := hide (below_alloc (Below.refl _ _) _)
      have XD : Hid (Sw wr.heap.size (.string (l[k]).nm) (.string (l[k]).da) (wr.alloc (.cells #[.string (l[k]).nm, .string (l[k]).da] 52)).drew) := hide ⟨World.cell?_alloc_at _ _ _ _ rfl, World.cell?_alloc_at _ _ _ _ rfl⟩
      have HHD : Hid (Shelf w.heap.size w.heap.size (l.take k) β k (wr.alloc (.cells #[.string (l[k]).nm, .string (l[k]).da] 52)).drew) := hide (HH.out.below HW2.out.drew)
      have HBD : Hid (Below w.heap.size w (wr.alloc (.cells #[.string (l[k]).nm, .string (l[k]).da] 52)).drew) := hide (below_trans HB.out HW2.out.drew)
      have HWT : Hid (Calls Try.prog 41 #[.agg #[.slice none 0 0, .int .i64 0], .string (l[k]).da] (wr.alloc (.cells #[.string (l[k]).nm, .string (l[k]).da] 52)).drew fun e w' => WithEnd w.heap.size b0 (l[k]).da (wr.alloc (.cells #[.string (l[k]).nm, .string (l[k]).da] 52)).drew e w') := hide (with_any w.heap.size b0 (l[k]).da _ HBD.out.size (by simp [b0]) (by simp [b0, catL]) s2 own_b0)
      have HPL : Hid _ := hide (put_last HS.out k hlt)
      go_wp2_with fail
      go_region_held3 (fun x => x.cell? ⟨wr.heap.size, 0, none⟩ = some (.string (l[k]).nm) ∧ x.cell? ⟨wr.heap.size, 1, none⟩ = some (.string (l[k]).da))
        (first | with_reducible exact XD.out | (with_reducible assumption))
        (first | (go_at_call 41; refine HWT.out.mono ?_; rintro e w2 ⟨b', rfl, hps, hro, hg, hli⟩; have XS : Sw wr.heap.size (.string (l[k]).nm) (.string (l[k]).da) w2 := XD.out.grown hg (by rw [show b0.v.ownBlock = none from rfl]; simp); obtain ⟨y, hrun, hsh, hgy⟩ := HHD.out.add (b := b0) s1 (by omega) hps rfl rfl hro hg hli; have XY : Sw wr.heap.size (.string (l[k]).nm) (.string (l[k]).da) y := XS.grown hgy (by have := HLW.out; simp; omega); have HSH : Hid _ := hide hsh; have HBY : Hid (Below w.heap.size w y) := hide ((below_trans HBD.out (below_of_none hg)).grown hgy (Nat.le_trans HBD.out.size (below_of_none hg).size) (fun j hj => by cases hj; exact Nat.le_refl _)); clear hsh hgy hg hli hro hps))
      have HSH2 : Hid (Shelf w.heap.size w.heap.size (l.take (k + 1)) (upd β (l[k]).nm b') (k + 1) y) := hide (by rw [← HPL.out]; exact HSH.out)
      clear hrun XS XY HSH
      go_wp2
      exact ⟨⟨k + 1, _, by omega, by go_num, HBY, HSH2⟩, by simp [intOf]; omega⟩
    · have hk' : ¬ (k : Int) < (l.length : Int) := by omega
      have HE : Hid (ShelfEnd l w (.returned (.map (some w.heap.size))) wr) := hide ⟨HB.out, _, β, rfl, by
        have := HH.out
        rw [List.take_of_length_le (by omega)] at this
        exact this.mono hk⟩
      go_wp2
      go_ret
      exact HE.out
end Go.Proofs.Ytiilkkdbifhojaa
