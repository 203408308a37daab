/- What each function of this program answers, proved by walking its body: further contracts that the law rests on. -/
import Derived.Test.YtipjmcaehgajeaaFns3
set_option linter.unusedSimpArgs false
set_option linter.unusedVariables false
set_option linter.unusedSectionVars false
namespace Go.Proofs
open Go.Eng
attribute [local irreducible] Go.Eng.brB Go.Eng.need Go.Eng.wrE Go.Eng.iaE Go.Eng.slE Go.Eng.apE Go.Eng.CallZ Go.Eng.CallE Go.Eng.VCallE Go.Eng.YldE Go.Eng.GoC Go.Eng.MeetsE Go.Eng.FnA Go.Eng.FnV Go.Eng.ItA
set_option maxRecDepth 100000

theorem k13o (f : Frm) (hn : f.ss.length ≤ 1000) : FnO Try.prog 13 [.agg f.cells] (fun r rows => r = .agg [.row 3, .int .i64 f.lo, .int .i64 f.hi, .int .i64 f.en, .int .i64 f.ed, .int .i64 f.rod, .int .i64 f.cs] ∧ rows = [(3, .row false 66 7 (f.ss.map Sec.av))]) := by
  have hL : (f.ss.map Sec.av).length = f.ss.length := by simp
  refine fnO 5 ok13 (by simp) ?_
  (conv => whnf); (repeat' (first | (refine bT ?_; conv => whnf) | (refine bF ?_; conv => whnf) | (refine bN ?_) | (refine bD (fun hh => ?_) (fun hh => ?_) <;> first | (exfalso; omega) | (conv => whnf)) | (refine bEq (fun hh => ?_) (fun hh => ?_) <;> first | (exfalso; omega) | (conv => whnf)) | (refine bNe (fun hh => ?_) (fun hh => ?_) <;> first | (exfalso; omega) | (conv => whnf)) | (refine wIn (by omega) ?_; conv => whnf) | (refine nI (by omega) ?_; conv => whnf)))
  refine apI (fun e he => ?_) (by simp; omega) ?_
  · obtain ⟨s, _, rfl⟩ := List.mem_map.1 he; exact ⟨rfl, rfl⟩
  (conv => whnf); (repeat' (first | (refine bT ?_; conv => whnf) | (refine bF ?_; conv => whnf) | (refine bN ?_) | (refine bD (fun hh => ?_) (fun hh => ?_) <;> first | (exfalso; omega) | (conv => whnf)) | (refine bEq (fun hh => ?_) (fun hh => ?_) <;> first | (exfalso; omega) | (conv => whnf)) | (refine bNe (fun hh => ?_) (fun hh => ?_) <;> first | (exfalso; omega) | (conv => whnf)) | (refine wIn (by omega) ?_; conv => whnf) | (refine nI (by omega) ?_; conv => whnf)))
  all_goals exact ⟨rfl, rfl⟩

theorem mx_le : ∀ (l : List Sec) (x y : Int), (∀ s ∈ l, s.ok) → x ≤ y → mxl l x ≤ mxh l y
  | [], x, y, _, h => h
  | s :: l, x, y, h, hxy => by
    have h0 := (h s (by simp)).1
    unfold okSpan at h0
    exact mx_le l (max x s.al) (max y s.ah) (fun s hs => h s (by simp [hs])) (by omega)
/-! a section that is known better -/
def Sec.fin (s : Sec) (a b c d : Int) : Sec := ⟨s.al + a, s.ah - b, s.sl + c, s.sh - d, s.base, s.num, s.den⟩
def Frm.fin (f : Frm) (j : Nat) (a b c d : Int) : Frm := { f with ss := f.ss.set j ((f.sec j).fin a b c d) }
theorem fin_cells (f : Frm) (j : Nat) (a b c d : Int) : (f.fin j a b c d).cells = [.isl ((f.ss.map Sec.av).set j ((f.sec j).fin a b c d).av), .int .i64 f.lo, .int .i64 f.hi, .int .i64 f.en, .int .i64 f.ed, .int .i64 f.rod, .int .i64 f.cs] := by
  simp [Frm.cells, Frm.fin, List.map_set]
theorem fin_len (f : Frm) (j : Nat) (a b c d : Int) : (f.fin j a b c d).ss.length = f.ss.length := by simp [Frm.fin]
theorem fin_sec {f : Frm} {j : Nat} (hj : j < f.ss.length) (a b c d : Int) (i : Nat) : (f.fin j a b c d).sec i = if i = j then (f.sec j).fin a b c d else f.sec i := by
  simp only [Frm.sec, Frm.fin, List.getD_eq_getElem?_getD, List.getElem?_set]
  by_cases h : i = j
  · subst h; simp [hj]
  · simp [h, Ne.symm h]
theorem fin_dist {f : Frm} {j : Nat} (hj : j < f.ss.length) (a b c d : Int) (r : Int) : ∀ i < f.ss.length, (f.fin j a b c d).dist i r = f.dist i r
  | 0, _ => by rw [dist_zero, dist_zero]
  | i + 1, hi => by
    have ih := fin_dist hj a b c d r i (by omega)
    rw [dist_succ (by rw [fin_len]; exact hi), dist_succ hi, ih, fin_sec hj]
    split
    · rename_i e; subst e; rfl
    · rfl
section
variable {f : Frm} {j : Nat} {a b c d : Int} (hok : f.ok) (hok' : (f.fin j a b c d).ok) (hj : j < f.ss.length) (ha : 0 ≤ a) (hb : 0 ≤ b) (hc : 0 ≤ c) (hd : 0 ≤ d)
include hok hok' hj ha hb hc hd
theorem fin_sides (i : Nat) {q : Int × Int} (hq : q ∈ ((f.fin j a b c d).sec i).sides) : q ∈ (f.sec i).sides := by
  rw [fin_sec hj] at hq
  split at hq
  · rename_i e; subst e
    rw [mem_sides] at hq ⊢
    simp only [Sec.fin] at hq
    omega
  · exact hq
theorem fin_binds {i : Nat} (hi : i < f.ss.length) (x t r : Int) : (f.fin j a b c d).bindsF i x t r = f.bindsF i x t r := by
  unfold Frm.bindsF; rw [fin_dist hj a b c d r i hi]; rfl
theorem fin_knw {i : Nat} (hi : i < f.ss.length) (P : Int → Int → Bool) : (knw (f.sec i) P = 1 → knw ((f.fin j a b c d).sec i) P = 1) ∧ (knw (f.sec i) P = 2 → knw ((f.fin j a b c d).sec i) P = 2) := by
  have hs' := Frm.sec_ok hok' (i := i) (by rw [fin_len]; exact hi)
  rw [knw1, knw1, knw2 (Frm.sec_ok hok hi), knw2 hs']
  exact ⟨fun h q hq => h q (fin_sides hok hok' hj ha hb hc hd i hq), fun h q hq => h q (fin_sides hok hok' hj ha hb hc hd i hq)⟩
theorem fin_bnd {i : Nat} (hi : i < f.ss.length) (r : Int) : (f.bnd i r = 1 → (f.fin j a b c d).bnd i r = 1) ∧ (f.bnd i r = 2 → (f.fin j a b c d).bnd i r = 2) := by
  have e : (f.fin j a b c d).bnd i r = knw ((f.fin j a b c d).sec i) (fun x t => f.bindsF i x t r) := by
    show knw ((f.fin j a b c d).sec i) (fun x t => (f.fin j a b c d).bindsF i x t r) = _
    congr 1; funext x t; exact fin_binds hok hok' hj ha hb hc hd hi x t r
  rw [e]
  exact fin_knw hok hok' hj ha hb hc hd hi _
theorem fin_some {i : Nat} (hi : i < f.ss.length) : (f.someK i = 1 → (f.fin j a b c d).someK i = 1) ∧ (f.someK i = 2 → (f.fin j a b c d).someK i = 2) := by
  have e : (f.fin j a b c d).someK i = knw ((f.fin j a b c d).sec i) (f.smw i) := by
    show knw ((f.fin j a b c d).sec i) ((f.fin j a b c d).smw i) = _
    congr 1; funext x t
    show (f.poss.any fun r => (f.fin j a b c d).bindsF i x t r) = f.poss.any fun r => f.bindsF i x t r
    congr 1; funext r; exact fin_binds hok hok' hj ha hb hc hd hi x t r
  rw [e]
  exact fin_knw hok hok' hj ha hb hc hd hi _
theorem fin_turn {i : Nat} (hi : i < f.ss.length) : (f.turnK i = 1 → (f.fin j a b c d).turnK i = 1) ∧ (f.turnK i = 2 → (f.fin j a b c d).turnK i = 2) := by
  have e : (f.fin j a b c d).turnK i = knw ((f.fin j a b c d).sec i) (f.turn i) := by
    show knw ((f.fin j a b c d).sec i) ((f.fin j a b c d).turn i) = _
    congr 1; funext x t
    show (f.poss.any fun r => (f.fin j a b c d).turnF i x t r) = f.poss.any fun r => f.turnF i x t r
    congr 1; funext r
    unfold Frm.turnF
    rw [fin_dist hj a b c d _ i hi, fin_dist hj a b c d _ i hi]; rfl
  rw [e]
  exact fin_knw hok hok' hj ha hb hc hd hi _
theorem fin_opens : (f.opens = 1 → (f.fin j a b c d).opens = 1) ∧ (f.opens = 2 → (f.fin j a b c d).opens = 2) := by
  constructor
  · rw [opens1, opens1, fin_len]
    exact fun h i hi => (fin_some hok hok' hj ha hb hc hd hi).2 (h i hi)
  · rw [opens2, opens2, fin_len]
    rintro ⟨i, hi, h⟩
    exact ⟨i, hi, (fin_some hok hok' hj ha hb hc hd hi).1 h⟩
theorem fin_first {i : Nat} {r : Int} (h : (f.fin j a b c d).first = some (i, r)) : ∃ k s, f.first = some (k, s) ∧ r ≤ s := by
  obtain ⟨h1, h2, h3, _, _⟩ := first_some h
  rw [fin_len] at h2
  exact first_is h1 h2 (fun h4 => h3 ((fin_bnd hok hok' hj ha hb hc hd h2 r).2 h4))
theorem fin_mx : ∀ (l l' : List Sec) (x y x' y' : Int), l.length = l'.length → (∀ i (h : i < l.length) (h' : i < l'.length), l[i].al ≤ l'[i].al ∧ l'[i].ah ≤ l[i].ah) → x ≤ x' → y' ≤ y → mxl l x ≤ mxl l' x' ∧ mxh l' y' ≤ mxh l y
  | [], [], x, y, x', y', _, _, h1, h2 => ⟨h1, h2⟩
  | s :: l, s' :: l', x, y, x', y', hl, h, h1, h2 => by
    have h0 := h 0 (by simp) (by simp)
    simp only [List.getElem_cons_zero] at h0
    exact fin_mx l l' (max x s.al) (max y s.ah) (max x' s'.al) (max y' s'.ah) (by simpa using hl) (fun i h3 h4 => by have := h (i + 1) (by simp; omega) (by simp; omega); simpa only [List.getElem_cons_succ] using this) (by omega) (by omega)
  | [], _ :: _, _, _, _, _, hl, _, _, _ => by simp at hl
  | _ :: _, [], _, _, _, _, hl, _, _, _ => by simp at hl
theorem fin_closes : (f.closes = 1 → (f.fin j a b c d).closes = 1) ∧ (f.closes = 2 → (f.fin j a b c d).closes = 2) := by
  have hm := fin_mx hok hok' hj ha hb hc hd f.ss (f.fin j a b c d).ss 0 0 0 0 (by rw [fin_len]) (fun i h1 h2 => by
    have e := fin_sec hj a b c d i
    rw [Frm.sec_eq h2, Frm.sec_eq h1] at e
    rw [e]
    split
    · rename_i e'; subst e'
      rw [Frm.sec_eq h1]
      simp only [Sec.fin]; omega
    · omega) (by omega) (by omega)
  have hm2 := mx_le (f.fin j a b c d).ss 0 0 hok'.2.2.1 (by omega)
  have e1 : (f.fin j a b c d).rod = f.rod := rfl
  have e2 : (f.fin j a b c d).cs = f.cs := rfl
  unfold Frm.closes
  rw [e1, e2]
  constructor
  · intro h; split at h
    · rw [if_pos (by omega)]
    · split at h <;> omega
  · intro h; split at h
    · omega
    · split at h
      · omega
      · rw [if_neg (by omega), if_neg (by omega)]
theorem fin_cos {i : Nat} (hi : i < f.ss.length) {e : Int} (he : 1 ≤ e ∧ e ≤ 6000) : leF (cosF (f.sec i) e).1 (cosF ((f.fin j a b c d).sec i) e).1 ∧ leF (cosF ((f.fin j a b c d).sec i) e).2 (cosF (f.sec i) e).2 := by
  have hs' := Frm.sec_ok hok' (i := i) (by rw [fin_len]; exact hi)
  obtain ⟨⟨q, hq, e1⟩, ⟨p, hp, e2⟩⟩ := cosF_mem ((f.fin j a b c d).sec i) e (fst_side hs')
  rw [e1, e2]
  exact ⟨(cosF_ends (Frm.sec_ok hok hi) he (fin_sides hok hok' hj ha hb hc hd i hq)).1, (cosF_ends (Frm.sec_ok hok hi) he (fin_sides hok hok' hj ha hb hc hd i hp)).2⟩
end

set_option maxHeartbeats 8000000 in
theorem k7 (f : Frm) (Y a b c d i r : Int) (hw : FnA Try.prog 12 [] (· = .bool true)) : FnA Try.prog 7 [.agg f.cells, .agg [.int .i64 Y, .int .i64 a, .int .i64 b, .int .i64 c, .int .i64 d], .agg [.int .i64 i, .int .i64 r]] (· = .bool true) := by
  have hL : (f.ss.map Sec.av).length = f.ss.length := by simp
  refine fnA 10 ok7 (by simp) ?_
  have kr := k34 f
  cases hr : f.rdy
  · rw [hr] at kr
    (conv => whnf); (repeat' (first | (refine bT ?_; conv => whnf) | (refine bF ?_; conv => whnf) | (refine bN ?_) | (refine bD (fun hh => ?_) (fun hh => ?_) <;> first | (exfalso; omega) | (conv => whnf)) | (refine bEq (fun hh => ?_) (fun hh => ?_) <;> first | (exfalso; omega) | (conv => whnf)) | (refine bNe (fun hh => ?_) (fun hh => ?_) <;> first | (exfalso; omega) | (conv => whnf)) | (refine (kr).callq rfl rfl (fun r (hr : r = _) => ?_); subst hr; conv => whnf) | (refine (hw).callq rfl rfl (fun r (hr : r = _) => ?_); subst hr; conv => whnf) | (refine wIn (by omega) ?_; conv => whnf) | (refine nI (by omega) ?_; conv => whnf)))
    all_goals rfl
  rw [hr] at kr
  obtain ⟨hok, hfar⟩ := rdy_ok hr
  have hn := hok.2.1
  have ka := k35 f i r (by omega)
  cases ha : f.ask i r
  · rw [ha] at ka
    (conv => whnf); (repeat' (first | (refine bT ?_; conv => whnf) | (refine bF ?_; conv => whnf) | (refine bN ?_) | (refine bD (fun hh => ?_) (fun hh => ?_) <;> first | (exfalso; omega) | (conv => whnf)) | (refine bEq (fun hh => ?_) (fun hh => ?_) <;> first | (exfalso; omega) | (conv => whnf)) | (refine bNe (fun hh => ?_) (fun hh => ?_) <;> first | (exfalso; omega) | (conv => whnf)) | (refine (kr).callq rfl rfl (fun r (hr : r = _) => ?_); subst hr; conv => whnf) | (refine (ka).callq rfl rfl (fun r (hr : r = _) => ?_); subst hr; conv => whnf) | (refine (hw).callq rfl rfl (fun r (hr : r = _) => ?_); subst hr; conv => whnf) | (refine wIn (by omega) ?_; conv => whnf) | (refine nI (by omega) ?_; conv => whnf)))
    all_goals rfl
  rw [ha] at ka
  unfold Frm.ask at ha
  obtain ⟨⟨hi0, hi1⟩, hr0, hr1⟩ := of_decide_eq_true ha
  obtain ⟨j, rfl⟩ := Int.eq_ofNat_of_zero_le hi0
  have hj : j < f.ss.length := by omega
  by_cases hy : 0 ≤ Y ∧ Y < f.ss.length
  case neg =>
    (conv => whnf); (repeat' (first | (refine bT ?_; conv => whnf) | (refine bF ?_; conv => whnf) | (refine bN ?_) | (refine bD (fun hh => ?_) (fun hh => ?_) <;> first | (exfalso; omega) | (conv => whnf)) | (refine bEq (fun hh => ?_) (fun hh => ?_) <;> first | (exfalso; omega) | (conv => whnf)) | (refine bNe (fun hh => ?_) (fun hh => ?_) <;> first | (exfalso; omega) | (conv => whnf)) | (refine (kr).callq rfl rfl (fun r (hr : r = _) => ?_); subst hr; conv => whnf) | (refine (ka).callq rfl rfl (fun r (hr : r = _) => ?_); subst hr; conv => whnf) | (refine (k45f (f := f) (by omega) hy).callq rfl rfl (fun r (hr : r = _) => ?_); subst hr; conv => whnf) | (refine (hw).callq rfl rfl (fun r (hr : r = _) => ?_); subst hr; conv => whnf) | (refine wIn (by omega) ?_; conv => whnf) | (refine nI (by omega) ?_; conv => whnf)))
    all_goals rfl
  have e1 : (if false = true then max (if false = true then max a b else min a b) (if false = true then max c d else min c d) else min (if false = true then max a b else min a b) (if false = true then max c d else min c d)) = min (min a b) (min c d) := rfl
  have e2 : (if true = true then max (if true = true then max a b else min a b) (if true = true then max c d else min c d) else min (if true = true then max a b else min a b) (if true = true then max c d else min c d)) = max (max a b) (max c d) := rfl
  by_cases hmin : min (min a b) (min c d) < 0
  case pos =>
    (conv => whnf); (repeat' (first | (refine bT ?_; conv => whnf) | (refine bF ?_; conv => whnf) | (refine bN ?_) | (refine bD (fun hh => ?_) (fun hh => ?_) <;> first | (exfalso; omega) | (conv => whnf)) | (refine bEq (fun hh => ?_) (fun hh => ?_) <;> first | (exfalso; omega) | (conv => whnf)) | (refine bNe (fun hh => ?_) (fun hh => ?_) <;> first | (exfalso; omega) | (conv => whnf)) | (refine (kr).callq rfl rfl (fun r (hr : r = _) => ?_); subst hr; conv => whnf) | (refine (ka).callq rfl rfl (fun r (hr : r = _) => ?_); subst hr; conv => whnf) | (refine (k45t (f := f) (by omega) hy).callq rfl rfl (fun r (hr : r = _) => ?_); subst hr; conv => whnf) | (refine (hw).callq rfl rfl (fun r (hr : r = _) => ?_); subst hr; conv => whnf) | (refine wIn (by omega) ?_; conv => whnf) | (refine nI (by omega) ?_; conv => whnf)))
    all_goals rfl
  by_cases hmax : 6 < max (max a b) (max c d)
  case pos =>
    (conv => whnf); (repeat' (first | (refine bT ?_; conv => whnf) | (refine bF ?_; conv => whnf) | (refine bN ?_) | (refine bD (fun hh => ?_) (fun hh => ?_) <;> first | (exfalso; omega) | (conv => whnf)) | (refine bEq (fun hh => ?_) (fun hh => ?_) <;> first | (exfalso; omega) | (conv => whnf)) | (refine bNe (fun hh => ?_) (fun hh => ?_) <;> first | (exfalso; omega) | (conv => whnf)) | (refine (kr).callq rfl rfl (fun r (hr : r = _) => ?_); subst hr; conv => whnf) | (refine (ka).callq rfl rfl (fun r (hr : r = _) => ?_); subst hr; conv => whnf) | (refine (k45t (f := f) (by omega) hy).callq rfl rfl (fun r (hr : r = _) => ?_); subst hr; conv => whnf) | (refine (hw).callq rfl rfl (fun r (hr : r = _) => ?_); subst hr; conv => whnf) | (refine wIn (by omega) ?_; conv => whnf) | (refine nI (by omega) ?_; conv => whnf)))
    all_goals rfl
  obtain ⟨y, rfl⟩ := Int.eq_ofNat_of_zero_le hy.1
  have hyl : y < f.ss.length := by omega
  have hs := Frm.sec_ok hok hyl
  have hs1 := hs.1
  have hs2 := hs.2.1
  unfold okSpan at hs1 hs2
  have hcl := fin_cells f y a b c d
  have ko := k34 (f.fin y a b c d)
  rw [hcl] at ko
  (conv => whnf); (repeat' (first | (refine bT ?_; conv => whnf) | (refine bF ?_; conv => whnf) | (refine bN ?_) | (refine bD (fun hh => ?_) (fun hh => ?_) <;> first | (exfalso; omega) | (conv => whnf)) | (refine bEq (fun hh => ?_) (fun hh => ?_) <;> first | (exfalso; omega) | (conv => whnf)) | (refine bNe (fun hh => ?_) (fun hh => ?_) <;> first | (exfalso; omega) | (conv => whnf)) | (refine (kr).callq rfl rfl (fun r (hr : r = _) => ?_); subst hr; conv => whnf) | (refine (ka).callq rfl rfl (fun r (hr : r = _) => ?_); subst hr; conv => whnf) | (refine (k45t (f := f) (by omega) hy).callq rfl rfl (fun r (hr : r = _) => ?_); subst hr; conv => whnf) | (refine (k13o f (by omega)).callzq rfl rfl (fun r rows (hr : r = _ ∧ rows = _) => ?_); obtain ⟨hr1, hr2⟩ := hr; subst hr1; subst hr2; refine ⟨rfl, ?_⟩; conv => whnf) | (refine wIn (by omega) ?_; conv => whnf) | (refine nI (by omega) ?_; conv => whnf)))
  refine iaI (by omega) (by omega) (show (f.ss.map Sec.av).getD (y : Int).toNat [] = (f.sec y).av from f.sec_get hyl) ?_
  (conv => whnf); (repeat' (first | (refine bT ?_; conv => whnf) | (refine bF ?_; conv => whnf) | (refine bN ?_) | (refine bD (fun hh => ?_) (fun hh => ?_) <;> first | (exfalso; omega) | (conv => whnf)) | (refine bEq (fun hh => ?_) (fun hh => ?_) <;> first | (exfalso; omega) | (conv => whnf)) | (refine bNe (fun hh => ?_) (fun hh => ?_) <;> first | (exfalso; omega) | (conv => whnf)) | (refine wIn (by omega) ?_; conv => whnf) | (refine nI (by omega) ?_; conv => whnf)))
  refine iaI (by omega) (by omega) (show (f.ss.map Sec.av).getD ((((y : Int).toNat : Nat) : Int)).toNat [] = (f.sec y).av from f.sec_get hyl) ?_
  have hpos : f.pos (j : Nat) r = 0 := pos_zero hok (by omega) ⟨hr0, hr1⟩
  cases hr' : (f.fin y a b c d).rdy
  · rw [hr'] at ko
    (conv => whnf); (repeat' (first | (refine bT ?_; conv => whnf) | (refine bF ?_; conv => whnf) | (refine bN ?_) | (refine bD (fun hh => ?_) (fun hh => ?_) <;> first | (exfalso; omega) | (conv => whnf)) | (refine bEq (fun hh => ?_) (fun hh => ?_) <;> first | (exfalso; omega) | (conv => whnf)) | (refine bNe (fun hh => ?_) (fun hh => ?_) <;> first | (exfalso; omega) | (conv => whnf)) | (refine (ko).lendq rfl (fun r (hr : r = _) => ?_); subst hr; refine ⟨rfl, ?_⟩; conv => whnf) | (refine (hw).callq rfl rfl (fun r (hr : r = _) => ?_); subst hr; conv => whnf) | (refine wIn (by omega) ?_; conv => whnf) | (refine nI (by omega) ?_; conv => whnf)))
    all_goals rfl
  rw [hr'] at ko
  obtain ⟨hok', hfar'⟩ := rdy_ok hr'
  have hlen := fin_len f y a b c d
  have hposo : (f.fin y a b c d).pos (j : Nat) r = 0 := pos_zero hok' (by rw [hlen]; omega) ⟨hr0, hr1⟩
  have hr2 := hok.2.2.2.1
  unfold okSpan at hr2
  have hd := Frm.dist_bd hok j (show 0 ≤ r by omega) (by omega)
  have k1 := k18 f j r hpos
  have k2 := k18 (f.fin y a b c d) j r hposo
  have e0 : f.ss.getD j default = f.sec j := rfl
  have e0' : (f.fin y a b c d).ss.getD j default = (f.fin y a b c d).sec j := rfl
  rw [e0] at k1
  rw [e0', fin_dist hyl a b c d r j hj, hcl] at k2
  have k3 := k20 f j r hpos
  have k4 := k20 (f.fin y a b c d) j r hposo
  have k5 := k25 f hok
  have k6 := k25 (f.fin y a b c d) hok'
  have k7 := k27 f j hok hj
  have k8 := k27 (f.fin y a b c d) j hok' (by rw [hlen]; exact hj)
  have k9 := k31 f hok
  have k10 := k31 (f.fin y a b c d) hok'
  have k11 := k23 f hok
  have k12 := k23 (f.fin y a b c d) hok'
  rw [hcl] at k4 k6 k8 k10 k12
  have q0 : 0 ≤ a ∧ 0 ≤ b ∧ 0 ≤ c ∧ 0 ≤ d := by omega
  have f1 := fin_bnd hok hok' hyl q0.1 q0.2.1 q0.2.2.1 q0.2.2.2 hj r
  have f2 := fin_opens hok hok' hyl q0.1 q0.2.1 q0.2.2.1 q0.2.2.2
  have f3 := fin_turn hok hok' hyl q0.1 q0.2.1 q0.2.2.1 q0.2.2.2 hj
  have f4 := fin_closes hok hok' hyl q0.1 q0.2.1 q0.2.2.1 q0.2.2.2
  have f5 : ∀ {k s}, (f.fin y a b c d).first = some (k, s) → _ := fun {k s} h => fin_first (i := k) (r := s) hok hok' hyl q0.1 q0.2.1 q0.2.2.1 q0.2.2.2 h
  have g1 := bnd_123 f j r
  have g2 := opens_123 f
  have g3 : f.turnK j = 1 ∨ f.turnK j = 2 ∨ f.turnK j = 3 := knw_123 _ _
  have g4 : f.closes = 1 ∨ f.closes = 2 ∨ f.closes = 3 := by unfold Frm.closes; split; simp; split <;> simp
  have hfin : (∃ X Z : Int, ∃ X' Z' : Int, f.firstAV = .tup [.int .i64 X, .int .i64 Z, .int .i64 0] ∧ (f.fin y a b c d).firstAV = .tup [.int .i64 X', .int .i64 Z', .int .i64 0] ∧ Z' ≤ Z) ∨ (∃ X Z E : Int, f.firstAV = .tup [.int .i64 X, .int .i64 Z, .int .i64 E] ∧ (f.fin y a b c d).firstAV = .tup [.int .i64 0, .int .i64 0, .int .i64 3]) := by
    rcases first_case (f.fin y a b c d) with ⟨h1, h2⟩ | ⟨u, v, h1, h2⟩
    · right
      rcases first_case f with ⟨_, h4⟩ | ⟨_, _, _, h4⟩
      · exact ⟨_, _, _, h4, h2⟩
      · exact ⟨_, _, _, h4, h2⟩
    · left
      obtain ⟨k, s, h3, h4⟩ := f5 h1
      rcases first_case f with ⟨h5, _⟩ | ⟨k', s', h5, h6⟩
      · rw [h5] at h3; cases h3
      · rw [h5] at h3; cases h3
        exact ⟨_, _, _, _, h6, h2, h4⟩
  generalize (f.fin y a b c d).bnd j r = N1 at *
  generalize f.bnd j r = M1 at *
  generalize (f.fin y a b c d).opens = N2 at *
  generalize f.opens = M2 at *
  generalize (f.fin y a b c d).turnK j = N3 at *
  generalize f.turnK j = M3 at *
  generalize (f.fin y a b c d).closes = N4 at *
  generalize f.closes = M4 at *
  by_cases hz : f.dist j r = 0
  · rw [if_pos hz] at k1 k2
    rcases hfin with ⟨X, Z, X', Z', h1, h2, h3⟩ | ⟨X, Z, E, h1, h2⟩
    all_goals
      rw [h1] at k11
      rw [h2] at k12
      clear f5 h1 h2
      (conv => whnf); (repeat' (first | (refine bT ?_; conv => whnf) | (refine bF ?_; conv => whnf) | (refine bN ?_) | (refine bD (fun hh => ?_) (fun hh => ?_) <;> first | (exfalso; omega) | (conv => whnf)) | (refine bEq (fun hh => ?_) (fun hh => ?_) <;> first | (exfalso; omega) | (conv => whnf)) | (refine bNe (fun hh => ?_) (fun hh => ?_) <;> first | (exfalso; omega) | (conv => whnf)) | (refine (ko).lendq rfl (fun r (hr : r = _) => ?_); subst hr; refine ⟨rfl, ?_⟩; conv => whnf) | (refine (k1).callq rfl rfl (fun r (hr : r = _) => ?_); subst hr; conv => whnf) | (refine (k2).lendq rfl (fun r (hr : r = _) => ?_); subst hr; refine ⟨rfl, ?_⟩; conv => whnf) | (refine (k3).callq rfl rfl (fun r (hr : r = _) => ?_); subst hr; conv => whnf) | (refine (k4).lendq rfl (fun r (hr : r = _) => ?_); subst hr; refine ⟨rfl, ?_⟩; conv => whnf) | (refine (k5).callq rfl rfl (fun r (hr : r = _) => ?_); subst hr; conv => whnf) | (refine (k6).lendq rfl (fun r (hr : r = _) => ?_); subst hr; refine ⟨rfl, ?_⟩; conv => whnf) | (refine (k7).callq rfl rfl (fun r (hr : r = _) => ?_); subst hr; conv => whnf) | (refine (k8).lendq rfl (fun r (hr : r = _) => ?_); subst hr; refine ⟨rfl, ?_⟩; conv => whnf) | (refine (k9).callq rfl rfl (fun r (hr : r = _) => ?_); subst hr; conv => whnf) | (refine (k10).lendq rfl (fun r (hr : r = _) => ?_); subst hr; refine ⟨rfl, ?_⟩; conv => whnf) | (refine (k11).callq rfl rfl (fun r (hr : r = _) => ?_); subst hr; conv => whnf) | (refine (k12).lendq rfl (fun r (hr : r = _) => ?_); subst hr; refine ⟨rfl, ?_⟩; conv => whnf) | (refine (hw).callq rfl rfl (fun r (hr : r = _) => ?_); subst hr; conv => whnf) | (refine wIn (by omega) ?_; conv => whnf) | (refine nI (by omega) ?_; conv => whnf)))
    all_goals rfl
  · rw [if_neg hz] at k1 k2
    have hd1 : 1 ≤ f.dist j r ∧ f.dist j r ≤ 6000 := by omega
    have hs3 := Frm.sec_ok hok hj
    have hs4 := Frm.sec_ok hok' (i := j) (by rw [hlen]; exact hj)
    have b1 := cosF_bd hs3 hd1
    have b2 := cosF_bd hs4 hd1
    have lc := fin_cos hok hok' hyl q0.1 q0.2.1 q0.2.2.1 q0.2.2.2 hj hd1
    have l1 := k40r b2.1 b1.1 lc.1
    have l2 := k40r b1.2 b2.2 lc.2
    have i1 := k39r (x := (cosF (f.sec j) (f.dist j r)).1) b1.1
    have i2 := k39r (x := (cosF (f.sec j) (f.dist j r)).2) b1.2
    have i3 := k39r (x := (cosF ((f.fin y a b c d).sec j) (f.dist j r)).1) b2.1
    have i4 := k39r (x := (cosF ((f.fin y a b c d).sec j) (f.dist j r)).2) b2.2
    clear b1 b2 lc
    rcases hfin with ⟨X, Z, X', Z', h1, h2, h3⟩ | ⟨X, Z, E, h1, h2⟩
    all_goals
      rw [h1] at k11
      rw [h2] at k12
      clear f5 h1 h2
      (conv => whnf); (repeat' (first | (refine bT ?_; conv => whnf) | (refine bF ?_; conv => whnf) | (refine bN ?_) | (refine bD (fun hh => ?_) (fun hh => ?_) <;> first | (exfalso; omega) | (conv => whnf)) | (refine bEq (fun hh => ?_) (fun hh => ?_) <;> first | (exfalso; omega) | (conv => whnf)) | (refine bNe (fun hh => ?_) (fun hh => ?_) <;> first | (exfalso; omega) | (conv => whnf)) | (refine (ko).lendq rfl (fun r (hr : r = _) => ?_); subst hr; refine ⟨rfl, ?_⟩; conv => whnf) | (refine (k1).callq rfl rfl (fun r (hr : r = _) => ?_); subst hr; conv => whnf) | (refine (k2).lendq rfl (fun r (hr : r = _) => ?_); subst hr; refine ⟨rfl, ?_⟩; conv => whnf) | (refine (i1).callq rfl rfl (fun r (hr : r = _) => ?_); subst hr; conv => whnf) | (refine (i2).callq rfl rfl (fun r (hr : r = _) => ?_); subst hr; conv => whnf) | (refine (i3).callq rfl rfl (fun r (hr : r = _) => ?_); subst hr; conv => whnf) | (refine (i4).callq rfl rfl (fun r (hr : r = _) => ?_); subst hr; conv => whnf) | (refine (l1).callq rfl rfl (fun r (hr : r = _) => ?_); subst hr; conv => whnf) | (refine (l2).callq rfl rfl (fun r (hr : r = _) => ?_); subst hr; conv => whnf) | (refine (k3).callq rfl rfl (fun r (hr : r = _) => ?_); subst hr; conv => whnf) | (refine (k4).lendq rfl (fun r (hr : r = _) => ?_); subst hr; refine ⟨rfl, ?_⟩; conv => whnf) | (refine (k5).callq rfl rfl (fun r (hr : r = _) => ?_); subst hr; conv => whnf) | (refine (k6).lendq rfl (fun r (hr : r = _) => ?_); subst hr; refine ⟨rfl, ?_⟩; conv => whnf) | (refine (k7).callq rfl rfl (fun r (hr : r = _) => ?_); subst hr; conv => whnf) | (refine (k8).lendq rfl (fun r (hr : r = _) => ?_); subst hr; refine ⟨rfl, ?_⟩; conv => whnf) | (refine (k9).callq rfl rfl (fun r (hr : r = _) => ?_); subst hr; conv => whnf) | (refine (k10).lendq rfl (fun r (hr : r = _) => ?_); subst hr; refine ⟨rfl, ?_⟩; conv => whnf) | (refine (k11).callq rfl rfl (fun r (hr : r = _) => ?_); subst hr; conv => whnf) | (refine (k12).lendq rfl (fun r (hr : r = _) => ?_); subst hr; refine ⟨rfl, ?_⟩; conv => whnf) | (refine (hw).callq rfl rfl (fun r (hr : r = _) => ?_); subst hr; conv => whnf) | (refine wIn (by omega) ?_; conv => whnf) | (refine nI (by omega) ?_; conv => whnf)))
    all_goals rfl
end Go.Proofs
