/- What each function of this program answers, proved by walking its body: the contracts that the law rests on, part 2. -/
import Derived.Test.YtipjmcaehgajeaaFns1
set_option linter.unusedSimpArgs false
set_option linter.unusedVariables false
set_option linter.unusedSectionVars false
namespace Go.Proofs
open Go.Eng
attribute [local irreducible] Go.Eng.brB Go.Eng.need Go.Eng.wrE Go.Eng.iaE Go.Eng.slE Go.Eng.apE Go.Eng.CallZ Go.Eng.CallE Go.Eng.VCallE Go.Eng.YldE Go.Eng.GoC Go.Eng.MeetsE Go.Eng.FnA Go.Eng.FnV Go.Eng.ItA
set_option maxRecDepth 100000

theorem findSome_ix {α β : Type} {g : α → Option β} : ∀ {l : List α} {b : β}, l.findSome? g = some b → ∃ k a, l[k]? = some a ∧ g a = some b ∧ ∀ x ∈ l.take k, g x = none
  | [], b, h => by simp at h
  | x :: l, b, h => by
    simp only [List.findSome?_cons] at h
    split at h
    · rename_i c hc
      cases h
      exact ⟨0, x, rfl, hc, by simp⟩
    · rename_i hc
      obtain ⟨k, a, h1, h2, h3⟩ := findSome_ix h
      refine ⟨k + 1, a, by simpa using h1, h2, ?_⟩
      simp only [List.take_succ_cons, List.mem_cons, forall_eq_or_imp]
      exact ⟨hc, h3⟩
theorem firstS_some {f : Frm} {r : Int} {i : Nat} (h : f.firstS r = some i) : i < f.ss.length ∧ f.bnd i r ≠ 2 ∧ ∀ j < i, f.bnd j r = 2 := by
  unfold Frm.firstS at h
  rw [List.find?_range_eq_some] at h
  refine ⟨List.mem_range.1 h.2.1, by simpa using h.1, fun j hj => by simpa using h.2.2 j hj⟩
theorem first_some {f : Frm} {r : Int} {i : Nat} (h : f.first = some (i, r)) : (f.lo ≤ r ∧ r ≤ f.hi) ∧ i < f.ss.length ∧ f.bnd i r ≠ 2 ∧ (∀ j < i, f.bnd j r = 2) ∧ ∀ s, r < s → s ≤ f.hi → ∀ j < f.ss.length, f.bnd j s = 2 := by
  unfold Frm.first at h
  obtain ⟨k, a, h1, h2, h3⟩ := findSome_ix h
  obtain ⟨i', h4, h5⟩ := Option.map_eq_some_iff.1 h2
  cases h5
  obtain ⟨p1, p2, p3⟩ := poss_k h1
  obtain ⟨h6, h7, h8⟩ := firstS_some h4
  refine ⟨⟨p1, p2⟩, h6, h7, h8, fun s hs1 hs2 => ?_⟩
  have hk := (List.getElem?_eq_some_iff.1 h1).1
  have hm : (f.hi - s).toNat < k := by omega
  have hg : f.poss[(f.hi - s).toNat]? = some s := by
    have : (f.hi - s).toNat < f.np := by simp [Frm.poss] at hk; omega
    simp [Frm.poss, this]; omega
  have : s ∈ f.poss.take k := by
    refine List.mem_of_getElem? (i := (f.hi - s).toNat) ?_
    rw [List.getElem?_take, if_pos hm, hg]
  have := h3 s this
  rw [Option.map_eq_none_iff, firstS_none] at this
  exact this
theorem first_is {f : Frm} {r : Int} {j : Nat} (hr : f.lo ≤ r ∧ r ≤ f.hi) (hj : j < f.ss.length) (hb : f.bnd j r ≠ 2) : ∃ i s, f.first = some (i, s) ∧ r ≤ s := by
  cases h : f.first with
  | none => exact absurd (first_none.1 h r (mem_poss.2 hr) j hj) hb
  | some x =>
    obtain ⟨i, s⟩ := x
    refine ⟨i, s, rfl, ?_⟩
    obtain ⟨_, _, _, _, h5⟩ := first_some h
    by_cases hrs : r ≤ s
    · exact hrs
    · exact absurd (h5 r (by omega) hr.2 j hj) hb

/-! more ease -/
theorem bind_mono {d a t en ed en' ed' : Int} (hD : 0 ≤ cosD d a) (h1 : 1 ≤ ed) (h2 : 1 ≤ ed') (h3 : en * ed' ≤ en' * ed) (h : bind d a t en ed = true) : bind d a t en' ed' = true := by
  unfold bind at h ⊢
  simp only [Bool.or_eq_true, decide_eq_true_eq, Bool.not_eq_true', decide_eq_false_iff_not, Int.not_lt] at h ⊢
  have hK : (ed' - en') * ed ≤ (ed - en) * ed' := by
    have e1 : (ed' - en') * ed = ed' * ed - en' * ed := Int.sub_mul ..
    have e2 : (ed - en) * ed' = ed' * ed - en * ed' := by rw [Int.sub_mul, Int.mul_comm ed ed']
    omega
  have hK2 : (ed' - en') * ed * cosD d a ≤ (ed - en) * ed' * cosD d a := Int.mul_le_mul_of_nonneg_right hK hD
  rcases h with h | h | h
  · exact .inl h
  · right; left
    have h4 : (ed - en) * cosD d a * ed' ≤ cosN d a t * ed * ed' := Int.mul_le_mul_of_nonneg_right h (by omega)
    have h5 : (ed' - en') * cosD d a * ed ≤ cosN d a t * ed' * ed := by
      have e1 : (ed' - en') * cosD d a * ed = (ed' - en') * ed * cosD d a := Int.mul_right_comm ..
      have e2 : (ed - en) * cosD d a * ed' = (ed - en) * ed' * cosD d a := Int.mul_right_comm ..
      have e3 : cosN d a t * ed * ed' = cosN d a t * ed' * ed := Int.mul_right_comm ..
      omega
    exact Int.le_of_mul_le_mul_right h5 (by omega)
  · right; right
    have h4 : cosN d a t * ed * ed' ≤ (0 - (ed - en)) * cosD d a * ed' := Int.mul_le_mul_of_nonneg_right h (by omega)
    have h5 : cosN d a t * ed' * ed ≤ (0 - (ed' - en')) * cosD d a * ed := by
      have e1 : (0 - (ed' - en')) * cosD d a * ed = - ((ed' - en') * ed * cosD d a) := by rw [Int.zero_sub, Int.neg_mul, Int.neg_mul, Int.mul_right_comm]
      have e2 : (0 - (ed - en)) * cosD d a * ed' = - ((ed - en) * ed' * cosD d a) := by rw [Int.zero_sub, Int.neg_mul, Int.neg_mul, Int.mul_right_comm]
      have e3 : cosN d a t * ed * ed' = cosN d a t * ed' * ed := Int.mul_right_comm ..
      omega
    exact Int.le_of_mul_le_mul_right h5 (by omega)
theorem bind_one {d a t e e' : Int} (h : e = e') : bind d a t e e' = true := by
  subst h
  unfold bind
  simp only [Bool.or_eq_true, decide_eq_true_eq, Bool.not_eq_true', decide_eq_false_iff_not, Int.not_lt]
  simp
  omega
def Frm.eas (f : Frm) (a b : Int) : Frm := { f with en := a, ed := b }
section
variable {f : Frm} {a b : Int} (hok : f.ok) (hok' : (f.eas a b).ok) (hle : f.en * b ≤ a * f.ed)
include hok hok' hle
theorem eas_binds {i : Nat} (hi : i < f.ss.length) {q : Int × Int} (hq : q ∈ (f.sec i).sides) {r : Int} (hr : f.lo ≤ r ∧ r ≤ f.hi) (h : f.bindsF i q.1 q.2 r = true) : (f.eas a b).bindsF i q.1 q.2 r = true := by
  have hm := mem_sides.1 hq
  have hb := side_bd (Frm.sec_ok hok hi) hm.1 hm.2
  have hr2 := hok.2.2.2.1
  unfold okSpan at hr2
  have hd := Frm.dist_bd hok i (show 0 ≤ r by omega) (by omega)
  exact bind_mono (cosD_bd hd hb.1).1 hok.2.2.2.2.1.1 hok'.2.2.2.2.1.1 hle h
theorem eas_bnd1 {i : Nat} (hi : i < f.ss.length) {r : Int} (hr : f.lo ≤ r ∧ r ≤ f.hi) (h : f.bnd i r = 1) : (f.eas a b).bnd i r = 1 := by
  rw [bnd1] at h ⊢
  exact fun q hq => eas_binds hok hok' hle hi hq hr (h q hq)
theorem eas_bnd2 {i : Nat} (hi : i < f.ss.length) {r : Int} (hr : f.lo ≤ r ∧ r ≤ f.hi) (h : (f.eas a b).bnd i r = 2) : f.bnd i r = 2 := by
  rw [bnd2 hok' hi] at h
  rw [bnd2 hok hi]
  intro q hq
  cases hh : f.bindsF i q.1 q.2 r
  · rfl
  · have := h q hq
    rw [eas_binds hok hok' hle hi hq hr hh] at this; cases this
theorem eas_opens2 (h : f.opens = 2) : (f.eas a b).opens = 2 := by
  rw [opens2] at h ⊢
  obtain ⟨i, hi, h⟩ := h
  refine ⟨i, hi, ?_⟩
  rw [someK1] at h ⊢
  intro q hq
  obtain ⟨r, hr, h2⟩ := h q hq
  exact ⟨r, hr, eas_binds hok hok' hle hi hq (mem_poss.1 hr) h2⟩
theorem eas_opens1 (h : (f.eas a b).opens = 1) : f.opens = 1 := by
  rw [← first_opens hok', first_none] at h
  rw [← first_opens hok, first_none]
  exact fun r hr i hi => eas_bnd2 hok hok' hle hi (mem_poss.1 hr) (h r hr i hi)
theorem eas_first {i : Nat} {r : Int} (h : f.first = some (i, r)) : ∃ j s, (f.eas a b).first = some (j, s) ∧ r ≤ s := by
  obtain ⟨h1, h2, h3, _, _⟩ := first_some h
  exact first_is (f := f.eas a b) h1 h2 (fun h4 => h3 (eas_bnd2 hok hok' hle h2 h1 h4))
end
theorem one_bnd {f : Frm} (h : f.en = f.ed) (i : Nat) (r : Int) : f.bnd i r = 1 := by
  rw [bnd1]; intro q _; exact bind_one h
theorem one_opens {f : Frm} (hok : f.ok) (h : f.en = f.ed) : f.opens = 2 := by
  rw [opens2]
  have h1 := hok.1
  have hr2 := hok.2.2.2.1
  unfold okSpan at hr2
  refine ⟨0, by omega, ?_⟩
  rw [someK1]
  exact fun q _ => ⟨f.hi, mem_poss.2 (by omega), bind_one h⟩
theorem one_first {f : Frm} (hok : f.ok) (h : f.en = f.ed) : ∃ i, f.first = some (i, f.hi) := by
  have h1 := hok.1
  have hr2 := hok.2.2.2.1
  unfold okSpan at hr2
  obtain ⟨i, s, h2, h3⟩ := first_is (f := f) (r := f.hi) (j := 0) (by omega) (by omega) (by rw [one_bnd h]; omega)
  obtain ⟨h4, _⟩ := first_some h2
  have : s = f.hi := by omega
  subst this
  exact ⟨i, h2⟩

theorem first_case (f : Frm) : (f.first = none ∧ f.firstAV = .tup [.int .i64 0, .int .i64 0, .int .i64 3]) ∨ ∃ i r, f.first = some (i, r) ∧ f.firstAV = .tup [.int .i64 (i : Nat), .int .i64 r, .int .i64 0] := by
  unfold Frm.firstAV
  cases h : f.first with
  | none => exact .inl ⟨rfl, rfl⟩
  | some x => exact .inr ⟨x.1, x.2, rfl, rfl⟩
theorem bnd_123 (f : Frm) (i : Nat) (r : Int) : f.bnd i r = 1 ∨ f.bnd i r = 2 ∨ f.bnd i r = 3 := knw_123 _ _
set_option maxHeartbeats 4000000 in
theorem k8 (f : Frm) (a b i r : Int) (hw : FnA Try.prog 12 [] (· = .bool true)) : FnA Try.prog 8 [.agg f.cells, .agg [.int .i64 a, .int .i64 b], .agg [.int .i64 i, .int .i64 r]] (· = .bool true) := by
  have hL : (f.ss.map Sec.av).length = f.ss.length := by simp
  refine fnA 4 ok8 (by simp) ?_
  have kr := k34 f
  cases hr : f.rdy
  · rw [hr] at kr
    (conv => whnf); (repeat' (first | (refine bT ?_; conv => whnf) | (refine bF ?_; conv => whnf) | (refine bN ?_) | (refine bD (fun hh => ?_) (fun hh => ?_) <;> first | (exfalso; omega) | (conv => whnf)) | (refine bEq (fun hh => ?_) (fun hh => ?_) <;> first | (exfalso; omega) | (conv => whnf)) | (refine bNe (fun hh => ?_) (fun hh => ?_) <;> first | (exfalso; omega) | (conv => whnf)) | (refine (kr).callq rfl rfl (fun r (hr : r = _) => ?_); subst hr; conv => whnf) | (refine (hw).callq rfl rfl (fun r (hr : r = _) => ?_); subst hr; conv => whnf) | (refine wIn (by omega) ?_; conv => whnf) | (refine nI (by omega) ?_; conv => whnf)))
    all_goals rfl
  rw [hr] at kr
  obtain ⟨hok, hfar⟩ := rdy_ok hr
  have kr' := k34 (f.eas a b)
  cases hr' : (f.eas a b).rdy
  · rw [hr'] at kr'
    (conv => whnf); (repeat' (first | (refine bT ?_; conv => whnf) | (refine bF ?_; conv => whnf) | (refine bN ?_) | (refine bD (fun hh => ?_) (fun hh => ?_) <;> first | (exfalso; omega) | (conv => whnf)) | (refine bEq (fun hh => ?_) (fun hh => ?_) <;> first | (exfalso; omega) | (conv => whnf)) | (refine bNe (fun hh => ?_) (fun hh => ?_) <;> first | (exfalso; omega) | (conv => whnf)) | (refine (kr).callq rfl rfl (fun r (hr : r = _) => ?_); subst hr; conv => whnf) | (refine (kr').callq rfl rfl (fun r (hr : r = _) => ?_); subst hr; conv => whnf) | (refine (hw).callq rfl rfl (fun r (hr : r = _) => ?_); subst hr; conv => whnf) | (refine wIn (by omega) ?_; conv => whnf) | (refine nI (by omega) ?_; conv => whnf)))
    all_goals rfl
  rw [hr'] at kr'
  obtain ⟨hok', hfar'⟩ := rdy_ok hr'
  have hn := hok.2.1
  have ka := k35 f i r (by omega)
  cases ha : f.ask i r
  · rw [ha] at ka
    (conv => whnf); (repeat' (first | (refine bT ?_; conv => whnf) | (refine bF ?_; conv => whnf) | (refine bN ?_) | (refine bD (fun hh => ?_) (fun hh => ?_) <;> first | (exfalso; omega) | (conv => whnf)) | (refine bEq (fun hh => ?_) (fun hh => ?_) <;> first | (exfalso; omega) | (conv => whnf)) | (refine bNe (fun hh => ?_) (fun hh => ?_) <;> first | (exfalso; omega) | (conv => whnf)) | (refine (kr).callq rfl rfl (fun r (hr : r = _) => ?_); subst hr; conv => whnf) | (refine (kr').callq rfl rfl (fun r (hr : r = _) => ?_); subst hr; conv => whnf) | (refine (ka).callq rfl rfl (fun r (hr : r = _) => ?_); subst hr; conv => whnf) | (refine (hw).callq rfl rfl (fun r (hr : r = _) => ?_); subst hr; conv => whnf) | (refine wIn (by omega) ?_; conv => whnf) | (refine nI (by omega) ?_; conv => whnf)))
    all_goals rfl
  rw [ha] at ka
  unfold Frm.ask at ha
  obtain ⟨⟨hi0, hi1⟩, hr0, hr1⟩ := of_decide_eq_true ha
  obtain ⟨j, rfl⟩ := Int.eq_ofNat_of_zero_le hi0
  have hj : j < f.ss.length := by omega
  have e1 := hok.2.2.2.2.1
  have e2 : okPart a b := hok'.2.2.2.2.1
  unfold okPart at e1 e2
  have m1 := mul_bd 20 20 (show 0 ≤ a by omega) (by omega) (show 0 ≤ f.ed by omega) (by omega)
  have m2 := mul_bd 20 20 (show 0 ≤ f.en by omega) (by omega) (show 0 ≤ b by omega) (by omega)
  have kl := k40 a b f.en f.ed (by omega) (by omega)
  by_cases hlt : a * f.ed < f.en * b
  · rw [decide_eq_true hlt] at kl
    (conv => whnf); (repeat' (first | (refine bT ?_; conv => whnf) | (refine bF ?_; conv => whnf) | (refine bN ?_) | (refine bD (fun hh => ?_) (fun hh => ?_) <;> first | (exfalso; omega) | (conv => whnf)) | (refine bEq (fun hh => ?_) (fun hh => ?_) <;> first | (exfalso; omega) | (conv => whnf)) | (refine bNe (fun hh => ?_) (fun hh => ?_) <;> first | (exfalso; omega) | (conv => whnf)) | (refine (kr).callq rfl rfl (fun r (hr : r = _) => ?_); subst hr; conv => whnf) | (refine (kr').callq rfl rfl (fun r (hr : r = _) => ?_); subst hr; conv => whnf) | (refine (ka).callq rfl rfl (fun r (hr : r = _) => ?_); subst hr; conv => whnf) | (refine (kl).callq rfl rfl (fun r (hr : r = _) => ?_); subst hr; conv => whnf) | (refine (hw).callq rfl rfl (fun r (hr : r = _) => ?_); subst hr; conv => whnf) | (refine wIn (by omega) ?_; conv => whnf) | (refine nI (by omega) ?_; conv => whnf)))
    all_goals rfl
  rw [decide_eq_false hlt] at kl
  have hle : f.en * b ≤ a * f.ed := by omega
  have hpos : f.pos (j : Nat) r = 0 := pos_zero hok (by omega) ⟨hr0, hr1⟩
  have hposu : (f.eas a b).pos (j : Nat) r = 0 := pos_zero hok' (by simp only [Frm.eas]; omega) ⟨hr0, hr1⟩
  have k1 := k20 f j r hpos
  have k2 := k20 (f.eas a b) j r hposu
  have k3 := k25 f hok
  have k4 := k25 (f.eas a b) hok'
  have k5 := k23 f hok
  have k6 := k23 (f.eas a b) hok'
  have f1 := eas_bnd1 hok hok' hle hj ⟨hr0, hr1⟩
  have f2 := eas_bnd2 hok hok' hle hj ⟨hr0, hr1⟩
  have f3 := eas_opens2 hok hok' hle
  have f4 := eas_opens1 hok hok' hle
  have f5 : ∀ {i r}, f.first = some (i, r) → _ := fun {i r} h => eas_first (i := i) (r := r) hok hok' hle h
  have g1 := bnd_123 f j r
  have g2 := bnd_123 (f.eas a b) j r
  have g3 := opens_123 f
  have g4 := opens_123 (f.eas a b)
  have o1 : ¬ a < b → (f.eas a b).bnd j r = 1 := fun h => one_bnd (f := f.eas a b) (show a = b by omega) j r
  have o2 : ¬ a < b → (f.eas a b).opens = 2 := fun h => one_opens hok' (show a = b by omega)
  have o3 : ¬ a < b → ∃ i, (f.eas a b).first = some (i, f.hi) := fun h => one_first (f := f.eas a b) hok' (show a = b by omega)
  generalize (f.eas a b).bnd j r = N at *
  generalize f.bnd j r = M at *
  generalize (f.eas a b).opens = Q at *
  generalize f.opens = P at *
  clear hpos hposu hfar hfar' hr hr' ha
  rcases first_case f with ⟨h1, h2⟩ | ⟨i0, r0, h1, h2⟩
  · rw [h2] at k5
    rcases first_case (f.eas a b) with ⟨h3, h4⟩ | ⟨i1, r1, h3, h4⟩
    · rw [h4] at k6
      have : a < b := by
        by_cases h : a < b
        · exact h
        · obtain ⟨_, h5⟩ := o3 h; rw [h3] at h5; cases h5
      clear o3 f5 h1 h2 h3 h4
      (conv => whnf); (repeat' (first | (refine bT ?_; conv => whnf) | (refine bF ?_; conv => whnf) | (refine bN ?_) | (refine bD (fun hh => ?_) (fun hh => ?_) <;> first | (exfalso; omega) | (conv => whnf)) | (refine bEq (fun hh => ?_) (fun hh => ?_) <;> first | (exfalso; omega) | (conv => whnf)) | (refine bNe (fun hh => ?_) (fun hh => ?_) <;> first | (exfalso; omega) | (conv => whnf)) | (refine (kr).callq rfl rfl (fun r (hr : r = _) => ?_); subst hr; conv => whnf) | (refine (kr').callq rfl rfl (fun r (hr : r = _) => ?_); subst hr; conv => whnf) | (refine (ka).callq rfl rfl (fun r (hr : r = _) => ?_); subst hr; conv => whnf) | (refine (kl).callq rfl rfl (fun r (hr : r = _) => ?_); subst hr; conv => whnf) | (refine (k1).callq rfl rfl (fun r (hr : r = _) => ?_); subst hr; conv => whnf) | (refine (k2).callq rfl rfl (fun r (hr : r = _) => ?_); subst hr; conv => whnf) | (refine (k3).callq rfl rfl (fun r (hr : r = _) => ?_); subst hr; conv => whnf) | (refine (k4).callq rfl rfl (fun r (hr : r = _) => ?_); subst hr; conv => whnf) | (refine (k5).callq rfl rfl (fun r (hr : r = _) => ?_); subst hr; conv => whnf) | (refine (k6).callq rfl rfl (fun r (hr : r = _) => ?_); subst hr; conv => whnf) | (refine (hw).callq rfl rfl (fun r (hr : r = _) => ?_); subst hr; conv => whnf) | (refine wIn (by omega) ?_; conv => whnf) | (refine nI (by omega) ?_; conv => whnf)))
      all_goals rfl
    · rw [h4] at k6
      have : ¬ a < b → r1 = f.hi := fun h => by
        obtain ⟨_, h5⟩ := o3 h; rw [h3] at h5; cases h5; rfl
      clear o3 f5 h1 h2 h3 h4
      (conv => whnf); (repeat' (first | (refine bT ?_; conv => whnf) | (refine bF ?_; conv => whnf) | (refine bN ?_) | (refine bD (fun hh => ?_) (fun hh => ?_) <;> first | (exfalso; omega) | (conv => whnf)) | (refine bEq (fun hh => ?_) (fun hh => ?_) <;> first | (exfalso; omega) | (conv => whnf)) | (refine bNe (fun hh => ?_) (fun hh => ?_) <;> first | (exfalso; omega) | (conv => whnf)) | (refine (kr).callq rfl rfl (fun r (hr : r = _) => ?_); subst hr; conv => whnf) | (refine (kr').callq rfl rfl (fun r (hr : r = _) => ?_); subst hr; conv => whnf) | (refine (ka).callq rfl rfl (fun r (hr : r = _) => ?_); subst hr; conv => whnf) | (refine (kl).callq rfl rfl (fun r (hr : r = _) => ?_); subst hr; conv => whnf) | (refine (k1).callq rfl rfl (fun r (hr : r = _) => ?_); subst hr; conv => whnf) | (refine (k2).callq rfl rfl (fun r (hr : r = _) => ?_); subst hr; conv => whnf) | (refine (k3).callq rfl rfl (fun r (hr : r = _) => ?_); subst hr; conv => whnf) | (refine (k4).callq rfl rfl (fun r (hr : r = _) => ?_); subst hr; conv => whnf) | (refine (k5).callq rfl rfl (fun r (hr : r = _) => ?_); subst hr; conv => whnf) | (refine (k6).callq rfl rfl (fun r (hr : r = _) => ?_); subst hr; conv => whnf) | (refine (hw).callq rfl rfl (fun r (hr : r = _) => ?_); subst hr; conv => whnf) | (refine wIn (by omega) ?_; conv => whnf) | (refine nI (by omega) ?_; conv => whnf)))
      all_goals rfl
  · rw [h2] at k5
    obtain ⟨i1, r1, h3, h4⟩ := f5 h1
    rcases first_case (f.eas a b) with ⟨h5, h6⟩ | ⟨i2, r2, h5, h6⟩
    · rw [h3] at h5; cases h5
    · rw [h3] at h5; cases h5
      rw [h6] at k6
      have : ¬ a < b → r1 = f.hi := fun h => by
        obtain ⟨_, h5⟩ := o3 h; rw [h3] at h5; cases h5; rfl
      clear o3 f5 h1 h2 h3 h6
      (conv => whnf); (repeat' (first | (refine bT ?_; conv => whnf) | (refine bF ?_; conv => whnf) | (refine bN ?_) | (refine bD (fun hh => ?_) (fun hh => ?_) <;> first | (exfalso; omega) | (conv => whnf)) | (refine bEq (fun hh => ?_) (fun hh => ?_) <;> first | (exfalso; omega) | (conv => whnf)) | (refine bNe (fun hh => ?_) (fun hh => ?_) <;> first | (exfalso; omega) | (conv => whnf)) | (refine (kr).callq rfl rfl (fun r (hr : r = _) => ?_); subst hr; conv => whnf) | (refine (kr').callq rfl rfl (fun r (hr : r = _) => ?_); subst hr; conv => whnf) | (refine (ka).callq rfl rfl (fun r (hr : r = _) => ?_); subst hr; conv => whnf) | (refine (kl).callq rfl rfl (fun r (hr : r = _) => ?_); subst hr; conv => whnf) | (refine (k1).callq rfl rfl (fun r (hr : r = _) => ?_); subst hr; conv => whnf) | (refine (k2).callq rfl rfl (fun r (hr : r = _) => ?_); subst hr; conv => whnf) | (refine (k3).callq rfl rfl (fun r (hr : r = _) => ?_); subst hr; conv => whnf) | (refine (k4).callq rfl rfl (fun r (hr : r = _) => ?_); subst hr; conv => whnf) | (refine (k5).callq rfl rfl (fun r (hr : r = _) => ?_); subst hr; conv => whnf) | (refine (k6).callq rfl rfl (fun r (hr : r = _) => ?_); subst hr; conv => whnf) | (refine (hw).callq rfl rfl (fun r (hr : r = _) => ?_); subst hr; conv => whnf) | (refine wIn (by omega) ?_; conv => whnf) | (refine nI (by omega) ?_; conv => whnf)))
      all_goals rfl

theorem gcd_step2 {x y : Int} (h1 : 0 ≤ x) (h2 : 0 ≤ y) : Int.gcd y (x % y) = Int.gcd x y := by
  rw [Int.gcd_comm, gcd_step h2 h1, Int.gcd_comm]
theorem k69 (n d : Int) (hn : -100000000 ≤ n ∧ n ≤ 100000000) (hd : 1 ≤ d ∧ d ≤ 100000000) : FnA Try.prog 69 [.int .i64 n, .int .i64 d] (· = .agg [.int .i64 (redN n d), .int .i64 (redD n d)]) := by
  have hg := gcd_bd (n := n) hd.1
  have h1 := tdiv_abs (a := n) hg.1 100000000 (by omega) (by omega)
  have h2 := tdiv_abs (a := d) hg.1 100000000 (by omega) (by omega)
  refine fnA 1 ok69 (by simp) ?_
  (conv => whnf); (repeat' (first | (refine bT ?_; conv => whnf) | (refine bF ?_; conv => whnf) | (refine bN ?_) | (refine bD (fun hh => ?_) (fun hh => ?_) <;> (conv => whnf)) | (refine bEq (fun hh => ?_) (fun hh => ?_) <;> (conv => whnf)) | (refine bNe (fun hh => ?_) (fun hh => ?_) <;> (conv => whnf)) | (refine wIn (by omega) ?_; conv => whnf) | (refine nI (by omega) ?_; conv => whnf)))
  refine loop_i (α := Int × Int) (fun x => [(5, .int .i64 x.1), (6, .int .i64 x.2), (0, .int .i64 n), (1, .int .i64 d), (4, .own 0 0)]) (fun x => [.box false [.int .i64 0, .int .i64 0]]) (fun x => 0 ≤ x.1 ∧ 0 ≤ x.2 ∧ Int.gcd x.1 x.2 = Int.gcd n d) (fun x => x.2.toNat) (max n (0 - n), d) (meets_id (by (repeat' apply And.intro) <;> first | rfl | trivial | (intro hh; cases hh))) ⟨by simp only; omega, by simp only; omega, gcd_max n d⟩ ?_
  rintro ⟨x, y⟩ ⟨h3, h4, h5⟩
  simp only at h3 h4 h5
  conv => whnf
  refine bNe (fun h6 => ?_) (fun h6 => ?_)
  · conv => whnf
    refine nI h6 ?_
    conv => whnf
    have e : x.tmod y = x % y := Int.tmod_eq_emod_of_nonneg h3
    have h7 := Int.emod_nonneg x h6
    have h8 := Int.emod_lt_of_pos x (show 0 < y by omega)
    refine ⟨(y, x.tmod y), (meets_id (by (repeat' apply And.intro) <;> first | rfl | trivial | (intro hh; cases hh))), ⟨h4, by simp only [e]; exact h7, ?_⟩, ?_⟩
    · simp only [e]; rw [← h5]; exact gcd_step2 h3 h4
    · simp only [e]; omega
  · conv => whnf
    subst h6
    have e : x = Int.gcd n d := by rw [← h5]; simp; omega
    subst e
    have h1' : -100000000 ≤ n.tdiv (((Int.gcd n d : Nat) : Int), (0 : Int)).fst ∧ n.tdiv (((Int.gcd n d : Nat) : Int), (0 : Int)).fst ≤ 100000000 := h1
    have h2' : -100000000 ≤ d.tdiv (((Int.gcd n d : Nat) : Int), (0 : Int)).fst ∧ d.tdiv (((Int.gcd n d : Nat) : Int), (0 : Int)).fst ≤ 100000000 := h2
    have hg' : 1 ≤ (((Int.gcd n d : Nat) : Int), (0 : Int)).fst := hg.1
    (conv => whnf); (repeat' (first | (refine bT ?_; conv => whnf) | (refine bF ?_; conv => whnf) | (refine bN ?_) | (refine bD (fun hh => ?_) (fun hh => ?_) <;> first | (exfalso; omega) | (conv => whnf)) | (refine bEq (fun hh => ?_) (fun hh => ?_) <;> first | (exfalso; omega) | (conv => whnf)) | (refine bNe (fun hh => ?_) (fun hh => ?_) <;> first | (exfalso; omega) | (conv => whnf)) | (refine wIn (by omega) ?_; conv => whnf) | (refine nI (by omega) ?_; conv => whnf)))
    all_goals rfl
theorem k56 (f : Frm) (r : Int) (hok : f.ok) (h0 : 0 ≤ r) (h1 : r ≤ 2000) : ∀ (i : Nat), i < f.ss.length → FnA Try.prog 56 [.agg f.cells, .int .i64 i, .int .i64 r] (· = .int .i64 (f.dist i r))
  | 0, hi => by
    have := dist_zero f r
    refine fnA 2 ok56 (by simp) ?_
    rw [this]
    (conv => whnf); (repeat' (first | (refine bT ?_; conv => whnf) | (refine bF ?_; conv => whnf) | (refine bN ?_) | (refine bD (fun hh => ?_) (fun hh => ?_) <;> first | (exfalso; omega) | (conv => whnf)) | (refine bEq (fun hh => ?_) (fun hh => ?_) <;> first | (exfalso; omega) | (conv => whnf)) | (refine bNe (fun hh => ?_) (fun hh => ?_) <;> first | (exfalso; omega) | (conv => whnf)) | (refine wIn (by omega) ?_; conv => whnf) | (refine nI (by omega) ?_; conv => whnf)))
    all_goals rfl
  | i + 1, hi => by
    have ih := k56 f r hok h0 h1 i (by omega)
    have hL : (f.ss.map Sec.av).length = f.ss.length := by simp
    have hn := hok.2.1
    rw [show (i : Int) = ((i + 1 : Nat) : Int) - 1 from by omega] at ih
    have hd' := Frm.dist_bd hok i h0 h1
    have hs := Frm.sec_ok hok hi
    have hg := hs.2.2.2
    have hbs := hs.2.2.1
    unfold okPart at hg
    have hm := mul_bd 6000 20 hd'.1 hd'.2 hg.2.2.1 (show (f.sec (i + 1)).num ≤ 20 by omega)
    have ht := tdiv_bd hd'.1 hg.2.2.1 hg.2.2.2 (by omega)
    have he := dist_succ hi r
    refine fnA 2 ok56 (by simp) ?_
    rw [he]
    generalize hj : ((i + 1 : Nat) : Int) = J at *
    (conv => whnf); (repeat' (first | (refine bT ?_; conv => whnf) | (refine bF ?_; conv => whnf) | (refine bN ?_) | (refine bD (fun hh => ?_) (fun hh => ?_) <;> first | (exfalso; omega) | (conv => whnf)) | (refine bEq (fun hh => ?_) (fun hh => ?_) <;> first | (exfalso; omega) | (conv => whnf)) | (refine bNe (fun hh => ?_) (fun hh => ?_) <;> first | (exfalso; omega) | (conv => whnf)) | (refine wIn (by omega) ?_; conv => whnf) | (refine nI (by omega) ?_; conv => whnf)))
    refine iaI (by omega) (by omega) (show (f.ss.map Sec.av).getD J.toNat [] = (f.sec (i + 1)).av by rw [← hj]; exact f.sec_get hi) ?_
    (conv => whnf); (repeat' (first | (refine bT ?_; conv => whnf) | (refine bF ?_; conv => whnf) | (refine bN ?_) | (refine bD (fun hh => ?_) (fun hh => ?_) <;> first | (exfalso; omega) | (conv => whnf)) | (refine bEq (fun hh => ?_) (fun hh => ?_) <;> first | (exfalso; omega) | (conv => whnf)) | (refine bNe (fun hh => ?_) (fun hh => ?_) <;> first | (exfalso; omega) | (conv => whnf)) | (refine (ih).callq rfl rfl (fun r (hr : r = _) => ?_); subst hr; conv => whnf) | (refine wIn (by omega) ?_; conv => whnf) | (refine nI (by omega) ?_; conv => whnf)))
    all_goals rfl
/-- comparing reduced fractions -/
theorem red_eq {n d : Int} (hd : 1 ≤ d) : n = Int.gcd n d * redN n d ∧ d = Int.gcd n d * redD n d ∧ 1 ≤ redD n d := by
  have hg := gcd_bd (n := n) hd
  have e1 : d = Int.gcd n d * redD n d := (Int.mul_tdiv_cancel' (Int.gcd_dvd_right n d)).symm
  refine ⟨(Int.mul_tdiv_cancel' (Int.gcd_dvd_left n d)).symm, e1, ?_⟩
  by_cases h : 1 ≤ redD n d
  · exact h
  · have : (Int.gcd n d : Int) * redD n d ≤ 0 := Int.mul_nonpos_of_nonneg_of_nonpos (by omega) (by omega)
    omega
theorem red_lt {n d L M : Int} (hd : 1 ≤ d) : redN n d * M < L * redD n d ↔ n * M < L * d := by
  obtain ⟨h1, h2, h3⟩ := red_eq (n := n) hd
  have hg := gcd_bd (n := n) hd
  generalize (Int.gcd n d : Int) = g at *
  have e1 : n * M = g * (redN n d * M) := by rw [← Int.mul_assoc, ← h1]
  have e2 : L * d = g * (L * redD n d) := by rw [Int.mul_left_comm, ← h2]
  rw [e1, e2]
  exact (Int.mul_lt_mul_left (show 0 < g by omega)).symm
theorem red_gt {n d L M : Int} (hd : 1 ≤ d) : L * redD n d < redN n d * M ↔ L * d < n * M := by
  obtain ⟨h1, h2, h3⟩ := red_eq (n := n) hd
  have hg := gcd_bd (n := n) hd
  generalize (Int.gcd n d : Int) = g at *
  have e1 : n * M = g * (redN n d * M) := by rw [← Int.mul_assoc, ← h1]
  have e2 : L * d = g * (L * redD n d) := by rw [Int.mul_left_comm, ← h2]
  rw [e1, e2]
  exact (Int.mul_lt_mul_left (show 0 < g by omega)).symm
theorem red_bd {n d : Int} (hn : -100000000 ≤ n ∧ n ≤ 100000000) (hd : 1 ≤ d ∧ d ≤ 100000000) : (-100000000 ≤ redN n d ∧ redN n d ≤ 100000000) ∧ 1 ≤ redD n d ∧ redD n d ≤ 100000000 := by
  have hg := gcd_bd (n := n) hd.1
  have h1 := tdiv_abs (a := n) hg.1 100000000 (by omega) (by omega)
  have h2 := tdiv_abs (a := d) hg.1 100000000 (by omega) (by omega)
  have h3 := (red_eq (n := n) hd.1).2.2
  unfold redN redD at *
  omega
theorem k38z (a t : Int) : FnA Try.prog 38 [.int .i64 0, .agg [.int .i64 a, .int .i64 t]] (· = .tup [fz, .bool false]) := by
  refine fnA 2 ok38 (by simp) ?_
  (conv => whnf); (repeat' (first | (refine bT ?_; conv => whnf) | (refine bF ?_; conv => whnf) | (refine bN ?_) | (refine bD (fun hh => ?_) (fun hh => ?_) <;> first | (exfalso; omega) | (conv => whnf)) | (refine bEq (fun hh => ?_) (fun hh => ?_) <;> first | (exfalso; omega) | (conv => whnf)) | (refine bNe (fun hh => ?_) (fun hh => ?_) <;> first | (exfalso; omega) | (conv => whnf)) | (refine wIn (by omega) ?_; conv => whnf) | (refine nI (by omega) ?_; conv => whnf)))
  all_goals rfl
theorem cos_bd2 {d a t : Int} (hd : 1 ≤ d ∧ d ≤ 6000) (ha : 1 ≤ a ∧ a ≤ 2000) (ht : 0 ≤ t ∧ t ≤ 2000) : (-100000000 ≤ cosN d a t ∧ cosN d a t ≤ 100000000) ∧ 1 ≤ cosD d a ∧ cosD d a ≤ 100000000 := by
  have h := cosN_bd (d := d) (a := a) (t := t) (by omega) (by omega) ht
  have h' := cosD_bd (d := d) (a := a) (by omega) (by omega)
  have h2 : 1 * 1 ≤ d * a := Int.mul_le_mul hd.1 ha.1 (by omega) (by omega)
  have h3 : cosD d a = 2 * (d * a) := by unfold cosD; rw [Int.mul_assoc]
  omega
theorem k38 (d a t : Int) (hd : 1 ≤ d ∧ d ≤ 6000) (ha : 1 ≤ a ∧ a ≤ 2000) (ht : 0 ≤ t ∧ t ≤ 2000) : FnA Try.prog 38 [.int .i64 d, .agg [.int .i64 a, .int .i64 t]] (· = .tup [fr (cosN d a t, cosD d a), .bool true]) := by
  have h1 := mul_bd (a := d) (b := d) 6000 6000 (by omega) hd.2 (by omega) hd.2
  have h2 := mul_bd (a := a) (b := a) 2000 2000 (by omega) ha.2 (by omega) ha.2
  have h3 := mul_bd (a := t) (b := t) 2000 2000 ht.1 ht.2 ht.1 ht.2
  have h4 := mul_bd (a := 2 * d) 12000 2000 (by omega) (by omega) (show 0 ≤ a by omega) ha.2
  have hb := cos_bd2 hd ha ht
  refine fnA 2 ok38 (by simp) ?_
  (conv => whnf); (repeat' (first | (refine bT ?_; conv => whnf) | (refine bF ?_; conv => whnf) | (refine bN ?_) | (refine bD (fun hh => ?_) (fun hh => ?_) <;> first | (exfalso; omega) | (conv => whnf)) | (refine bEq (fun hh => ?_) (fun hh => ?_) <;> first | (exfalso; omega) | (conv => whnf)) | (refine bNe (fun hh => ?_) (fun hh => ?_) <;> first | (exfalso; omega) | (conv => whnf)) | (refine (k69 (cosN d a t) (cosD d a) hb.1 hb.2).callq rfl rfl (fun r (hr : r = _) => ?_); subst hr; conv => whnf) | (refine wIn (by omega) ?_; conv => whnf) | (refine nI (by omega) ?_; conv => whnf)))
  all_goals rfl
theorem k41 (f : Frm) (i : Nat) (r a t : Int) (hok : f.ok) (hi : i < f.ss.length) (h0 : 0 ≤ r) (h1 : r ≤ 2000) (ha : 1 ≤ a ∧ a ≤ 2000) (ht : 0 ≤ t ∧ t ≤ 2000) : FnA Try.prog 41 [.agg f.cells, .int .i64 i, .int .i64 r, .agg [.int .i64 a, .int .i64 t]] (· = .bool (f.bindsF i a t r)) := by
  have hd := Frm.dist_bd hok i h0 h1
  have he := hok.2.2.2.2.1
  unfold okPart at he
  have kd := k56 f r hok h0 h1 i hi
  unfold Frm.bindsF
  generalize f.dist i r = d at *
  refine fnA 4 ok41 (by simp) ?_
  by_cases hz : d = 0
  · subst hz
    (conv => whnf); (repeat' (first | (refine bT ?_; conv => whnf) | (refine bF ?_; conv => whnf) | (refine bN ?_) | (refine bD (fun hh => ?_) (fun hh => ?_) <;> first | (exfalso; omega) | (conv => whnf)) | (refine bEq (fun hh => ?_) (fun hh => ?_) <;> first | (exfalso; omega) | (conv => whnf)) | (refine bNe (fun hh => ?_) (fun hh => ?_) <;> first | (exfalso; omega) | (conv => whnf)) | (refine (kd).callq rfl rfl (fun r (hr : r = _) => ?_); subst hr; conv => whnf) | (refine (k38z a t).callq rfl rfl (fun r (hr : r = _) => ?_); subst hr; conv => whnf) | (refine wIn (by omega) ?_; conv => whnf) | (refine nI (by omega) ?_; conv => whnf)))
    all_goals (unfold bind; simp)
  · have hb := cos_bd2 (d := d) (by omega) ha ht
    have hb2 := red_bd hb.1 hb.2
    have m1 := mul_ab (a := redN (cosN d a t) (cosD d a)) 100000000 20 hb2.1.1 hb2.1.2 (show 0 ≤ f.ed by omega) (by omega)
    have m2 := mul_ab (a := f.ed - f.en) 20 100000000 (by omega) (by omega) (show 0 ≤ redD (cosN d a t) (cosD d a) by omega) hb2.2.2
    have m3 := mul_ab (a := 0 - (f.ed - f.en)) 20 100000000 (by omega) (by omega) (show 0 ≤ redD (cosN d a t) (cosD d a) by omega) hb2.2.2
    have r1 := red_lt (n := cosN d a t) (d := cosD d a) (L := f.ed - f.en) (M := f.ed) hb.2.1
    have r2 := red_gt (n := cosN d a t) (d := cosD d a) (L := 0 - (f.ed - f.en)) (M := f.ed) hb.2.1
    have hB : bind d a t f.en f.ed = (!decide (redN (cosN d a t) (cosD d a) * f.ed < (f.ed - f.en) * redD (cosN d a t) (cosD d a)) || !decide ((0 - (f.ed - f.en)) * redD (cosN d a t) (cosD d a) < redN (cosN d a t) (cosD d a) * f.ed)) := by
      unfold bind
      rw [decide_eq_false hz, decide_eq_decide.2 r1, decide_eq_decide.2 r2, Bool.false_or]
    rw [hB]
    clear hB r1 r2
    (conv => whnf); (repeat' (first | (refine bT ?_; conv => whnf) | (refine bF ?_; conv => whnf) | (refine bN ?_) | (refine bD (fun hh => ?_) (fun hh => ?_) <;> first | (exfalso; omega) | (conv => whnf)) | (refine bEq (fun hh => ?_) (fun hh => ?_) <;> first | (exfalso; omega) | (conv => whnf)) | (refine bNe (fun hh => ?_) (fun hh => ?_) <;> first | (exfalso; omega) | (conv => whnf)) | (refine (kd).callq rfl rfl (fun r (hr : r = _) => ?_); subst hr; conv => whnf) | (refine (k38 d a t (by omega) ha ht).callq rfl rfl (fun r (hr : r = _) => ?_); subst hr; conv => whnf) | (refine (k40 (redN (cosN d a t) (cosD d a)) (redD (cosN d a t) (cosD d a)) (f.ed - f.en) f.ed (by omega) (by omega)).callq rfl rfl (fun r (hr : r = _) => ?_); subst hr; conv => whnf) | (refine (k40 (0 - (f.ed - f.en)) f.ed (redN (cosN d a t) (cosD d a)) (redD (cosN d a t) (cosD d a)) (by omega) (by omega)).callq rfl rfl (fun r (hr : r = _) => ?_); subst hr; conv => whnf) | (refine wIn (by omega) ?_; conv => whnf) | (refine nI (by omega) ?_; conv => whnf)))
    all_goals (clear kd hd m1 m2 m3 hb hb2; simp [*])

def Sec.rows (s : Sec) (k : Nat) : List (List AV) := ((List.range k).map s.side).map pairAV
theorem rows_succ (s : Sec) (k : Nat) : s.rows (k + 1) = s.rows k ++ [pairAV (s.side k)] := by simp [Sec.rows, List.range_succ]
theorem rows_len (s : Sec) (k : Nat) : (s.rows k).length = k := by simp [Sec.rows]
theorem nab {s : Sec} (hok : s.ok) : (s.na : Int) = s.ah + 1 - s.al ∧ (s.nb : Int) = s.sh + 1 - s.sl ∧ s.na ≤ 7 ∧ s.nb ≤ 7 ∧ 1 ≤ s.na ∧ 1 ≤ s.nb := by
  have h1 := hok.1
  have h2 := hok.2.1
  unfold okSpan at h1 h2
  unfold Sec.na Sec.nb; omega
theorem k44 (f : Frm) (i : Nat) (hok : f.ok) (hi : i < f.ss.length) : FnA Try.prog 44 [.agg f.cells, .int .i64 i] (· = .isl ((f.sec i).sides.map pairAV)) := by
  have hL : (f.ss.map Sec.av).length = f.ss.length := by simp
  have hn := hok.2.1
  have hs := Frm.sec_ok hok hi
  refine fnA 5 ok44 (by simp) ?_
  (conv => whnf); (repeat' (first | (refine bT ?_; conv => whnf) | (refine bF ?_; conv => whnf) | (refine bN ?_) | (refine bD (fun hh => ?_) (fun hh => ?_) <;> first | (exfalso; omega) | (conv => whnf)) | (refine bEq (fun hh => ?_) (fun hh => ?_) <;> first | (exfalso; omega) | (conv => whnf)) | (refine bNe (fun hh => ?_) (fun hh => ?_) <;> first | (exfalso; omega) | (conv => whnf)) | (refine wIn (by omega) ?_; conv => whnf) | (refine nI (by omega) ?_; conv => whnf)))
  refine iaI (by omega) (by omega) (f.sec_get hi) ?_
  generalize hS : f.sec ((i : Int).toNat) = s
  have hs : s.ok := by rw [← hS]; exact hs
  have hS' : f.sec i = s := hS
  rw [hS']
  obtain ⟨ea, eb, n1, n2, n3, n4⟩ := nab hs
  have h1 := hs.1
  have h2 := hs.2.1
  unfold okSpan at h1 h2
  (conv => whnf); (repeat' (first | (refine bT ?_; conv => whnf) | (refine bF ?_; conv => whnf) | (refine bN ?_) | (refine bD (fun hh => ?_) (fun hh => ?_) <;> first | (exfalso; omega) | (conv => whnf)) | (refine bEq (fun hh => ?_) (fun hh => ?_) <;> first | (exfalso; omega) | (conv => whnf)) | (refine bNe (fun hh => ?_) (fun hh => ?_) <;> first | (exfalso; omega) | (conv => whnf)) | (refine wIn (by omega) ?_; conv => whnf) | (refine nI (by omega) ?_; conv => whnf)))
  refine loop_i (α := Nat) (fun x => [(7, .int .i64 (s.al + x)), (6, .row 4), (5, .own 1 0)]) (fun x => [.fresh, .box false s.av, .fresh, .fresh, .row false 52 2 (s.rows (x * s.nb))]) (fun x => x ≤ s.na) (fun x => s.na - x) 0 ?_ (by omega) ?_
  · simp only [Int.natCast_zero, Int.add_zero, Nat.zero_mul]
    exact meets_nil 4 (by (repeat' apply And.intro) <;> first | rfl | trivial | (intro hh; cases hh))
  intro x hx
  conv => whnf
  refine bD (fun h3 => ?_) (fun h3 => ?_)
  · conv => whnf
    refine loop_i (α := Nat) (fun y => [(8, .int .i64 (s.sl + y)), (7, .int .i64 (s.al + x)), (6, .row 4), (5, .own 1 0)]) (fun y => [.fresh, .box false s.av, .fresh, .fresh, .row false 52 2 (s.rows (x * s.nb + y))]) (fun y => y ≤ s.nb) (fun y => s.nb - y) 0 ?_ (by omega) ?_
    · simp only [Int.natCast_zero, Int.add_zero, Nat.add_zero]
      exact (meets_id (by (repeat' apply And.intro) <;> first | rfl | trivial | (intro hh; cases hh)))
    intro y hy
    conv => whnf
    refine bD (fun h4 => ?_) (fun h4 => ?_)
    · conv => whnf
      have hk : x * s.nb ≤ 7 * 7 := Nat.mul_le_mul (by omega) n2
      have hsd := side_ij s x y (by omega)
      refine apI (by simp [AV.one]) (by rw [rows_len]; simp; omega) ?_
      (conv => whnf); (repeat' (first | (refine bT ?_; conv => whnf) | (refine bF ?_; conv => whnf) | (refine bN ?_) | (refine bD (fun hh => ?_) (fun hh => ?_) <;> first | (exfalso; omega) | (conv => whnf)) | (refine bEq (fun hh => ?_) (fun hh => ?_) <;> first | (exfalso; omega) | (conv => whnf)) | (refine bNe (fun hh => ?_) (fun hh => ?_) <;> first | (exfalso; omega) | (conv => whnf)) | (refine wIn (by omega) ?_; conv => whnf) | (refine nI (by omega) ?_; conv => whnf)))
      refine ⟨y + 1, ?_, by omega, by omega⟩
      have e : s.rows (x * s.nb + (y + 1)) = s.rows (x * s.nb + y) ++ [[.int .i64 (s.al + x), .int .i64 (s.sl + y)]] := by
        rw [← Nat.add_assoc, rows_succ, hsd]; rfl
      rw [e]
      simp only [Int.natCast_add, Int.natCast_one, ← Int.add_assoc]
      exact meets_ren 4 3 (by (repeat' apply And.intro) <;> first | rfl | trivial | (intro h; cases h))
    · conv => whnf
      refine wIn (by omega) ?_
      have : y = s.nb := by omega
      subst this
      refine ⟨x + 1, ?_, by omega, by omega⟩
      simp only [Int.natCast_add, Int.natCast_one, ← Int.add_assoc, Nat.add_mul, Nat.one_mul]
      exact (meets_id (by (repeat' apply And.intro) <;> first | rfl | trivial | (intro hh; cases hh)))
  · conv => whnf
    have : x = s.na := by omega
    subst this
    rfl
theorem k62 (a b : Int) : FnA Try.prog 62 [.int .i64 a, .int .i64 b] (· = .int .i64 (if a = b then 1 else if a = 0 then 2 else 3)) := by
  refine fnA 1 ok62 (by simp) ?_
  (conv => whnf); (repeat' (first | (refine bT ?_; conv => whnf) | (refine bF ?_; conv => whnf) | (refine bN ?_) | (refine bD (fun hh => ?_) (fun hh => ?_) <;> first | (exfalso; omega) | (conv => whnf)) | (refine bEq (fun hh => ?_) (fun hh => ?_) <;> first | (exfalso; omega) | (conv => whnf)) | (refine bNe (fun hh => ?_) (fun hh => ?_) <;> first | (exfalso; omega) | (conv => whnf)) | (refine wIn (by omega) ?_; conv => whnf) | (refine nI (by omega) ?_; conv => whnf)))
  all_goals (refine congrArg (AV.int .i64) ?_; split <;> (try split) <;> omega)
theorem k54 (f : Frm) (b : Bool) (hn : f.ss.length ≤ 1000) : FnA Try.prog 54 [.agg f.cells, .bool b] (· = .int .i64 (if f.ok then (if b then 0 else 1) else 10)) := by
  refine fnA 1 ok54 (by simp) ?_
  have k := k15 f (by omega)
  by_cases hok : f.ok
  · rw [if_pos hok] at k ⊢
    cases b
    · (conv => whnf); (repeat' (first | (refine bT ?_; conv => whnf) | (refine bF ?_; conv => whnf) | (refine bN ?_) | (refine bD (fun hh => ?_) (fun hh => ?_) <;> first | (exfalso; omega) | (conv => whnf)) | (refine bEq (fun hh => ?_) (fun hh => ?_) <;> first | (exfalso; omega) | (conv => whnf)) | (refine bNe (fun hh => ?_) (fun hh => ?_) <;> first | (exfalso; omega) | (conv => whnf)) | (refine (k).callq rfl rfl (fun r (hr : r = _) => ?_); subst hr; conv => whnf) | (refine wIn (by omega) ?_; conv => whnf) | (refine nI (by omega) ?_; conv => whnf)))
      all_goals rfl
    · (conv => whnf); (repeat' (first | (refine bT ?_; conv => whnf) | (refine bF ?_; conv => whnf) | (refine bN ?_) | (refine bD (fun hh => ?_) (fun hh => ?_) <;> first | (exfalso; omega) | (conv => whnf)) | (refine bEq (fun hh => ?_) (fun hh => ?_) <;> first | (exfalso; omega) | (conv => whnf)) | (refine bNe (fun hh => ?_) (fun hh => ?_) <;> first | (exfalso; omega) | (conv => whnf)) | (refine (k).callq rfl rfl (fun r (hr : r = _) => ?_); subst hr; conv => whnf) | (refine wIn (by omega) ?_; conv => whnf) | (refine nI (by omega) ?_; conv => whnf)))
      all_goals rfl
  · rw [if_neg hok] at k ⊢
    (conv => whnf); (repeat' (first | (refine bT ?_; conv => whnf) | (refine bF ?_; conv => whnf) | (refine bN ?_) | (refine bD (fun hh => ?_) (fun hh => ?_) <;> first | (exfalso; omega) | (conv => whnf)) | (refine bEq (fun hh => ?_) (fun hh => ?_) <;> first | (exfalso; omega) | (conv => whnf)) | (refine bNe (fun hh => ?_) (fun hh => ?_) <;> first | (exfalso; omega) | (conv => whnf)) | (refine (k).callq rfl rfl (fun r (hr : r = _) => ?_); subst hr; conv => whnf) | (refine wIn (by omega) ?_; conv => whnf) | (refine nI (by omega) ?_; conv => whnf)))
    all_goals rfl
theorem k36 (f : Frm) (i : Nat) (a t : Int) (hok : f.ok) (hi : i < f.ss.length) : FnA Try.prog 36 [.agg f.cells, .int .i64 i, .agg [.int .i64 a, .int .i64 t]] (· = .bool (decide (((f.sec i).al ≤ a ∧ a ≤ (f.sec i).ah) ∧ (f.sec i).sl ≤ t ∧ t ≤ (f.sec i).sh))) := by
  have hL : (f.ss.map Sec.av).length = f.ss.length := by simp
  refine fnA 3 ok36 (by simp) ?_
  (conv => whnf); (repeat' (first | (refine bT ?_; conv => whnf) | (refine bF ?_; conv => whnf) | (refine bN ?_) | (refine bD (fun hh => ?_) (fun hh => ?_) <;> first | (exfalso; omega) | (conv => whnf)) | (refine bEq (fun hh => ?_) (fun hh => ?_) <;> first | (exfalso; omega) | (conv => whnf)) | (refine bNe (fun hh => ?_) (fun hh => ?_) <;> first | (exfalso; omega) | (conv => whnf)) | (refine wIn (by omega) ?_; conv => whnf) | (refine nI (by omega) ?_; conv => whnf)))
  refine iaI (by omega) (by omega) (f.sec_get hi) ?_
  generalize hS : f.sec ((i : Int).toNat) = s
  have hS' : f.sec i = s := hS
  rw [hS']
  by_cases h : s.al ≤ a ∧ a ≤ s.ah
  · (conv => whnf); (repeat' (first | (refine bT ?_; conv => whnf) | (refine bF ?_; conv => whnf) | (refine bN ?_) | (refine bD (fun hh => ?_) (fun hh => ?_) <;> first | (exfalso; omega) | (conv => whnf)) | (refine bEq (fun hh => ?_) (fun hh => ?_) <;> first | (exfalso; omega) | (conv => whnf)) | (refine bNe (fun hh => ?_) (fun hh => ?_) <;> first | (exfalso; omega) | (conv => whnf)) | (refine (k50 _ _ _).callq rfl rfl (fun r (hr : r = _) => ?_); subst hr; conv => whnf) | (refine wIn (by omega) ?_; conv => whnf) | (refine nI (by omega) ?_; conv => whnf)))
    all_goals simp [h]
  · (conv => whnf); (repeat' (first | (refine bT ?_; conv => whnf) | (refine bF ?_; conv => whnf) | (refine bN ?_) | (refine bD (fun hh => ?_) (fun hh => ?_) <;> first | (exfalso; omega) | (conv => whnf)) | (refine bEq (fun hh => ?_) (fun hh => ?_) <;> first | (exfalso; omega) | (conv => whnf)) | (refine bNe (fun hh => ?_) (fun hh => ?_) <;> first | (exfalso; omega) | (conv => whnf)) | (refine (k50 _ _ _).callq rfl rfl (fun r (hr : r = _) => ?_); subst hr; conv => whnf) | (refine wIn (by omega) ?_; conv => whnf) | (refine nI (by omega) ?_; conv => whnf)))
    all_goals simp [h]
theorem k42 (n : Int) (b : Bool) : FnA Try.prog 42 [.int .i64 n, .bool b] (· = .bool (if n = 1 then b else if n = 2 then !b else decide (n = 3))) := by
  refine fnA 1 ok42 (by simp) ?_
  (conv => whnf); (repeat' (first | (refine bT ?_; conv => whnf) | (refine bF ?_; conv => whnf) | (refine bN ?_) | (refine bD (fun hh => ?_) (fun hh => ?_) <;> first | (exfalso; omega) | (conv => whnf)) | (refine bEq (fun hh => ?_) (fun hh => ?_) <;> first | (exfalso; omega) | (conv => whnf)) | (refine bNe (fun hh => ?_) (fun hh => ?_) <;> first | (exfalso; omega) | (conv => whnf)) | (refine wIn (by omega) ?_; conv => whnf) | (refine nI (by omega) ?_; conv => whnf)))
  all_goals (simp [*] <;> rfl)

def cnt (s : Sec) (P : Int → Int → Bool) (k : Nat) : Int := (((s.sides.take k).countP (fun q => P q.1 q.2) : Nat) : Int)
theorem cnt_zero (s : Sec) (P : Int → Int → Bool) : cnt s P 0 = 0 := by simp [cnt]
theorem cnt_succ {s : Sec} {P : Int → Int → Bool} {k : Nat} {q : Int × Int} (h : s.sides[k]? = some q) : cnt s P (k + 1) = if P q.1 q.2 then cnt s P k + 1 else cnt s P k := by
  obtain ⟨h1, rfl⟩ := List.getElem?_eq_some_iff.1 h
  unfold cnt
  rw [List.take_succ_eq_append_getElem h1, List.countP_append]
  simp only [List.countP_cons, List.countP_nil]
  split <;> simp
theorem cnt_bd (s : Sec) (P : Int → Int → Bool) (k : Nat) : 0 ≤ cnt s P k ∧ cnt s P k ≤ k := by
  unfold cnt
  have := List.countP_le_length (p := fun q : Int × Int => P q.1 q.2) (l := s.sides.take k)
  simp at this ⊢; omega
def Sec.n (s : Sec) : Nat := s.na * s.nb
theorem sides_n (s : Sec) : s.sides.length = s.n := by simp [Sec.sides, Sec.n]
theorem sides_rows (s : Sec) : (s.sides.map pairAV).length = s.n := by simp [sides_n]
theorem n_bd {s : Sec} (h : s.ok) : 1 ≤ s.n ∧ s.n ≤ 49 := by
  obtain ⟨_, _, h1, h2, h3, h4⟩ := nab h
  have h5 : 1 * 1 ≤ s.na * s.nb := Nat.mul_le_mul h3 h4
  have h6 : s.na * s.nb ≤ 7 * 7 := Nat.mul_le_mul h1 h2
  unfold Sec.n; omega
theorem cnt_knw {s : Sec} (h : s.ok) (P : Int → Int → Bool) : (if cnt s P s.n = (s.n : Int) then (1 : Int) else if cnt s P s.n = 0 then 2 else 3) = knw s P := by
  have hn := n_bd h
  have e : s.sides.take s.n = s.sides := List.take_of_length_le (by rw [sides_n]; omega)
  have hc : cnt s P s.n = ((s.sides.countP (fun q => P q.1 q.2) : Nat) : Int) := by unfold cnt; rw [e]
  rw [hc, ← sides_n]
  by_cases h1 : ∀ q ∈ s.sides, P q.1 q.2 = true
  · rw [(knw1 P).2 h1, if_pos]
    exact congrArg Nat.cast (List.countP_eq_length.2 h1)
  · have h2 : ¬ s.sides.countP (fun q => P q.1 q.2) = s.sides.length := fun h => h1 (List.countP_eq_length.1 h)
    rw [if_neg (by omega)]
    by_cases h3 : ∀ q ∈ s.sides, P q.1 q.2 = false
    · rw [(knw2 h P).2 h3, if_pos]
      exact congrArg Nat.cast (List.countP_eq_zero.2 fun q hq => by simp [h3 q hq])
    · have h4 : ¬ s.sides.countP (fun q => P q.1 q.2) = 0 := fun h => h3 fun q hq => by simpa using (List.countP_eq_zero.1 h) q hq
      rw [if_neg (by omega)]
      rcases knw_123 s P with h5 | h5 | h5
      · exact absurd ((knw1 P).1 h5) h1
      · exact absurd ((knw2 h P).1 h5) h3
      · exact h5.symm
theorem side_get (s : Sec) {k : Nat} (h : k < s.n) : ∃ q, s.sides[k]? = some q ∧ (s.sides.map pairAV).getD k [] = pairAV q := by
  have h' : k < s.sides.length := by rw [sides_n]; exact h
  exact ⟨s.sides[k], List.getElem?_eq_getElem h', getD_map pairAV s.sides k h'⟩
theorem side_b {s : Sec} (hok : s.ok) {q : Int × Int} (hq : q ∈ s.sides) : (1 ≤ q.1 ∧ q.1 ≤ 2000) ∧ 0 ≤ q.2 ∧ q.2 ≤ 2000 := by
  have hm := mem_sides.1 hq
  have h1 := hok.1
  have h2 := hok.2.1
  unfold okSpan at h1 h2
  omega
theorem k61 (f : Frm) (i : Nat) (r : Int) (hok : f.ok) (hi : i < f.ss.length) (h0 : 0 ≤ r) (h1 : r ≤ 2000) : FnA Try.prog 61 [.agg f.cells, .int .i64 i, .int .i64 r] (· = .tup [.int .i64 (cnt (f.sec i) (fun a t => f.bindsF i a t r) (f.sec i).n), .int .i64 (f.sec i).n]) := by
  have hs := Frm.sec_ok hok hi
  have hn := n_bd hs
  have hl := sides_rows (f.sec i)
  refine fnA 2 ok61 (by simp) ?_
  (conv => whnf); (repeat' (first | (refine bT ?_; conv => whnf) | (refine bF ?_; conv => whnf) | (refine bN ?_) | (refine bD (fun hh => ?_) (fun hh => ?_) <;> first | (exfalso; omega) | (conv => whnf)) | (refine bEq (fun hh => ?_) (fun hh => ?_) <;> first | (exfalso; omega) | (conv => whnf)) | (refine bNe (fun hh => ?_) (fun hh => ?_) <;> first | (exfalso; omega) | (conv => whnf)) | (refine (k44 f i hok hi).callzq rfl rfl (fun r (hr : r = _) => ?_); subst hr; conv => whnf) | (refine wIn (by omega) ?_; conv => whnf) | (refine nI (by omega) ?_; conv => whnf)))
  refine loop_i (α := Nat) (fun x => [(9, .int .i64 x), (8, .isl ((f.sec i).sides.map pairAV)), (6, .int .i64 (cnt (f.sec i) (fun a t => f.bindsF i a t r) x)), (3, .own 0 0), (1, .int .i64 i), (2, .int .i64 r)]) (fun x => [.box false f.cells, .fresh])
    (fun x => x ≤ (f.sec i).n) (fun x => (f.sec i).n - x) 0 ?_ (by omega) ?_
  · rw [cnt_zero]; exact (meets_id (by (repeat' apply And.intro) <;> first | rfl | trivial | (intro hh; cases hh)))
  intro k hk
  conv => whnf
  refine bD (fun h7 => ?_) (fun h7 => ?_)
  · conv => whnf
    obtain ⟨q, hq, hg⟩ := side_get (f.sec i) (k := k) (by omega)
    have hm := side_b hs (List.mem_of_getElem? hq)
    have hcs := cnt_succ (P := fun a t => f.bindsF i a t r) hq
    have hcb := cnt_bd (f.sec i) (fun a t => f.bindsF i a t r) k
    refine iaI (by omega) (by omega) hg ?_
    (conv => whnf); (repeat' (first | (refine bT ?_; conv => whnf) | (refine bF ?_; conv => whnf) | (refine bN ?_) | (refine bD (fun hh => ?_) (fun hh => ?_) <;> first | (exfalso; omega) | (conv => whnf)) | (refine bEq (fun hh => ?_) (fun hh => ?_) <;> first | (exfalso; omega) | (conv => whnf)) | (refine bNe (fun hh => ?_) (fun hh => ?_) <;> first | (exfalso; omega) | (conv => whnf)) | (refine (k41 f i r q.1 q.2 hok hi h0 h1 hm.1 hm.2).callq rfl rfl (fun r (hr : r = _) => ?_); subst hr; conv => whnf) | (refine wIn (by omega) ?_; conv => whnf) | (refine nI (by omega) ?_; conv => whnf) | (refine bS (fun hh => ?_) (fun hh => ?_) <;> (conv => whnf))))
    · rw [if_pos hh] at hcs
      refine ⟨k + 1, ?_, by omega, by omega⟩
      rw [hcs]; exact (meets_id (by (repeat' apply And.intro) <;> first | rfl | trivial | (intro hh; cases hh)))
    · rw [if_neg (by simp [hh])] at hcs
      refine ⟨k + 1, ?_, by omega, by omega⟩
      rw [hcs]; exact (meets_id (by (repeat' apply And.intro) <;> first | rfl | trivial | (intro hh; cases hh)))
  · have : k = (f.sec i).n := by omega
    subst this
    (conv => whnf); (repeat' (first | (refine bT ?_; conv => whnf) | (refine bF ?_; conv => whnf) | (refine bN ?_) | (refine bD (fun hh => ?_) (fun hh => ?_) <;> first | (exfalso; omega) | (conv => whnf)) | (refine bEq (fun hh => ?_) (fun hh => ?_) <;> first | (exfalso; omega) | (conv => whnf)) | (refine bNe (fun hh => ?_) (fun hh => ?_) <;> first | (exfalso; omega) | (conv => whnf)) | (refine wIn (by omega) ?_; conv => whnf) | (refine nI (by omega) ?_; conv => whnf)))
    rw [hl]
theorem k37 (f : Frm) (i : Nat) (a t : Int) (hok : f.ok) (hi : i < f.ss.length) (ha : 1 ≤ a ∧ a ≤ 2000) (ht : 0 ≤ t ∧ t ≤ 2000) : FnA Try.prog 37 [.agg f.cells, .int .i64 i, .agg [.int .i64 a, .int .i64 t]] (· = .bool (!f.smw i a t)) := by
  have hr := hok.2.2.2.1
  unfold okSpan at hr
  refine fnA 2 ok37 (by simp) ?_
  (conv => whnf); (repeat' (first | (refine bT ?_; conv => whnf) | (refine bF ?_; conv => whnf) | (refine bN ?_) | (refine bD (fun hh => ?_) (fun hh => ?_) <;> first | (exfalso; omega) | (conv => whnf)) | (refine bEq (fun hh => ?_) (fun hh => ?_) <;> first | (exfalso; omega) | (conv => whnf)) | (refine bNe (fun hh => ?_) (fun hh => ?_) <;> first | (exfalso; omega) | (conv => whnf)) | (refine wIn (by omega) ?_; conv => whnf) | (refine nI (by omega) ?_; conv => whnf)))
  refine loop_i (α := Nat) (fun x => [(7, .int .i64 (f.lo + x)), (5, .own 1 0), (3, .own 0 0), (1, .int .i64 i)]) (fun x => [.box false f.cells, .box false [.int .i64 a, .int .i64 t]])
    (fun x => x ≤ f.np ∧ ∀ r, f.lo ≤ r → r < f.lo + x → f.bindsF i a t r = false) (fun x => f.np - x) 0 ?_ ⟨by omega, fun r h1 h2 => by omega⟩ ?_
  · simp only [Int.natCast_zero, Int.add_zero]; exact (meets_id (by (repeat' apply And.intro) <;> first | rfl | trivial | (intro hh; cases hh)))
  rintro k ⟨hk, hb⟩
  have hnp : (f.np : Int) = f.hi + 1 - f.lo := by unfold Frm.np; omega
  conv => whnf
  refine bD (fun h7 => ?_) (fun h7 => ?_)
  · (conv => whnf); (repeat' (first | (refine bT ?_; conv => whnf) | (refine bF ?_; conv => whnf) | (refine bN ?_) | (refine bD (fun hh => ?_) (fun hh => ?_) <;> first | (exfalso; omega) | (conv => whnf)) | (refine bEq (fun hh => ?_) (fun hh => ?_) <;> first | (exfalso; omega) | (conv => whnf)) | (refine bNe (fun hh => ?_) (fun hh => ?_) <;> first | (exfalso; omega) | (conv => whnf)) | (refine (k41 f i (f.lo + k) a t hok hi (by omega) (by omega) ha ht).callq rfl rfl (fun r (hr : r = _) => ?_); subst hr; conv => whnf) | (refine wIn (by omega) ?_; conv => whnf) | (refine nI (by omega) ?_; conv => whnf) | (refine bS (fun hh => ?_) (fun hh => ?_) <;> (conv => whnf))))
    · have : f.smw i a t = true := smw_t.2 ⟨f.lo + k, mem_poss.2 (by omega), hh⟩
      rw [this]; rfl
    · refine ⟨k + 1, ?_, ⟨by omega, fun r h1 h2 => ?_⟩, by omega⟩
      · simp only [Int.natCast_add, Int.natCast_one, ← Int.add_assoc]; exact (meets_id (by (repeat' apply And.intro) <;> first | rfl | trivial | (intro hh; cases hh)))
      · by_cases hrk : r < f.lo + k
        · exact hb r h1 hrk
        · have : r = f.lo + k := by omega
          subst this; simpa using hh
  · have : f.smw i a t = false := smw_f.2 fun r hr => by
      have := mem_poss.1 hr
      exact hb r this.1 (by omega)
    rw [this]
    (conv => whnf); (repeat' (first | (refine bT ?_; conv => whnf) | (refine bF ?_; conv => whnf) | (refine bN ?_) | (refine bD (fun hh => ?_) (fun hh => ?_) <;> first | (exfalso; omega) | (conv => whnf)) | (refine bEq (fun hh => ?_) (fun hh => ?_) <;> first | (exfalso; omega) | (conv => whnf)) | (refine bNe (fun hh => ?_) (fun hh => ?_) <;> first | (exfalso; omega) | (conv => whnf)) | (refine wIn (by omega) ?_; conv => whnf) | (refine nI (by omega) ?_; conv => whnf)))
    all_goals rfl
theorem k66 (f : Frm) (i : Nat) (hok : f.ok) (hi : i < f.ss.length) : FnA Try.prog 66 [.agg f.cells, .int .i64 i] (· = .tup [.int .i64 (cnt (f.sec i) (fun a t => !f.smw i a t) (f.sec i).n), .int .i64 (f.sec i).n]) := by
  have hs := Frm.sec_ok hok hi
  have hn := n_bd hs
  have hl := sides_rows (f.sec i)
  refine fnA 2 ok66 (by simp) ?_
  (conv => whnf); (repeat' (first | (refine bT ?_; conv => whnf) | (refine bF ?_; conv => whnf) | (refine bN ?_) | (refine bD (fun hh => ?_) (fun hh => ?_) <;> first | (exfalso; omega) | (conv => whnf)) | (refine bEq (fun hh => ?_) (fun hh => ?_) <;> first | (exfalso; omega) | (conv => whnf)) | (refine bNe (fun hh => ?_) (fun hh => ?_) <;> first | (exfalso; omega) | (conv => whnf)) | (refine (k44 f i hok hi).callzq rfl rfl (fun r (hr : r = _) => ?_); subst hr; conv => whnf) | (refine wIn (by omega) ?_; conv => whnf) | (refine nI (by omega) ?_; conv => whnf)))
  refine loop_i (α := Nat) (fun x => [(7, .int .i64 x), (6, .isl ((f.sec i).sides.map pairAV)), (4, .int .i64 (cnt (f.sec i) (fun a t => !f.smw i a t) x)), (2, .own 0 0), (1, .int .i64 i)]) (fun x => [.box false f.cells, .fresh])
    (fun x => x ≤ (f.sec i).n) (fun x => (f.sec i).n - x) 0 ?_ (by omega) ?_
  · rw [cnt_zero]; exact (meets_id (by (repeat' apply And.intro) <;> first | rfl | trivial | (intro hh; cases hh)))
  intro k hk
  conv => whnf
  refine bD (fun h7 => ?_) (fun h7 => ?_)
  · conv => whnf
    obtain ⟨q, hq, hg⟩ := side_get (f.sec i) (k := k) (by omega)
    have hm := side_b hs (List.mem_of_getElem? hq)
    have hcs := cnt_succ (P := fun a t => !f.smw i a t) hq
    have hcb := cnt_bd (f.sec i) (fun a t => !f.smw i a t) k
    refine iaI (by omega) (by omega) hg ?_
    (conv => whnf); (repeat' (first | (refine bT ?_; conv => whnf) | (refine bF ?_; conv => whnf) | (refine bN ?_) | (refine bD (fun hh => ?_) (fun hh => ?_) <;> first | (exfalso; omega) | (conv => whnf)) | (refine bEq (fun hh => ?_) (fun hh => ?_) <;> first | (exfalso; omega) | (conv => whnf)) | (refine bNe (fun hh => ?_) (fun hh => ?_) <;> first | (exfalso; omega) | (conv => whnf)) | (refine (k37 f i q.1 q.2 hok hi hm.1 hm.2).callq rfl rfl (fun r (hr : r = _) => ?_); subst hr; conv => whnf) | (refine wIn (by omega) ?_; conv => whnf) | (refine nI (by omega) ?_; conv => whnf) | (refine bS (fun hh => ?_) (fun hh => ?_) <;> (conv => whnf))))
    · rw [if_neg (by simp [hh])] at hcs
      refine ⟨k + 1, ?_, by omega, by omega⟩
      rw [hcs]; exact (meets_id (by (repeat' apply And.intro) <;> first | rfl | trivial | (intro hh; cases hh)))
    · rw [if_pos (by simp [hh])] at hcs
      refine ⟨k + 1, ?_, by omega, by omega⟩
      rw [hcs]; exact (meets_id (by (repeat' apply And.intro) <;> first | rfl | trivial | (intro hh; cases hh)))
  · have : k = (f.sec i).n := by omega
    subst this
    (conv => whnf); (repeat' (first | (refine bT ?_; conv => whnf) | (refine bF ?_; conv => whnf) | (refine bN ?_) | (refine bD (fun hh => ?_) (fun hh => ?_) <;> first | (exfalso; omega) | (conv => whnf)) | (refine bEq (fun hh => ?_) (fun hh => ?_) <;> first | (exfalso; omega) | (conv => whnf)) | (refine bNe (fun hh => ?_) (fun hh => ?_) <;> first | (exfalso; omega) | (conv => whnf)) | (refine wIn (by omega) ?_; conv => whnf) | (refine nI (by omega) ?_; conv => whnf)))
    rw [hl]

theorem turn_f {f : Frm} {i : Nat} {a t : Int} : f.turn i a t = false ↔ ∀ r, f.lo < r → r ≤ f.hi → falls (f.dist i (r - 1)) (f.dist i r) a t = false := by
  unfold Frm.turn
  simp only [List.any_eq_false, Frm.turnF, mem_poss, Bool.and_eq_true, decide_eq_true_eq, not_and, Bool.not_eq_true]
  exact ⟨fun h r h1 h2 => h r ⟨by omega, h2⟩ h1, fun h r h1 h2 => h r h2 h1.2⟩
theorem turn_t {f : Frm} {i : Nat} {a t r : Int} (h1 : f.lo < r) (h2 : r ≤ f.hi) (h : falls (f.dist i (r - 1)) (f.dist i r) a t = true) : f.turn i a t = true := by
  unfold Frm.turn
  exact List.any_eq_true.2 ⟨r, mem_poss.2 ⟨by omega, h2⟩, by simp [Frm.turnF, h1, h]⟩
theorem falls_red {n r a t : Int} (hn : 1 ≤ n ∧ n ≤ 6000) (hr : 1 ≤ r ∧ r ≤ 6000) (ha : 1 ≤ a ∧ a ≤ 2000) (ht : 0 ≤ t ∧ t ≤ 2000) :
    falls n r a t = decide (redN (cosN r a t) (cosD r a) * redD (cosN n a t) (cosD n a) < redN (cosN n a t) (cosD n a) * redD (cosN r a t) (cosD r a)) := by
  have b1 := cos_bd2 hn ha ht
  have b2 := cos_bd2 hr ha ht
  unfold falls
  rw [decide_eq_true (show 0 < n by omega), decide_eq_true (show 0 < r by omega), Bool.true_and, Bool.true_and]
  refine decide_eq_decide.2 ?_
  rw [red_lt b2.2.1, red_gt b1.2.1]
theorem falls_z1 {n r a t : Int} (h : n = 0 ∨ r = 0) (hn : 0 ≤ n) (hr : 0 ≤ r) : falls n r a t = false := by
  unfold falls
  rcases h with h | h <;> subst h <;> simp
set_option maxHeartbeats 2000000 in
theorem k43 (f : Frm) (i : Nat) (a t : Int) (hok : f.ok) (hi : i < f.ss.length) (ha : 1 ≤ a ∧ a ≤ 2000) (ht : 0 ≤ t ∧ t ≤ 2000) : FnA Try.prog 43 [.agg f.cells, .int .i64 i, .agg [.int .i64 a, .int .i64 t]] (· = .bool (f.turn i a t)) := by
  have hr := hok.2.2.2.1
  unfold okSpan at hr
  refine fnA 4 ok43 (by simp) ?_
  (conv => whnf); (repeat' (first | (refine bT ?_; conv => whnf) | (refine bF ?_; conv => whnf) | (refine bN ?_) | (refine bD (fun hh => ?_) (fun hh => ?_) <;> first | (exfalso; omega) | (conv => whnf)) | (refine bEq (fun hh => ?_) (fun hh => ?_) <;> first | (exfalso; omega) | (conv => whnf)) | (refine bNe (fun hh => ?_) (fun hh => ?_) <;> first | (exfalso; omega) | (conv => whnf)) | (refine wIn (by omega) ?_; conv => whnf) | (refine nI (by omega) ?_; conv => whnf)))
  refine loop_i (α := Nat) (fun x => [(7, .int .i64 (f.lo + 1 + x)), (5, .own 1 0), (3, .own 0 0), (1, .int .i64 i)]) (fun x => [.box false f.cells, .box false [.int .i64 a, .int .i64 t], .fresh, .fresh])
    (fun x => x + 1 ≤ f.np ∧ ∀ r, f.lo < r → r < f.lo + 1 + x → falls (f.dist i (r - 1)) (f.dist i r) a t = false) (fun x => f.np - x) 0 ?_ ⟨by unfold Frm.np; omega, fun r h1 h2 => by omega⟩ ?_
  · simp only [Int.natCast_zero, Int.add_zero]; exact (meets_id (by (repeat' apply And.intro) <;> first | rfl | trivial | (intro hh; cases hh)))
  rintro k ⟨hk, hb⟩
  have hnp : (f.np : Int) = f.hi + 1 - f.lo := by unfold Frm.np; omega
  conv => whnf
  refine bD (fun h7 => ?_) (fun h7 => ?_)
  · have hd := Frm.dist_bd hok i (show 0 ≤ f.lo + 1 + k by omega) (by omega)
    have hd' := Frm.dist_bd hok i (show 0 ≤ f.lo + 1 + k - 1 by omega) (by omega)
    have k1 := k56 f (f.lo + 1 + k) hok (by omega) (by omega) i hi
    have k2 := k56 f (f.lo + 1 + k - 1) hok (by omega) (by omega) i hi
    have step : falls (f.dist i (f.lo + 1 + k - 1)) (f.dist i (f.lo + 1 + k)) a t = false → ∀ r, f.lo < r → r < f.lo + 1 + ((k + 1 : Nat) : Int) → falls (f.dist i (r - 1)) (f.dist i r) a t = false := fun h r h1 h2 => by
      by_cases hrk : r < f.lo + 1 + k
      · exact hb r h1 hrk
      · have : r = f.lo + 1 + k := by omega
        subst this; exact h
    have stop : falls (f.dist i (f.lo + 1 + k - 1)) (f.dist i (f.lo + 1 + k)) a t = true → f.turn i a t = true := fun h => turn_t (by omega) (by omega) h
    generalize hn : f.dist i (f.lo + 1 + k - 1) = n at *
    generalize hv : f.dist i (f.lo + 1 + k) = v at *
    by_cases hn0 : n = 0
    · have hz := falls_z1 (a := a) (t := t) (.inl hn0) hd'.1 hd.1
      subst hn0
      by_cases hv0 : v = 0
      · subst hv0
        (conv => whnf); (repeat' (first | (refine bT ?_; conv => whnf) | (refine bF ?_; conv => whnf) | (refine bN ?_) | (refine bD (fun hh => ?_) (fun hh => ?_) <;> first | (exfalso; omega) | (conv => whnf)) | (refine bEq (fun hh => ?_) (fun hh => ?_) <;> first | (exfalso; omega) | (conv => whnf)) | (refine bNe (fun hh => ?_) (fun hh => ?_) <;> first | (exfalso; omega) | (conv => whnf)) | (refine (k2).callq rfl rfl (fun r (hr : r = _) => ?_); subst hr; conv => whnf) | (refine (k1).callq rfl rfl (fun r (hr : r = _) => ?_); subst hr; conv => whnf) | (refine (k38z a t).callq rfl rfl (fun r (hr : r = _) => ?_); subst hr; conv => whnf) | (refine wIn (by omega) ?_; conv => whnf) | (refine nI (by omega) ?_; conv => whnf)))
        refine ⟨k + 1, ?_, ⟨by omega, step hz⟩, by omega⟩
        simp only [Int.natCast_add, Int.natCast_one, ← Int.add_assoc]; exact (meets_id (by (repeat' apply And.intro) <;> first | rfl | trivial | (intro hh; cases hh)))
      · (conv => whnf); (repeat' (first | (refine bT ?_; conv => whnf) | (refine bF ?_; conv => whnf) | (refine bN ?_) | (refine bD (fun hh => ?_) (fun hh => ?_) <;> first | (exfalso; omega) | (conv => whnf)) | (refine bEq (fun hh => ?_) (fun hh => ?_) <;> first | (exfalso; omega) | (conv => whnf)) | (refine bNe (fun hh => ?_) (fun hh => ?_) <;> first | (exfalso; omega) | (conv => whnf)) | (refine (k2).callq rfl rfl (fun r (hr : r = _) => ?_); subst hr; conv => whnf) | (refine (k1).callq rfl rfl (fun r (hr : r = _) => ?_); subst hr; conv => whnf) | (refine (k38z a t).callq rfl rfl (fun r (hr : r = _) => ?_); subst hr; conv => whnf) | (refine (k38 v a t (by omega) ha ht).callq rfl rfl (fun r (hr : r = _) => ?_); subst hr; conv => whnf) | (refine wIn (by omega) ?_; conv => whnf) | (refine nI (by omega) ?_; conv => whnf)))
        refine ⟨k + 1, ?_, ⟨by omega, step hz⟩, by omega⟩
        simp only [Int.natCast_add, Int.natCast_one, ← Int.add_assoc]; exact (meets_id (by (repeat' apply And.intro) <;> first | rfl | trivial | (intro hh; cases hh)))
    · by_cases hv0 : v = 0
      · have hz := falls_z1 (a := a) (t := t) (.inr hv0) hd'.1 hd.1
        subst hv0
        (conv => whnf); (repeat' (first | (refine bT ?_; conv => whnf) | (refine bF ?_; conv => whnf) | (refine bN ?_) | (refine bD (fun hh => ?_) (fun hh => ?_) <;> first | (exfalso; omega) | (conv => whnf)) | (refine bEq (fun hh => ?_) (fun hh => ?_) <;> first | (exfalso; omega) | (conv => whnf)) | (refine bNe (fun hh => ?_) (fun hh => ?_) <;> first | (exfalso; omega) | (conv => whnf)) | (refine (k2).callq rfl rfl (fun r (hr : r = _) => ?_); subst hr; conv => whnf) | (refine (k1).callq rfl rfl (fun r (hr : r = _) => ?_); subst hr; conv => whnf) | (refine (k38 n a t (by omega) ha ht).callq rfl rfl (fun r (hr : r = _) => ?_); subst hr; conv => whnf) | (refine (k38z a t).callq rfl rfl (fun r (hr : r = _) => ?_); subst hr; conv => whnf) | (refine wIn (by omega) ?_; conv => whnf) | (refine nI (by omega) ?_; conv => whnf)))
        refine ⟨k + 1, ?_, ⟨by omega, step hz⟩, by omega⟩
        simp only [Int.natCast_add, Int.natCast_one, ← Int.add_assoc]; exact (meets_id (by (repeat' apply And.intro) <;> first | rfl | trivial | (intro hh; cases hh)))
      · have hf := falls_red (n := n) (r := v) (a := a) (t := t) (by omega) (by omega) ha ht
        have b1 := cos_bd2 (d := n) (by omega) ha ht
        have b2 := cos_bd2 (d := v) (by omega) ha ht
        have c1 := red_bd b1.1 b1.2
        have c2 := red_bd b2.1 b2.2
        have m1 := mul_ab (a := redN (cosN v a t) (cosD v a)) 100000000 100000000 c2.1.1 c2.1.2 (show 0 ≤ redD (cosN n a t) (cosD n a) by omega) c1.2.2
        have m2 := mul_ab (a := redN (cosN n a t) (cosD n a)) 100000000 100000000 c1.1.1 c1.1.2 (show 0 ≤ redD (cosN v a t) (cosD v a) by omega) c2.2.2
        rw [hf] at step stop
        clear hf
        (conv => whnf); (repeat' (first | (refine bT ?_; conv => whnf) | (refine bF ?_; conv => whnf) | (refine bN ?_) | (refine bD (fun hh => ?_) (fun hh => ?_) <;> first | (exfalso; omega) | (conv => whnf)) | (refine bEq (fun hh => ?_) (fun hh => ?_) <;> first | (exfalso; omega) | (conv => whnf)) | (refine bNe (fun hh => ?_) (fun hh => ?_) <;> first | (exfalso; omega) | (conv => whnf)) | (refine (k2).callq rfl rfl (fun r (hr : r = _) => ?_); subst hr; conv => whnf) | (refine (k1).callq rfl rfl (fun r (hr : r = _) => ?_); subst hr; conv => whnf) | (refine (k38 n a t (by omega) ha ht).callq rfl rfl (fun r (hr : r = _) => ?_); subst hr; conv => whnf) | (refine (k38 v a t (by omega) ha ht).callq rfl rfl (fun r (hr : r = _) => ?_); subst hr; conv => whnf) | (refine (k40 (redN (cosN v a t) (cosD v a)) (redD (cosN v a t) (cosD v a)) (redN (cosN n a t) (cosD n a)) (redD (cosN n a t) (cosD n a)) (by omega) (by omega)).callq rfl rfl (fun r (hr : r = _) => ?_); subst hr; conv => whnf) | (refine wIn (by omega) ?_; conv => whnf) | (refine nI (by omega) ?_; conv => whnf)))
        · rw [stop (by simpa using hh)]
        · refine ⟨k + 1, ?_, ⟨by omega, step (by simpa using hh)⟩, by omega⟩
          simp only [Int.natCast_add, Int.natCast_one, ← Int.add_assoc]; exact (meets_id (by (repeat' apply And.intro) <;> first | rfl | trivial | (intro hh; cases hh)))
  · have : f.turn i a t = false := turn_f.2 fun r h1 h2 => hb r h1 (by omega)
    rw [this]
    (conv => whnf); (repeat' (first | (refine bT ?_; conv => whnf) | (refine bF ?_; conv => whnf) | (refine bN ?_) | (refine bD (fun hh => ?_) (fun hh => ?_) <;> first | (exfalso; omega) | (conv => whnf)) | (refine bEq (fun hh => ?_) (fun hh => ?_) <;> first | (exfalso; omega) | (conv => whnf)) | (refine bNe (fun hh => ?_) (fun hh => ?_) <;> first | (exfalso; omega) | (conv => whnf)) | (refine wIn (by omega) ?_; conv => whnf) | (refine nI (by omega) ?_; conv => whnf)))
    all_goals rfl

theorem k45t {f : Frm} {i : Int} (hn : f.ss.length ≤ 1000) (h : 0 ≤ i ∧ i < f.ss.length) : FnA Try.prog 45 [.agg f.cells, .int .i64 i] (· = .bool true) := by
  have := k45 f i hn; rwa [decide_eq_true h] at this
theorem k45f {f : Frm} {i : Int} (hn : f.ss.length ≤ 1000) (h : ¬(0 ≤ i ∧ i < f.ss.length)) : FnA Try.prog 45 [.agg f.cells, .int .i64 i] (· = .bool false) := by
  have := k45 f i hn; rwa [decide_eq_false h] at this
theorem k55t {f : Frm} {r : Int} (h : f.lo ≤ r ∧ r ≤ f.hi) : FnA Try.prog 55 [.agg f.cells, .int .i64 r] (· = .bool true) := by
  have := k55 f r; rwa [decide_eq_true h] at this
theorem k55f {f : Frm} {r : Int} (h : ¬(f.lo ≤ r ∧ r ≤ f.hi)) : FnA Try.prog 55 [.agg f.cells, .int .i64 r] (· = .bool false) := by
  have := k55 f r; rwa [decide_eq_false h] at this
theorem k54t {f : Frm} (hn : f.ss.length ≤ 1000) (h : f.ok) : FnA Try.prog 54 [.agg f.cells, .bool true] (· = .int .i64 0) := by
  have := k54 f true hn; rwa [if_pos h] at this
theorem k54f {f : Frm} (hn : f.ss.length ≤ 1000) (h : f.ok) : FnA Try.prog 54 [.agg f.cells, .bool false] (· = .int .i64 1) := by
  have := k54 f false hn; rwa [if_pos h] at this
theorem k54x {f : Frm} (hn : f.ss.length ≤ 1000) (b : Bool) (h : ¬ f.ok) : FnA Try.prog 54 [.agg f.cells, .bool b] (· = .int .i64 10) := by
  have := k54 f b hn; rwa [if_neg h] at this
theorem pos_no {f : Frm} {i r : Int} (h : ¬ f.ok) : f.pos i r = 10 := by unfold Frm.pos; rw [if_neg h]
theorem pos_one {f : Frm} {i r : Int} (h : f.ok) (h2 : ¬((0 ≤ i ∧ i < f.ss.length) ∧ f.lo ≤ r ∧ r ≤ f.hi)) : f.pos i r = 1 := by unfold Frm.pos; rw [if_pos h, if_neg h2]
theorem k17 (f : Frm) (i : Nat) (r : Int) (h : f.pos i r = 0) : FnA Try.prog 17 [.agg f.cells, .int .i64 i, .int .i64 r] (· = .tup [.int .i64 (f.dist i r), .int .i64 0]) := by
  obtain ⟨hok, hi, h1, h2, h3, h4⟩ := pos_ok h
  have hn := hok.2.1
  refine fnA 1 ok17 (by simp) ?_
  (conv => whnf); (repeat' (first | (refine bT ?_; conv => whnf) | (refine bF ?_; conv => whnf) | (refine bN ?_) | (refine bD (fun hh => ?_) (fun hh => ?_) <;> first | (exfalso; omega) | (conv => whnf)) | (refine bEq (fun hh => ?_) (fun hh => ?_) <;> first | (exfalso; omega) | (conv => whnf)) | (refine bNe (fun hh => ?_) (fun hh => ?_) <;> first | (exfalso; omega) | (conv => whnf)) | (refine (k45t (f := f) (by omega) hi).callq rfl rfl (fun r (hr : r = _) => ?_); subst hr; conv => whnf) | (refine (k55t ⟨h1, h2⟩).callq rfl rfl (fun r (hr : r = _) => ?_); subst hr; conv => whnf) | (refine (k54t (f := f) (by omega) hok).callq rfl rfl (fun r (hr : r = _) => ?_); subst hr; conv => whnf) | (refine (k56 f r hok (by omega) h4 i (by omega)).callq rfl rfl (fun r (hr : r = _) => ?_); subst hr; conv => whnf) | (refine wIn (by omega) ?_; conv => whnf) | (refine nI (by omega) ?_; conv => whnf)))
  all_goals rfl
theorem k17e (f : Frm) (i r : Int) (hn : f.ss.length ≤ 1000) (h : f.pos i r ≠ 0) : FnA Try.prog 17 [.agg f.cells, .int .i64 i, .int .i64 r] (· = .tup [.int .i64 0, .int .i64 (f.pos i r)]) := by
  refine fnA 1 ok17 (by simp) ?_
  by_cases hok : f.ok
  · by_cases hi : 0 ≤ i ∧ i < f.ss.length
    · have hr : ¬(f.lo ≤ r ∧ r ≤ f.hi) := fun hr => h (pos_zero hok hi hr)
      rw [pos_one hok fun hh => hr hh.2]
      (conv => whnf); (repeat' (first | (refine bT ?_; conv => whnf) | (refine bF ?_; conv => whnf) | (refine bN ?_) | (refine bD (fun hh => ?_) (fun hh => ?_) <;> first | (exfalso; omega) | (conv => whnf)) | (refine bEq (fun hh => ?_) (fun hh => ?_) <;> first | (exfalso; omega) | (conv => whnf)) | (refine bNe (fun hh => ?_) (fun hh => ?_) <;> first | (exfalso; omega) | (conv => whnf)) | (refine (k45t hn hi).callq rfl rfl (fun r (hr : r = _) => ?_); subst hr; conv => whnf) | (refine (k55f hr).callq rfl rfl (fun r (hr : r = _) => ?_); subst hr; conv => whnf) | (refine (k54f hn hok).callq rfl rfl (fun r (hr : r = _) => ?_); subst hr; conv => whnf) | (refine wIn (by omega) ?_; conv => whnf) | (refine nI (by omega) ?_; conv => whnf)))
      all_goals rfl
    · rw [pos_one hok fun hh => hi hh.1]
      (conv => whnf); (repeat' (first | (refine bT ?_; conv => whnf) | (refine bF ?_; conv => whnf) | (refine bN ?_) | (refine bD (fun hh => ?_) (fun hh => ?_) <;> first | (exfalso; omega) | (conv => whnf)) | (refine bEq (fun hh => ?_) (fun hh => ?_) <;> first | (exfalso; omega) | (conv => whnf)) | (refine bNe (fun hh => ?_) (fun hh => ?_) <;> first | (exfalso; omega) | (conv => whnf)) | (refine (k45f hn hi).callq rfl rfl (fun r (hr : r = _) => ?_); subst hr; conv => whnf) | (refine (k54f hn hok).callq rfl rfl (fun r (hr : r = _) => ?_); subst hr; conv => whnf) | (refine wIn (by omega) ?_; conv => whnf) | (refine nI (by omega) ?_; conv => whnf)))
      all_goals rfl
  · rw [pos_no hok]
    by_cases hi : 0 ≤ i ∧ i < f.ss.length
    · by_cases hr : f.lo ≤ r ∧ r ≤ f.hi
      · (conv => whnf); (repeat' (first | (refine bT ?_; conv => whnf) | (refine bF ?_; conv => whnf) | (refine bN ?_) | (refine bD (fun hh => ?_) (fun hh => ?_) <;> first | (exfalso; omega) | (conv => whnf)) | (refine bEq (fun hh => ?_) (fun hh => ?_) <;> first | (exfalso; omega) | (conv => whnf)) | (refine bNe (fun hh => ?_) (fun hh => ?_) <;> first | (exfalso; omega) | (conv => whnf)) | (refine (k45t hn hi).callq rfl rfl (fun r (hr : r = _) => ?_); subst hr; conv => whnf) | (refine (k55t hr).callq rfl rfl (fun r (hr : r = _) => ?_); subst hr; conv => whnf) | (refine (k54x hn _ hok).callq rfl rfl (fun r (hr : r = _) => ?_); subst hr; conv => whnf) | (refine wIn (by omega) ?_; conv => whnf) | (refine nI (by omega) ?_; conv => whnf)))
        all_goals rfl
      · (conv => whnf); (repeat' (first | (refine bT ?_; conv => whnf) | (refine bF ?_; conv => whnf) | (refine bN ?_) | (refine bD (fun hh => ?_) (fun hh => ?_) <;> first | (exfalso; omega) | (conv => whnf)) | (refine bEq (fun hh => ?_) (fun hh => ?_) <;> first | (exfalso; omega) | (conv => whnf)) | (refine bNe (fun hh => ?_) (fun hh => ?_) <;> first | (exfalso; omega) | (conv => whnf)) | (refine (k45t hn hi).callq rfl rfl (fun r (hr : r = _) => ?_); subst hr; conv => whnf) | (refine (k55f hr).callq rfl rfl (fun r (hr : r = _) => ?_); subst hr; conv => whnf) | (refine (k54x hn _ hok).callq rfl rfl (fun r (hr : r = _) => ?_); subst hr; conv => whnf) | (refine wIn (by omega) ?_; conv => whnf) | (refine nI (by omega) ?_; conv => whnf)))
        all_goals rfl
    · (conv => whnf); (repeat' (first | (refine bT ?_; conv => whnf) | (refine bF ?_; conv => whnf) | (refine bN ?_) | (refine bD (fun hh => ?_) (fun hh => ?_) <;> first | (exfalso; omega) | (conv => whnf)) | (refine bEq (fun hh => ?_) (fun hh => ?_) <;> first | (exfalso; omega) | (conv => whnf)) | (refine bNe (fun hh => ?_) (fun hh => ?_) <;> first | (exfalso; omega) | (conv => whnf)) | (refine (k45f hn hi).callq rfl rfl (fun r (hr : r = _) => ?_); subst hr; conv => whnf) | (refine (k54x hn _ hok).callq rfl rfl (fun r (hr : r = _) => ?_); subst hr; conv => whnf) | (refine wIn (by omega) ?_; conv => whnf) | (refine nI (by omega) ?_; conv => whnf)))
      all_goals rfl
theorem k21 (f : Frm) (i : Nat) (r : Int) (h : f.pos i r = 0) : FnA Try.prog 21 [.agg f.cells, .int .i64 i, .int .i64 r] (· = .tup [.int .i64 (f.bnd i r), .int .i64 0]) := by
  obtain ⟨hok, hi, h1, h2, h3, h4⟩ := pos_ok h
  have hn := hok.2.1
  have hi' : i < f.ss.length := by omega
  have hc : _ = f.bnd i r := cnt_knw (Frm.sec_ok hok hi') (fun a t => f.bindsF i a t r)
  refine fnA 1 ok21 (by simp) ?_
  rw [← hc]
  (conv => whnf); (repeat' (first | (refine bT ?_; conv => whnf) | (refine bF ?_; conv => whnf) | (refine bN ?_) | (refine bD (fun hh => ?_) (fun hh => ?_) <;> first | (exfalso; omega) | (conv => whnf)) | (refine bEq (fun hh => ?_) (fun hh => ?_) <;> first | (exfalso; omega) | (conv => whnf)) | (refine bNe (fun hh => ?_) (fun hh => ?_) <;> first | (exfalso; omega) | (conv => whnf)) | (refine (k45t (f := f) (by omega) hi).callq rfl rfl (fun r (hr : r = _) => ?_); subst hr; conv => whnf) | (refine (k55t ⟨h1, h2⟩).callq rfl rfl (fun r (hr : r = _) => ?_); subst hr; conv => whnf) | (refine (k54t (f := f) (by omega) hok).callq rfl rfl (fun r (hr : r = _) => ?_); subst hr; conv => whnf) | (refine (k61 f i r hok hi' (by omega) h4).callq rfl rfl (fun r (hr : r = _) => ?_); subst hr; conv => whnf) | (refine (k62 _ _).callq rfl rfl (fun r (hr : r = _) => ?_); subst hr; conv => whnf) | (refine wIn (by omega) ?_; conv => whnf) | (refine nI (by omega) ?_; conv => whnf)))
  all_goals rfl
theorem k21e (f : Frm) (i r : Int) (hn : f.ss.length ≤ 1000) (h : f.pos i r ≠ 0) : FnA Try.prog 21 [.agg f.cells, .int .i64 i, .int .i64 r] (· = .tup [.int .i64 0, .int .i64 (f.pos i r)]) := by
  refine fnA 1 ok21 (by simp) ?_
  by_cases hok : f.ok
  · by_cases hi : 0 ≤ i ∧ i < f.ss.length
    · have hr : ¬(f.lo ≤ r ∧ r ≤ f.hi) := fun hr => h (pos_zero hok hi hr)
      rw [pos_one hok fun hh => hr hh.2]
      (conv => whnf); (repeat' (first | (refine bT ?_; conv => whnf) | (refine bF ?_; conv => whnf) | (refine bN ?_) | (refine bD (fun hh => ?_) (fun hh => ?_) <;> first | (exfalso; omega) | (conv => whnf)) | (refine bEq (fun hh => ?_) (fun hh => ?_) <;> first | (exfalso; omega) | (conv => whnf)) | (refine bNe (fun hh => ?_) (fun hh => ?_) <;> first | (exfalso; omega) | (conv => whnf)) | (refine (k45t hn hi).callq rfl rfl (fun r (hr : r = _) => ?_); subst hr; conv => whnf) | (refine (k55f hr).callq rfl rfl (fun r (hr : r = _) => ?_); subst hr; conv => whnf) | (refine (k54f hn hok).callq rfl rfl (fun r (hr : r = _) => ?_); subst hr; conv => whnf) | (refine wIn (by omega) ?_; conv => whnf) | (refine nI (by omega) ?_; conv => whnf)))
      all_goals rfl
    · rw [pos_one hok fun hh => hi hh.1]
      (conv => whnf); (repeat' (first | (refine bT ?_; conv => whnf) | (refine bF ?_; conv => whnf) | (refine bN ?_) | (refine bD (fun hh => ?_) (fun hh => ?_) <;> first | (exfalso; omega) | (conv => whnf)) | (refine bEq (fun hh => ?_) (fun hh => ?_) <;> first | (exfalso; omega) | (conv => whnf)) | (refine bNe (fun hh => ?_) (fun hh => ?_) <;> first | (exfalso; omega) | (conv => whnf)) | (refine (k45f hn hi).callq rfl rfl (fun r (hr : r = _) => ?_); subst hr; conv => whnf) | (refine (k54f hn hok).callq rfl rfl (fun r (hr : r = _) => ?_); subst hr; conv => whnf) | (refine wIn (by omega) ?_; conv => whnf) | (refine nI (by omega) ?_; conv => whnf)))
      all_goals rfl
  · rw [pos_no hok]
    by_cases hi : 0 ≤ i ∧ i < f.ss.length
    · by_cases hr : f.lo ≤ r ∧ r ≤ f.hi
      · (conv => whnf); (repeat' (first | (refine bT ?_; conv => whnf) | (refine bF ?_; conv => whnf) | (refine bN ?_) | (refine bD (fun hh => ?_) (fun hh => ?_) <;> first | (exfalso; omega) | (conv => whnf)) | (refine bEq (fun hh => ?_) (fun hh => ?_) <;> first | (exfalso; omega) | (conv => whnf)) | (refine bNe (fun hh => ?_) (fun hh => ?_) <;> first | (exfalso; omega) | (conv => whnf)) | (refine (k45t hn hi).callq rfl rfl (fun r (hr : r = _) => ?_); subst hr; conv => whnf) | (refine (k55t hr).callq rfl rfl (fun r (hr : r = _) => ?_); subst hr; conv => whnf) | (refine (k54x hn _ hok).callq rfl rfl (fun r (hr : r = _) => ?_); subst hr; conv => whnf) | (refine wIn (by omega) ?_; conv => whnf) | (refine nI (by omega) ?_; conv => whnf)))
        all_goals rfl
      · (conv => whnf); (repeat' (first | (refine bT ?_; conv => whnf) | (refine bF ?_; conv => whnf) | (refine bN ?_) | (refine bD (fun hh => ?_) (fun hh => ?_) <;> first | (exfalso; omega) | (conv => whnf)) | (refine bEq (fun hh => ?_) (fun hh => ?_) <;> first | (exfalso; omega) | (conv => whnf)) | (refine bNe (fun hh => ?_) (fun hh => ?_) <;> first | (exfalso; omega) | (conv => whnf)) | (refine (k45t hn hi).callq rfl rfl (fun r (hr : r = _) => ?_); subst hr; conv => whnf) | (refine (k55f hr).callq rfl rfl (fun r (hr : r = _) => ?_); subst hr; conv => whnf) | (refine (k54x hn _ hok).callq rfl rfl (fun r (hr : r = _) => ?_); subst hr; conv => whnf) | (refine wIn (by omega) ?_; conv => whnf) | (refine nI (by omega) ?_; conv => whnf)))
        all_goals rfl
    · (conv => whnf); (repeat' (first | (refine bT ?_; conv => whnf) | (refine bF ?_; conv => whnf) | (refine bN ?_) | (refine bD (fun hh => ?_) (fun hh => ?_) <;> first | (exfalso; omega) | (conv => whnf)) | (refine bEq (fun hh => ?_) (fun hh => ?_) <;> first | (exfalso; omega) | (conv => whnf)) | (refine bNe (fun hh => ?_) (fun hh => ?_) <;> first | (exfalso; omega) | (conv => whnf)) | (refine (k45f hn hi).callq rfl rfl (fun r (hr : r = _) => ?_); subst hr; conv => whnf) | (refine (k54x hn _ hok).callq rfl rfl (fun r (hr : r = _) => ?_); subst hr; conv => whnf) | (refine wIn (by omega) ?_; conv => whnf) | (refine nI (by omega) ?_; conv => whnf)))
      all_goals rfl
theorem k19e (f : Frm) (i r : Int) (hn : f.ss.length ≤ 1000) (h : f.pos i r ≠ 0) : FnA Try.prog 19 [.agg f.cells, .int .i64 i, .int .i64 r] (· = .tup [fz, fz, .int .i64 (f.pos i r)]) := by
  refine fnA 5 ok19 (by simp) ?_
  by_cases hok : f.ok
  · by_cases hi : 0 ≤ i ∧ i < f.ss.length
    · have hr : ¬(f.lo ≤ r ∧ r ≤ f.hi) := fun hr => h (pos_zero hok hi hr)
      rw [pos_one hok fun hh => hr hh.2]
      (conv => whnf); (repeat' (first | (refine bT ?_; conv => whnf) | (refine bF ?_; conv => whnf) | (refine bN ?_) | (refine bD (fun hh => ?_) (fun hh => ?_) <;> first | (exfalso; omega) | (conv => whnf)) | (refine bEq (fun hh => ?_) (fun hh => ?_) <;> first | (exfalso; omega) | (conv => whnf)) | (refine bNe (fun hh => ?_) (fun hh => ?_) <;> first | (exfalso; omega) | (conv => whnf)) | (refine (k45t hn hi).callq rfl rfl (fun r (hr : r = _) => ?_); subst hr; conv => whnf) | (refine (k55f hr).callq rfl rfl (fun r (hr : r = _) => ?_); subst hr; conv => whnf) | (refine (k54f hn hok).callq rfl rfl (fun r (hr : r = _) => ?_); subst hr; conv => whnf) | (refine wIn (by omega) ?_; conv => whnf) | (refine nI (by omega) ?_; conv => whnf)))
      all_goals rfl
    · rw [pos_one hok fun hh => hi hh.1]
      (conv => whnf); (repeat' (first | (refine bT ?_; conv => whnf) | (refine bF ?_; conv => whnf) | (refine bN ?_) | (refine bD (fun hh => ?_) (fun hh => ?_) <;> first | (exfalso; omega) | (conv => whnf)) | (refine bEq (fun hh => ?_) (fun hh => ?_) <;> first | (exfalso; omega) | (conv => whnf)) | (refine bNe (fun hh => ?_) (fun hh => ?_) <;> first | (exfalso; omega) | (conv => whnf)) | (refine (k45f hn hi).callq rfl rfl (fun r (hr : r = _) => ?_); subst hr; conv => whnf) | (refine (k54f hn hok).callq rfl rfl (fun r (hr : r = _) => ?_); subst hr; conv => whnf) | (refine wIn (by omega) ?_; conv => whnf) | (refine nI (by omega) ?_; conv => whnf)))
      all_goals rfl
  · rw [pos_no hok]
    by_cases hi : 0 ≤ i ∧ i < f.ss.length
    · by_cases hr : f.lo ≤ r ∧ r ≤ f.hi
      · (conv => whnf); (repeat' (first | (refine bT ?_; conv => whnf) | (refine bF ?_; conv => whnf) | (refine bN ?_) | (refine bD (fun hh => ?_) (fun hh => ?_) <;> first | (exfalso; omega) | (conv => whnf)) | (refine bEq (fun hh => ?_) (fun hh => ?_) <;> first | (exfalso; omega) | (conv => whnf)) | (refine bNe (fun hh => ?_) (fun hh => ?_) <;> first | (exfalso; omega) | (conv => whnf)) | (refine (k45t hn hi).callq rfl rfl (fun r (hr : r = _) => ?_); subst hr; conv => whnf) | (refine (k55t hr).callq rfl rfl (fun r (hr : r = _) => ?_); subst hr; conv => whnf) | (refine (k54x hn _ hok).callq rfl rfl (fun r (hr : r = _) => ?_); subst hr; conv => whnf) | (refine wIn (by omega) ?_; conv => whnf) | (refine nI (by omega) ?_; conv => whnf)))
        all_goals rfl
      · (conv => whnf); (repeat' (first | (refine bT ?_; conv => whnf) | (refine bF ?_; conv => whnf) | (refine bN ?_) | (refine bD (fun hh => ?_) (fun hh => ?_) <;> first | (exfalso; omega) | (conv => whnf)) | (refine bEq (fun hh => ?_) (fun hh => ?_) <;> first | (exfalso; omega) | (conv => whnf)) | (refine bNe (fun hh => ?_) (fun hh => ?_) <;> first | (exfalso; omega) | (conv => whnf)) | (refine (k45t hn hi).callq rfl rfl (fun r (hr : r = _) => ?_); subst hr; conv => whnf) | (refine (k55f hr).callq rfl rfl (fun r (hr : r = _) => ?_); subst hr; conv => whnf) | (refine (k54x hn _ hok).callq rfl rfl (fun r (hr : r = _) => ?_); subst hr; conv => whnf) | (refine wIn (by omega) ?_; conv => whnf) | (refine nI (by omega) ?_; conv => whnf)))
        all_goals rfl
    · (conv => whnf); (repeat' (first | (refine bT ?_; conv => whnf) | (refine bF ?_; conv => whnf) | (refine bN ?_) | (refine bD (fun hh => ?_) (fun hh => ?_) <;> first | (exfalso; omega) | (conv => whnf)) | (refine bEq (fun hh => ?_) (fun hh => ?_) <;> first | (exfalso; omega) | (conv => whnf)) | (refine bNe (fun hh => ?_) (fun hh => ?_) <;> first | (exfalso; omega) | (conv => whnf)) | (refine (k45f hn hi).callq rfl rfl (fun r (hr : r = _) => ?_); subst hr; conv => whnf) | (refine (k54x hn _ hok).callq rfl rfl (fun r (hr : r = _) => ?_); subst hr; conv => whnf) | (refine wIn (by omega) ?_; conv => whnf) | (refine nI (by omega) ?_; conv => whnf)))
      all_goals rfl
theorem k28 (f : Frm) (i : Nat) (hok : f.ok) (hi : i < f.ss.length) : FnA Try.prog 28 [.agg f.cells, .int .i64 i] (· = .tup [.int .i64 (f.turnK i), .int .i64 0]) := by
  have hs := Frm.sec_ok hok hi
  have hn := n_bd hs
  have hl := sides_rows (f.sec i)
  have h3 := hok.2.1
  have hc : _ = f.turnK i := cnt_knw hs (f.turn i)
  refine fnA 3 ok28 (by simp) ?_
  rw [← hc]
  (conv => whnf); (repeat' (first | (refine bT ?_; conv => whnf) | (refine bF ?_; conv => whnf) | (refine bN ?_) | (refine bD (fun hh => ?_) (fun hh => ?_) <;> first | (exfalso; omega) | (conv => whnf)) | (refine bEq (fun hh => ?_) (fun hh => ?_) <;> first | (exfalso; omega) | (conv => whnf)) | (refine bNe (fun hh => ?_) (fun hh => ?_) <;> first | (exfalso; omega) | (conv => whnf)) | (refine (k45t (f := f) (by omega) (by omega)).callq rfl rfl (fun r (hr : r = _) => ?_); subst hr; conv => whnf) | (refine (k54t (f := f) (by omega) hok).callq rfl rfl (fun r (hr : r = _) => ?_); subst hr; conv => whnf) | (refine (k44 f i hok hi).callzq rfl rfl (fun r (hr : r = _) => ?_); subst hr; conv => whnf) | (refine wIn (by omega) ?_; conv => whnf) | (refine nI (by omega) ?_; conv => whnf)))
  refine loop_i (α := Nat) (fun x => [(9, .int .i64 x), (7, .isl ((f.sec i).sides.map pairAV)), (8, .int .i64 (cnt (f.sec i) (f.turn i) x)), (2, .own 0 0), (1, .int .i64 i)]) (fun x => [.box false f.cells, .fresh, .fresh])
    (fun x => x ≤ (f.sec i).n) (fun x => (f.sec i).n - x) 0 ?_ (by omega) ?_
  · rw [cnt_zero]; exact (meets_id (by (repeat' apply And.intro) <;> first | rfl | trivial | (intro hh; cases hh)))
  intro k hk
  conv => whnf
  refine bD (fun h7 => ?_) (fun h7 => ?_)
  · conv => whnf
    obtain ⟨q, hq, hg⟩ := side_get (f.sec i) (k := k) (by omega)
    have hm := side_b hs (List.mem_of_getElem? hq)
    have hcs := cnt_succ (P := f.turn i) hq
    have hcb := cnt_bd (f.sec i) (f.turn i) k
    refine iaI (by omega) (by omega) hg ?_
    (conv => whnf); (repeat' (first | (refine bT ?_; conv => whnf) | (refine bF ?_; conv => whnf) | (refine bN ?_) | (refine bD (fun hh => ?_) (fun hh => ?_) <;> first | (exfalso; omega) | (conv => whnf)) | (refine bEq (fun hh => ?_) (fun hh => ?_) <;> first | (exfalso; omega) | (conv => whnf)) | (refine bNe (fun hh => ?_) (fun hh => ?_) <;> first | (exfalso; omega) | (conv => whnf)) | (refine (k43 f i q.1 q.2 hok hi hm.1 hm.2).callq rfl rfl (fun r (hr : r = _) => ?_); subst hr; conv => whnf) | (refine wIn (by omega) ?_; conv => whnf) | (refine nI (by omega) ?_; conv => whnf) | (refine bS (fun hh => ?_) (fun hh => ?_) <;> (conv => whnf))))
    · rw [if_pos hh] at hcs
      refine ⟨k + 1, ?_, by omega, by omega⟩
      rw [hcs]; exact (meets_id (by (repeat' apply And.intro) <;> first | rfl | trivial | (intro hh; cases hh)))
    · rw [if_neg (by simp [hh])] at hcs
      refine ⟨k + 1, ?_, by omega, by omega⟩
      rw [hcs]; exact (meets_id (by (repeat' apply And.intro) <;> first | rfl | trivial | (intro hh; cases hh)))
  · have : k = (f.sec i).n := by omega
    subst this
    (conv => whnf); (repeat' (first | (refine bT ?_; conv => whnf) | (refine bF ?_; conv => whnf) | (refine bN ?_) | (refine bD (fun hh => ?_) (fun hh => ?_) <;> first | (exfalso; omega) | (conv => whnf)) | (refine bEq (fun hh => ?_) (fun hh => ?_) <;> first | (exfalso; omega) | (conv => whnf)) | (refine bNe (fun hh => ?_) (fun hh => ?_) <;> first | (exfalso; omega) | (conv => whnf)) | (refine (k62 _ _).callq rfl rfl (fun r (hr : r = _) => ?_); subst hr; conv => whnf) | (refine wIn (by omega) ?_; conv => whnf) | (refine nI (by omega) ?_; conv => whnf)))
    rw [hl]
theorem k28e (f : Frm) (i : Int) (hn : f.ss.length ≤ 1000) (h : ¬(f.ok ∧ 0 ≤ i ∧ i < f.ss.length)) : FnA Try.prog 28 [.agg f.cells, .int .i64 i] (· = .tup [.int .i64 0, .int .i64 (if f.ok then 1 else 10)]) := by
  refine fnA 3 ok28 (by simp) ?_
  by_cases hok : f.ok
  · rw [if_pos hok]
    have hi : ¬(0 ≤ i ∧ i < f.ss.length) := fun hi => h ⟨hok, hi⟩
    (conv => whnf); (repeat' (first | (refine bT ?_; conv => whnf) | (refine bF ?_; conv => whnf) | (refine bN ?_) | (refine bD (fun hh => ?_) (fun hh => ?_) <;> first | (exfalso; omega) | (conv => whnf)) | (refine bEq (fun hh => ?_) (fun hh => ?_) <;> first | (exfalso; omega) | (conv => whnf)) | (refine bNe (fun hh => ?_) (fun hh => ?_) <;> first | (exfalso; omega) | (conv => whnf)) | (refine (k45f hn hi).callq rfl rfl (fun r (hr : r = _) => ?_); subst hr; conv => whnf) | (refine (k54f hn hok).callq rfl rfl (fun r (hr : r = _) => ?_); subst hr; conv => whnf) | (refine wIn (by omega) ?_; conv => whnf) | (refine nI (by omega) ?_; conv => whnf)))
    all_goals rfl
  · rw [if_neg hok]
    by_cases hi : 0 ≤ i ∧ i < f.ss.length
    · (conv => whnf); (repeat' (first | (refine bT ?_; conv => whnf) | (refine bF ?_; conv => whnf) | (refine bN ?_) | (refine bD (fun hh => ?_) (fun hh => ?_) <;> first | (exfalso; omega) | (conv => whnf)) | (refine bEq (fun hh => ?_) (fun hh => ?_) <;> first | (exfalso; omega) | (conv => whnf)) | (refine bNe (fun hh => ?_) (fun hh => ?_) <;> first | (exfalso; omega) | (conv => whnf)) | (refine (k45t hn hi).callq rfl rfl (fun r (hr : r = _) => ?_); subst hr; conv => whnf) | (refine (k54x hn _ hok).callq rfl rfl (fun r (hr : r = _) => ?_); subst hr; conv => whnf) | (refine wIn (by omega) ?_; conv => whnf) | (refine nI (by omega) ?_; conv => whnf)))
      all_goals rfl
    · (conv => whnf); (repeat' (first | (refine bT ?_; conv => whnf) | (refine bF ?_; conv => whnf) | (refine bN ?_) | (refine bD (fun hh => ?_) (fun hh => ?_) <;> first | (exfalso; omega) | (conv => whnf)) | (refine bEq (fun hh => ?_) (fun hh => ?_) <;> first | (exfalso; omega) | (conv => whnf)) | (refine bNe (fun hh => ?_) (fun hh => ?_) <;> first | (exfalso; omega) | (conv => whnf)) | (refine (k45f hn hi).callq rfl rfl (fun r (hr : r = _) => ?_); subst hr; conv => whnf) | (refine (k54x hn _ hok).callq rfl rfl (fun r (hr : r = _) => ?_); subst hr; conv => whnf) | (refine wIn (by omega) ?_; conv => whnf) | (refine nI (by omega) ?_; conv => whnf)))
      all_goals rfl

theorem cnt0 {s : Sec} (h : s.ok) (P : Int → Int → Bool) : cnt s P s.n = 0 ↔ knw s P = 2 := by
  have := cnt_knw h P
  have hn := n_bd h
  rw [← this]
  constructor
  · intro h1; rw [if_neg (by omega), if_pos h1]
  · intro h1; split at h1
    · omega
    · split at h1 <;> omega
def Frm.freeK (f : Frm) (i : Nat) : Int := knw (f.sec i) (fun a t => !f.smw i a t)
theorem freeK2 {f : Frm} (hok : f.ok) {i : Nat} (hi : i < f.ss.length) : f.freeK i = 2 ↔ f.someK i = 1 := by
  unfold Frm.freeK Frm.someK
  rw [knw2 (Frm.sec_ok hok hi), knw1]; simp
theorem freeK1 {f : Frm} (hok : f.ok) {i : Nat} (hi : i < f.ss.length) : f.freeK i = 1 ↔ f.someK i = 2 := by
  unfold Frm.freeK Frm.someK
  rw [knw2 (Frm.sec_ok hok hi), knw1]; simp
theorem freeK_123 (f : Frm) (i : Nat) : f.freeK i = 1 ∨ f.freeK i = 2 ∨ f.freeK i = 3 := knw_123 _ _
theorem k62f {f : Frm} (hok : f.ok) {i : Nat} (hi : i < f.ss.length) : FnA Try.prog 62 [.int .i64 (cnt (f.sec i) (fun a t => !f.smw i a t) (f.sec i).n), .int .i64 (f.sec i).n] (· = .int .i64 (f.freeK i)) := by
  have := k62 (cnt (f.sec i) (fun a t => !f.smw i a t) (f.sec i).n) (f.sec i).n
  rwa [cnt_knw (Frm.sec_ok hok hi)] at this
theorem k15t {f : Frm} (hok : f.ok) : FnA Try.prog 15 [.agg f.cells] (· = .int .i64 0) := by
  have := k15 f (by have := hok.2.1; omega); rwa [if_pos hok] at this
theorem k15f {f : Frm} (hn : f.ss.length ≤ 1000) (hok : ¬ f.ok) : FnA Try.prog 15 [.agg f.cells] (· = .int .i64 10) := by
  have := k15 f (by omega); rwa [if_neg hok] at this
theorem k26 (f : Frm) (hok : f.ok) : FnA Try.prog 26 [.agg f.cells] (· = .tup [.int .i64 f.opens, .int .i64 0]) := by
  have hL : (f.ss.map Sec.av).length = f.ss.length := by simp
  have h3 := hok.2.1
  refine fnA 2 ok26 (by simp) ?_
  (conv => whnf); (repeat' (first | (refine bT ?_; conv => whnf) | (refine bF ?_; conv => whnf) | (refine bN ?_) | (refine bD (fun hh => ?_) (fun hh => ?_) <;> first | (exfalso; omega) | (conv => whnf)) | (refine bEq (fun hh => ?_) (fun hh => ?_) <;> first | (exfalso; omega) | (conv => whnf)) | (refine bNe (fun hh => ?_) (fun hh => ?_) <;> first | (exfalso; omega) | (conv => whnf)) | (refine (k15t hok).callq rfl rfl (fun r (hr : r = _) => ?_); subst hr; conv => whnf) | (refine wIn (by omega) ?_; conv => whnf) | (refine nI (by omega) ?_; conv => whnf)))
  refine loop_i (α := Nat × Int) (fun x => [(6, .int .i64 x.1), (5, .int .i64 x.2), (1, .own 0 0)]) (fun x => [.box false f.cells, .fresh])
    (fun x => x.1 ≤ f.ss.length ∧ (∀ j < x.1, f.someK j ≠ 1) ∧ (x.2 = 1 ∨ x.2 = 3) ∧ (x.2 = 1 ↔ ∀ j < x.1, f.someK j = 2)) (fun x => f.ss.length - x.1) (0, 1) (meets_id (by (repeat' apply And.intro) <;> first | rfl | trivial | (intro hh; cases hh))) ⟨by simp, by simp, by simp, by simp⟩ ?_
  rintro ⟨k, o⟩ ⟨h4, h5, h6, h6'⟩
  simp only at h4 h5 h6 h6'
  conv => whnf
  refine bD (fun h7 => ?_) (fun h7 => ?_)
  · have hk : k < f.ss.length := by omega
    have q1 := freeK1 hok hk
    have q2 := freeK2 hok hk
    have q3 := freeK_123 f k
    (conv => whnf); (repeat' (first | (refine bT ?_; conv => whnf) | (refine bF ?_; conv => whnf) | (refine bN ?_) | (refine bD (fun hh => ?_) (fun hh => ?_) <;> first | (exfalso; omega) | (conv => whnf)) | (refine bEq (fun hh => ?_) (fun hh => ?_) <;> first | (exfalso; omega) | (conv => whnf)) | (refine bNe (fun hh => ?_) (fun hh => ?_) <;> first | (exfalso; omega) | (conv => whnf)) | (refine (k66 f k hok hk).callq rfl rfl (fun r (hr : r = _) => ?_); subst hr; conv => whnf) | (refine (k62f hok hk).callq rfl rfl (fun r (hr : r = _) => ?_); subst hr; conv => whnf) | (refine wIn (by omega) ?_; conv => whnf) | (refine nI (by omega) ?_; conv => whnf)))
    · have : f.opens = 2 := opens2.2 ⟨k, hk, by omega⟩
      rw [this]
    · refine ⟨(k + 1, 3), (meets_id (by (repeat' apply And.intro) <;> first | rfl | trivial | (intro hh; cases hh))), ⟨by simp; omega, fun j hj => ?_, by simp, ?_⟩, by simp; omega⟩
      · by_cases h : j < k
        · exact h5 j h
        · have : j = k := by simp at hj; omega
          subst this; omega
      · simp only
        constructor
        · intro h; omega
        · intro h; have := h k (by omega); omega
    · refine ⟨(k + 1, o), (meets_id (by (repeat' apply And.intro) <;> first | rfl | trivial | (intro hh; cases hh))), ⟨by simp; omega, fun j hj => ?_, h6, ?_⟩, by simp; omega⟩
      · by_cases h : j < k
        · exact h5 j h
        · have : j = k := by simp at hj; omega
          subst this; omega
      · simp only
        rw [h6']
        constructor
        · intro h j hj
          by_cases h' : j < k
          · exact h j h'
          · have : j = k := by omega
            subst this; omega
        · intro h j hj; exact h j (by omega)
  · have hk : k = f.ss.length := by omega
    subst hk
    have : f.opens = o := by
      have q1 := @opens1 f
      have q2 := @opens2 f
      have q3 := opens_123 f
      have q4 : f.opens ≠ 2 := fun h => by obtain ⟨i, hi, h⟩ := q2.1 h; exact h5 i hi h
      rcases h6 with h | h
      · rw [h]; exact q1.2 (h6'.1 h)
      · have : f.opens ≠ 1 := fun h' => by have := h6'.2 (q1.1 h'); omega
        omega
    rw [this]
    (conv => whnf); (repeat' (first | (refine bT ?_; conv => whnf) | (refine bF ?_; conv => whnf) | (refine bN ?_) | (refine bD (fun hh => ?_) (fun hh => ?_) <;> first | (exfalso; omega) | (conv => whnf)) | (refine bEq (fun hh => ?_) (fun hh => ?_) <;> first | (exfalso; omega) | (conv => whnf)) | (refine bNe (fun hh => ?_) (fun hh => ?_) <;> first | (exfalso; omega) | (conv => whnf)) | (refine wIn (by omega) ?_; conv => whnf) | (refine nI (by omega) ?_; conv => whnf)))
    all_goals rfl
theorem k26e (f : Frm) (hn : f.ss.length ≤ 1000) (hok : ¬ f.ok) : FnA Try.prog 26 [.agg f.cells] (· = .tup [.int .i64 0, .int .i64 10]) := by
  refine fnA 2 ok26 (by simp) ?_
  (conv => whnf); (repeat' (first | (refine bT ?_; conv => whnf) | (refine bF ?_; conv => whnf) | (refine bN ?_) | (refine bD (fun hh => ?_) (fun hh => ?_) <;> first | (exfalso; omega) | (conv => whnf)) | (refine bEq (fun hh => ?_) (fun hh => ?_) <;> first | (exfalso; omega) | (conv => whnf)) | (refine bNe (fun hh => ?_) (fun hh => ?_) <;> first | (exfalso; omega) | (conv => whnf)) | (refine (k15f hn hok).callq rfl rfl (fun r (hr : r = _) => ?_); subst hr; conv => whnf) | (refine wIn (by omega) ?_; conv => whnf) | (refine nI (by omega) ?_; conv => whnf)))
  all_goals rfl
theorem k30 (f : Frm) (hok : f.ok) : FnA Try.prog 30 [.agg f.cells] (· = .tup [.isl (f.blame.map natAV), .int .i64 0]) := by
  have hL : (f.ss.map Sec.av).length = f.ss.length := by simp
  have h3 := hok.2.1
  refine fnA 4 ok30 (by simp) ?_
  (conv => whnf); (repeat' (first | (refine bT ?_; conv => whnf) | (refine bF ?_; conv => whnf) | (refine bN ?_) | (refine bD (fun hh => ?_) (fun hh => ?_) <;> first | (exfalso; omega) | (conv => whnf)) | (refine bEq (fun hh => ?_) (fun hh => ?_) <;> first | (exfalso; omega) | (conv => whnf)) | (refine bNe (fun hh => ?_) (fun hh => ?_) <;> first | (exfalso; omega) | (conv => whnf)) | (refine (k15t hok).callq rfl rfl (fun r (hr : r = _) => ?_); subst hr; conv => whnf) | (refine wIn (by omega) ?_; conv => whnf) | (refine nI (by omega) ?_; conv => whnf)))
  refine loop_i (α := Nat) (fun x => [(6, .int .i64 x), (5, .row 3), (1, .own 0 0)]) (fun x => [.box false f.cells, .fresh, .fresh, .row false 3 1 (((List.range x).filter (fun i => decide (f.someK i = 1))).map natAV)])
    (fun x => x ≤ f.ss.length) (fun x => f.ss.length - x) 0 (meets_nil 3 (by (repeat' apply And.intro) <;> first | rfl | trivial | (intro hh; cases hh))) (by simp) ?_
  intro k h4
  conv => whnf
  refine bD (fun h7 => ?_) (fun h7 => ?_)
  · have hk : k < f.ss.length := by omega
    have hra := range_filter k (fun i => decide (f.someK i = 1))
    have hc0 := cnt0 (Frm.sec_ok hok hk) (fun a t => !f.smw k a t)
    have hc1 := freeK2 hok hk
    have hc2 : f.freeK k = knw (f.sec k) (fun a t => !f.smw k a t) := rfl
    (conv => whnf); (repeat' (first | (refine bT ?_; conv => whnf) | (refine bF ?_; conv => whnf) | (refine bN ?_) | (refine bD (fun hh => ?_) (fun hh => ?_) <;> first | (exfalso; omega) | (conv => whnf)) | (refine bEq (fun hh => ?_) (fun hh => ?_) <;> first | (exfalso; omega) | (conv => whnf)) | (refine bNe (fun hh => ?_) (fun hh => ?_) <;> first | (exfalso; omega) | (conv => whnf)) | (refine (k66 f k hok hk).callq rfl rfl (fun r (hr : r = _) => ?_); subst hr; conv => whnf) | (refine wIn (by omega) ?_; conv => whnf) | (refine nI (by omega) ?_; conv => whnf)))
    · have hlen : ((List.range k).filter (fun i => decide (f.someK i = 1))).length ≤ k := by
        refine Nat.le_trans (List.length_filter_le _ _) ?_; simp
      refine apI (by simp [AV.one]) (by simp; omega) ?_
      (conv => whnf); (repeat' (first | (refine bT ?_; conv => whnf) | (refine bF ?_; conv => whnf) | (refine bN ?_) | (refine bD (fun hh => ?_) (fun hh => ?_) <;> first | (exfalso; omega) | (conv => whnf)) | (refine bEq (fun hh => ?_) (fun hh => ?_) <;> first | (exfalso; omega) | (conv => whnf)) | (refine bNe (fun hh => ?_) (fun hh => ?_) <;> first | (exfalso; omega) | (conv => whnf)) | (refine wIn (by omega) ?_; conv => whnf) | (refine nI (by omega) ?_; conv => whnf)))
      refine ⟨k + 1, ?_, by omega, by omega⟩
      have e : (((List.range (k + 1)).filter (fun i => decide (f.someK i = 1))).map natAV) = ((List.range k).filter (fun i => decide (f.someK i = 1))).map natAV ++ [[.int .i64 k]] := by
        rw [hra, if_pos (by simp only [decide_eq_true_eq]; omega)]; simp [natAV]
      rw [e]
      exact meets_ren 3 2 (by (repeat' apply And.intro) <;> first | rfl | trivial | (intro h; cases h))
    · refine ⟨k + 1, ?_, by omega, by omega⟩
      rw [hra, if_neg (by simp only [decide_eq_true_eq]; omega)]
      exact (meets_id (by (repeat' apply And.intro) <;> first | rfl | trivial | (intro hh; cases hh)))
  · have : k = f.ss.length := by omega
    subst this
    (conv => whnf); (repeat' (first | (refine bT ?_; conv => whnf) | (refine bF ?_; conv => whnf) | (refine bN ?_) | (refine bD (fun hh => ?_) (fun hh => ?_) <;> first | (exfalso; omega) | (conv => whnf)) | (refine bEq (fun hh => ?_) (fun hh => ?_) <;> first | (exfalso; omega) | (conv => whnf)) | (refine bNe (fun hh => ?_) (fun hh => ?_) <;> first | (exfalso; omega) | (conv => whnf)) | (refine wIn (by omega) ?_; conv => whnf) | (refine nI (by omega) ?_; conv => whnf)))
    all_goals rfl
theorem k30e (f : Frm) (hn : f.ss.length ≤ 1000) (hok : ¬ f.ok) : FnA Try.prog 30 [.agg f.cells] (· = .tup [.isl [], .int .i64 10]) := by
  refine fnA 2 ok30 (by simp) ?_
  (conv => whnf); (repeat' (first | (refine bT ?_; conv => whnf) | (refine bF ?_; conv => whnf) | (refine bN ?_) | (refine bD (fun hh => ?_) (fun hh => ?_) <;> first | (exfalso; omega) | (conv => whnf)) | (refine bEq (fun hh => ?_) (fun hh => ?_) <;> first | (exfalso; omega) | (conv => whnf)) | (refine bNe (fun hh => ?_) (fun hh => ?_) <;> first | (exfalso; omega) | (conv => whnf)) | (refine (k15f hn hok).callq rfl rfl (fun r (hr : r = _) => ?_); subst hr; conv => whnf) | (refine wIn (by omega) ?_; conv => whnf) | (refine nI (by omega) ?_; conv => whnf)))
  all_goals rfl
theorem k32 (f : Frm) (hok : f.ok) : FnA Try.prog 32 [.agg f.cells] (· = .tup [.int .i64 f.closes, .int .i64 0]) := by
  have hL : (f.ss.map Sec.av).length = f.ss.length := by simp
  have h3 := hok.2.1
  refine fnA 2 ok32 (by simp) ?_
  (conv => whnf); (repeat' (first | (refine bT ?_; conv => whnf) | (refine bF ?_; conv => whnf) | (refine bN ?_) | (refine bD (fun hh => ?_) (fun hh => ?_) <;> first | (exfalso; omega) | (conv => whnf)) | (refine bEq (fun hh => ?_) (fun hh => ?_) <;> first | (exfalso; omega) | (conv => whnf)) | (refine bNe (fun hh => ?_) (fun hh => ?_) <;> first | (exfalso; omega) | (conv => whnf)) | (refine (k15t hok).callq rfl rfl (fun r (hr : r = _) => ?_); subst hr; conv => whnf) | (refine wIn (by omega) ?_; conv => whnf) | (refine nI (by omega) ?_; conv => whnf)))
  refine loop_i (α := Nat) (fun x => [(7, .int .i64 x), (6, .int .i64 (mxh (f.ss.take x) 0)), (5, .int .i64 (mxl (f.ss.take x) 0)), (1, .own 0 0)]) (fun x => [.box false f.cells, .fresh])
    (fun x => x ≤ f.ss.length) (fun x => f.ss.length - x) 0 (meets_id (by (repeat' apply And.intro) <;> first | rfl | trivial | (intro hh; cases hh))) (by simp) ?_
  intro k h4
  conv => whnf
  refine bD (fun h7 => ?_) (fun h7 => ?_)
  · have hk : k < f.ss.length := by omega
    have e1 : mxl (f.ss.take (k + 1)) 0 = max (mxl (f.ss.take k) 0) (f.sec k).al := by
      rw [List.take_succ_eq_append_getElem hk, mxl, List.foldl_append, Frm.sec_eq hk]; rfl
    have e2 : mxh (f.ss.take (k + 1)) 0 = max (mxh (f.ss.take k) 0) (f.sec k).ah := by
      rw [List.take_succ_eq_append_getElem hk, mxh, List.foldl_append, Frm.sec_eq hk]; rfl
    (conv => whnf); (repeat' (first | (refine bT ?_; conv => whnf) | (refine bF ?_; conv => whnf) | (refine bN ?_) | (refine bD (fun hh => ?_) (fun hh => ?_) <;> first | (exfalso; omega) | (conv => whnf)) | (refine bEq (fun hh => ?_) (fun hh => ?_) <;> first | (exfalso; omega) | (conv => whnf)) | (refine bNe (fun hh => ?_) (fun hh => ?_) <;> first | (exfalso; omega) | (conv => whnf)) | (refine wIn (by omega) ?_; conv => whnf) | (refine nI (by omega) ?_; conv => whnf)))
    refine iaI (by omega) (by omega) (f.sec_get hk) ?_
    (conv => whnf); (repeat' (first | (refine bT ?_; conv => whnf) | (refine bF ?_; conv => whnf) | (refine bN ?_) | (refine bD (fun hh => ?_) (fun hh => ?_) <;> first | (exfalso; omega) | (conv => whnf)) | (refine bEq (fun hh => ?_) (fun hh => ?_) <;> first | (exfalso; omega) | (conv => whnf)) | (refine bNe (fun hh => ?_) (fun hh => ?_) <;> first | (exfalso; omega) | (conv => whnf)) | (refine wIn (by omega) ?_; conv => whnf) | (refine nI (by omega) ?_; conv => whnf)))
    refine iaI (by omega) (by omega) (f.sec_get hk) ?_
    (conv => whnf); (repeat' (first | (refine bT ?_; conv => whnf) | (refine bF ?_; conv => whnf) | (refine bN ?_) | (refine bD (fun hh => ?_) (fun hh => ?_) <;> first | (exfalso; omega) | (conv => whnf)) | (refine bEq (fun hh => ?_) (fun hh => ?_) <;> first | (exfalso; omega) | (conv => whnf)) | (refine bNe (fun hh => ?_) (fun hh => ?_) <;> first | (exfalso; omega) | (conv => whnf)) | (refine wIn (by omega) ?_; conv => whnf) | (refine nI (by omega) ?_; conv => whnf)))
    refine ⟨k + 1, ?_, by omega, by omega⟩
    rw [e1, e2]
    exact (meets_id (by (repeat' apply And.intro) <;> first | rfl | trivial | (intro hh; cases hh)))
  · have : k = f.ss.length := by omega
    subst this
    have hb := mx_bd hok.2.2.1 (a := 0) (b := 0) (by omega) (by omega)
    have hr := hok.2.2.2.2.2
    rw [List.take_length]
    unfold Frm.closes
    by_cases hA : f.rod + mxh f.ss 0 ≤ f.cs
    · rw [if_pos hA]
      (conv => whnf); (repeat' (first | (refine bT ?_; conv => whnf) | (refine bF ?_; conv => whnf) | (refine bN ?_) | (refine bD (fun hh => ?_) (fun hh => ?_) <;> first | (exfalso; omega) | (conv => whnf)) | (refine bEq (fun hh => ?_) (fun hh => ?_) <;> first | (exfalso; omega) | (conv => whnf)) | (refine bNe (fun hh => ?_) (fun hh => ?_) <;> first | (exfalso; omega) | (conv => whnf)) | (refine wIn (by omega) ?_; conv => whnf) | (refine nI (by omega) ?_; conv => whnf)))
      all_goals rfl
    · rw [if_neg hA]
      by_cases hB : f.rod + mxl f.ss 0 ≤ f.cs
      · rw [if_pos hB]
        (conv => whnf); (repeat' (first | (refine bT ?_; conv => whnf) | (refine bF ?_; conv => whnf) | (refine bN ?_) | (refine bD (fun hh => ?_) (fun hh => ?_) <;> first | (exfalso; omega) | (conv => whnf)) | (refine bEq (fun hh => ?_) (fun hh => ?_) <;> first | (exfalso; omega) | (conv => whnf)) | (refine bNe (fun hh => ?_) (fun hh => ?_) <;> first | (exfalso; omega) | (conv => whnf)) | (refine wIn (by omega) ?_; conv => whnf) | (refine nI (by omega) ?_; conv => whnf)))
        all_goals rfl
      · rw [if_neg hB]
        (conv => whnf); (repeat' (first | (refine bT ?_; conv => whnf) | (refine bF ?_; conv => whnf) | (refine bN ?_) | (refine bD (fun hh => ?_) (fun hh => ?_) <;> first | (exfalso; omega) | (conv => whnf)) | (refine bEq (fun hh => ?_) (fun hh => ?_) <;> first | (exfalso; omega) | (conv => whnf)) | (refine bNe (fun hh => ?_) (fun hh => ?_) <;> first | (exfalso; omega) | (conv => whnf)) | (refine wIn (by omega) ?_; conv => whnf) | (refine nI (by omega) ?_; conv => whnf)))
        all_goals rfl
theorem k32e (f : Frm) (hn : f.ss.length ≤ 1000) (hok : ¬ f.ok) : FnA Try.prog 32 [.agg f.cells] (· = .tup [.int .i64 0, .int .i64 10]) := by
  refine fnA 2 ok32 (by simp) ?_
  (conv => whnf); (repeat' (first | (refine bT ?_; conv => whnf) | (refine bF ?_; conv => whnf) | (refine bN ?_) | (refine bD (fun hh => ?_) (fun hh => ?_) <;> first | (exfalso; omega) | (conv => whnf)) | (refine bEq (fun hh => ?_) (fun hh => ?_) <;> first | (exfalso; omega) | (conv => whnf)) | (refine bNe (fun hh => ?_) (fun hh => ?_) <;> first | (exfalso; omega) | (conv => whnf)) | (refine (k15f hn hok).callq rfl rfl (fun r (hr : r = _) => ?_); subst hr; conv => whnf) | (refine wIn (by omega) ?_; conv => whnf) | (refine nI (by omega) ?_; conv => whnf)))
  all_goals rfl
theorem k24 (f : Frm) (hok : f.ok) : FnA Try.prog 24 [.agg f.cells] (· = f.firstAV) := by
  have hL : (f.ss.map Sec.av).length = f.ss.length := by simp
  have h3 := hok.2.1
  have h1 := hok.2.2.2.1
  unfold okSpan at h1
  have hnp : (f.np : Int) = f.hi + 1 - f.lo := by unfold Frm.np; omega
  refine fnA 2 ok24 (by simp) ?_
  (conv => whnf); (repeat' (first | (refine bT ?_; conv => whnf) | (refine bF ?_; conv => whnf) | (refine bN ?_) | (refine bD (fun hh => ?_) (fun hh => ?_) <;> first | (exfalso; omega) | (conv => whnf)) | (refine bEq (fun hh => ?_) (fun hh => ?_) <;> first | (exfalso; omega) | (conv => whnf)) | (refine bNe (fun hh => ?_) (fun hh => ?_) <;> first | (exfalso; omega) | (conv => whnf)) | (refine (k15t hok).callq rfl rfl (fun r (hr : r = _) => ?_); subst hr; conv => whnf) | (refine wIn (by omega) ?_; conv => whnf) | (refine nI (by omega) ?_; conv => whnf)))
  refine loop_i (α := Nat) (fun x => [(6, .int .i64 (f.hi - x)), (1, .own 0 0)]) (fun x => [.box false f.cells, .fresh])
    (fun x => x ≤ f.np ∧ ∀ r ∈ f.poss.take x, f.firstS r = none) (fun x => f.np - x) 0 ?_ ⟨by simp, by simp⟩ ?_
  · simp only [Int.natCast_zero, Int.sub_zero]; exact (meets_id (by (repeat' apply And.intro) <;> first | rfl | trivial | (intro hh; cases hh)))
  rintro k ⟨hk, h2⟩
  conv => whnf
  refine bD (fun h7 => ?_) (fun h7 => ?_)
  · conv => whnf
    have hr : f.poss[k]? = some (f.hi - k) := by
      have : k < f.np := by omega
      simp [Frm.poss, this]
    refine loop_i (α := Nat) (fun x => [(7, .int .i64 x), (6, .int .i64 (f.hi - k)), (1, .own 0 0)]) (fun x => [.box false f.cells, .fresh])
      (fun x => x ≤ f.ss.length ∧ ∀ i < x, f.bnd i (f.hi - k) = 2) (fun x => f.ss.length - x) 0 (meets_id (by (repeat' apply And.intro) <;> first | rfl | trivial | (intro hh; cases hh))) ⟨by simp, by simp⟩ ?_
    rintro n ⟨h4, h5⟩
    conv => whnf
    refine bD (fun h8 => ?_) (fun h8 => ?_)
    · have hn : n < f.ss.length := by omega
      have hc0 : _ ↔ f.bnd n (f.hi - k) = 2 := cnt0 (Frm.sec_ok hok hn) (fun a t => f.bindsF n a t (f.hi - k))
      have hcb := cnt_bd (f.sec n) (fun a t => f.bindsF n a t (f.hi - k)) (f.sec n).n
      (conv => whnf); (repeat' (first | (refine bT ?_; conv => whnf) | (refine bF ?_; conv => whnf) | (refine bN ?_) | (refine bD (fun hh => ?_) (fun hh => ?_) <;> first | (exfalso; omega) | (conv => whnf)) | (refine bEq (fun hh => ?_) (fun hh => ?_) <;> first | (exfalso; omega) | (conv => whnf)) | (refine bNe (fun hh => ?_) (fun hh => ?_) <;> first | (exfalso; omega) | (conv => whnf)) | (refine (k61 f n (f.hi - k) hok hn (by omega) (by omega)).callq rfl rfl (fun r (hr : r = _) => ?_); subst hr; conv => whnf) | (refine wIn (by omega) ?_; conv => whnf) | (refine nI (by omega) ?_; conv => whnf)))
      · have hS : f.firstS (f.hi - k) = some n := find_some hn (fun i hi => by simp [h5 i hi]) (by simp only [ne_eq, decide_eq_true_eq]; omega)
        have : f.first = some (n, f.hi - k) := findSome_at hr (fun x hx => by simp [h2 x hx]) (by simp [hS])
        unfold Frm.firstAV; rw [this]
      · refine ⟨n + 1, (meets_id (by (repeat' apply And.intro) <;> first | rfl | trivial | (intro hh; cases hh))), ⟨by omega, fun i hi => ?_⟩, by omega⟩
        by_cases hin : i < n
        · exact h5 i hin
        · have : i = n := by omega
          subst this; omega
    · have hn : n = f.ss.length := by omega
      subst hn
      have hS : f.firstS (f.hi - k) = none := find_none (fun i hi => by simp [h5 i hi])
      (conv => whnf); (repeat' (first | (refine bT ?_; conv => whnf) | (refine bF ?_; conv => whnf) | (refine bN ?_) | (refine bD (fun hh => ?_) (fun hh => ?_) <;> first | (exfalso; omega) | (conv => whnf)) | (refine bEq (fun hh => ?_) (fun hh => ?_) <;> first | (exfalso; omega) | (conv => whnf)) | (refine bNe (fun hh => ?_) (fun hh => ?_) <;> first | (exfalso; omega) | (conv => whnf)) | (refine wIn (by omega) ?_; conv => whnf) | (refine nI (by omega) ?_; conv => whnf)))
      refine ⟨k + 1, ?_, ⟨by omega, all_take (List.getElem?_eq_some_iff.1 hr).1 h2 (by rw [(List.getElem?_eq_some_iff.1 hr).2]; exact hS)⟩, by omega⟩
      simp only [Int.natCast_add, Int.natCast_one, ← Int.sub_sub]; exact (meets_id (by (repeat' apply And.intro) <;> first | rfl | trivial | (intro hh; cases hh)))
  · have : f.first = none := by
      have e : f.poss.take k = f.poss := List.take_of_length_le (by simp [Frm.poss]; omega)
      rw [e] at h2
      exact List.findSome?_eq_none_iff.2 (fun x hx => by simp [h2 x hx])
    unfold Frm.firstAV; rw [this]
    (conv => whnf); (repeat' (first | (refine bT ?_; conv => whnf) | (refine bF ?_; conv => whnf) | (refine bN ?_) | (refine bD (fun hh => ?_) (fun hh => ?_) <;> first | (exfalso; omega) | (conv => whnf)) | (refine bEq (fun hh => ?_) (fun hh => ?_) <;> first | (exfalso; omega) | (conv => whnf)) | (refine bNe (fun hh => ?_) (fun hh => ?_) <;> first | (exfalso; omega) | (conv => whnf)) | (refine wIn (by omega) ?_; conv => whnf) | (refine nI (by omega) ?_; conv => whnf)))
    all_goals rfl
theorem k24e (f : Frm) (hn : f.ss.length ≤ 1000) (hok : ¬ f.ok) : FnA Try.prog 24 [.agg f.cells] (· = .tup [.int .i64 0, .int .i64 0, .int .i64 10]) := by
  refine fnA 5 ok24 (by simp) ?_
  (conv => whnf); (repeat' (first | (refine bT ?_; conv => whnf) | (refine bF ?_; conv => whnf) | (refine bN ?_) | (refine bD (fun hh => ?_) (fun hh => ?_) <;> first | (exfalso; omega) | (conv => whnf)) | (refine bEq (fun hh => ?_) (fun hh => ?_) <;> first | (exfalso; omega) | (conv => whnf)) | (refine bNe (fun hh => ?_) (fun hh => ?_) <;> first | (exfalso; omega) | (conv => whnf)) | (refine (k15f hn hok).callq rfl rfl (fun r (hr : r = _) => ?_); subst hr; conv => whnf) | (refine wIn (by omega) ?_; conv => whnf) | (refine nI (by omega) ?_; conv => whnf)))
  all_goals rfl

def cini (s : Sec) (d : Int) : FF := ((cosN d s.al s.sl, cosD d s.al), (cosN d s.al s.sl, cosD d s.al))
def cpart (s : Sec) (d : Int) (k : Nat) : FF := (s.sides.take k).foldl (cstep d) (cini s d)
theorem cpart_succ {s : Sec} {d : Int} {k : Nat} {q : Int × Int} (h : s.sides[k]? = some q) : cpart s d (k + 1) = cstep d (cpart s d k) q := by
  obtain ⟨hk, rfl⟩ := List.getElem?_eq_some_iff.1 h
  unfold cpart
  rw [List.take_succ_eq_append_getElem hk, List.foldl_append]; rfl
theorem side_zero {s : Sec} (hok : s.ok) : s.sides[0]? = some (s.al, s.sl) := by
  have hn := n_bd hok
  have h : 0 < s.na * s.nb := hn.1
  simp [Sec.sides, h, Sec.side]
def bdF (q : Int × Int) : Prop := (-100000000 ≤ q.1 ∧ q.1 ≤ 100000000) ∧ 1 ≤ q.2 ∧ q.2 ≤ 100000000
theorem cpart_bd {s : Sec} (hok : s.ok) {d : Int} (hd : 1 ≤ d ∧ d ≤ 6000) : ∀ k, bdF (cpart s d k).1 ∧ bdF (cpart s d k).2
  | 0 => by
    have := cos_rbd hok hd (fst_side hok)
    exact ⟨this, this⟩
  | k + 1 => by
    have ih := cpart_bd hok hd k
    cases h : s.sides[k]? with
    | none =>
      have : cpart s d (k + 1) = cpart s d k := by
        have h' : s.sides.length ≤ k := List.getElem?_eq_none_iff.1 h
        unfold cpart; rw [List.take_of_length_le (by omega), List.take_of_length_le h']
      rw [this]; exact ih
    | some q =>
      rw [cpart_succ h]
      have := cos_rbd hok hd (List.mem_of_getElem? h)
      unfold cstep
      constructor
      · simp only; split
        · exact this
        · exact ih.1
      · simp only; split
        · exact this
        · exact ih.2
theorem cpart_all (s : Sec) (d : Int) : cpart s d s.n = cosF s d := by
  unfold cpart; rw [List.take_of_length_le (by rw [sides_n]; omega)]; rfl
theorem cpart_one {s : Sec} (hok : s.ok) (d : Int) : cpart s d 1 = cini s d := by
  rw [cpart_succ (side_zero hok)]
  simp [cpart, cini, cstep]
theorem k19 (f : Frm) (i : Nat) (r : Int) (h : f.pos i r = 0) : FnA Try.prog 19 [.agg f.cells, .int .i64 i, .int .i64 r] (· = if f.dist i r = 0 then .tup [fz, fz, .int .i64 3] else .tup [fr (cosF (f.sec i) (f.dist i r)).1, fr (cosF (f.sec i) (f.dist i r)).2, .int .i64 0]) := by
  obtain ⟨hok, hi, h1, h2, h3, h4⟩ := pos_ok h
  have h0 := hok.2.1
  have hi' : i < f.ss.length := by omega
  have hs := Frm.sec_ok hok hi'
  have hn := n_bd hs
  have hl := sides_rows (f.sec i)
  have hd := Frm.dist_bd hok i (show 0 ≤ r by omega) h4
  have kd := k56 f r hok (by omega) h4 i hi'
  refine fnA 5 ok19 (by simp) ?_
  (conv => whnf); (repeat' (first | (refine bT ?_; conv => whnf) | (refine bF ?_; conv => whnf) | (refine bN ?_) | (refine bD (fun hh => ?_) (fun hh => ?_) <;> first | (exfalso; omega) | (conv => whnf)) | (refine bEq (fun hh => ?_) (fun hh => ?_) <;> first | (exfalso; omega) | (conv => whnf)) | (refine bNe (fun hh => ?_) (fun hh => ?_) <;> first | (exfalso; omega) | (conv => whnf)) | (refine (k45t (f := f) (by omega) hi).callq rfl rfl (fun r (hr : r = _) => ?_); subst hr; conv => whnf) | (refine (k55t ⟨h1, h2⟩).callq rfl rfl (fun r (hr : r = _) => ?_); subst hr; conv => whnf) | (refine (k54t (f := f) (by omega) hok).callq rfl rfl (fun r (hr : r = _) => ?_); subst hr; conv => whnf) | (refine (k44 f i hok hi').callzq rfl rfl (fun r (hr : r = _) => ?_); subst hr; conv => whnf) | (refine wIn (by omega) ?_; conv => whnf) | (refine nI (by omega) ?_; conv => whnf)))
  by_cases hz : f.dist i r = 0
  · rw [if_pos hz]
    rw [hz] at kd
    refine loop_i (α := Unit) (fun x => [(11, .int .i64 0), (10, .isl ((f.sec i).sides.map pairAV)), (8, .int .i64 0), (7, .own 2 0), (6, .own 1 0), (3, .own 0 0), (1, .int .i64 i), (2, .int .i64 r)]) (fun x => [.box false f.cells, .box false [.int .i64 0, .int .i64 0], .box false [.int .i64 0, .int .i64 0], .fresh, .fresh])
      (fun x => True) (fun x => 0) () (meets_id (by (repeat' apply And.intro) <;> first | rfl | trivial | (intro hh; cases hh))) trivial ?_
    intro _ _
    obtain ⟨q, hq, hg⟩ := side_get (f.sec i) (k := 0) (by omega)
    (conv => whnf); (repeat' (first | (refine bT ?_; conv => whnf) | (refine bF ?_; conv => whnf) | (refine bN ?_) | (refine bD (fun hh => ?_) (fun hh => ?_) <;> first | (exfalso; omega) | (conv => whnf)) | (refine bEq (fun hh => ?_) (fun hh => ?_) <;> first | (exfalso; omega) | (conv => whnf)) | (refine bNe (fun hh => ?_) (fun hh => ?_) <;> first | (exfalso; omega) | (conv => whnf)) | (refine wIn (by omega) ?_; conv => whnf) | (refine nI (by omega) ?_; conv => whnf)))
    refine iaI (by omega) (by omega) hg ?_
    (conv => whnf); (repeat' (first | (refine bT ?_; conv => whnf) | (refine bF ?_; conv => whnf) | (refine bN ?_) | (refine bD (fun hh => ?_) (fun hh => ?_) <;> first | (exfalso; omega) | (conv => whnf)) | (refine bEq (fun hh => ?_) (fun hh => ?_) <;> first | (exfalso; omega) | (conv => whnf)) | (refine bNe (fun hh => ?_) (fun hh => ?_) <;> first | (exfalso; omega) | (conv => whnf)) | (refine (kd).callq rfl rfl (fun r (hr : r = _) => ?_); subst hr; conv => whnf) | (refine (k38z q.1 q.2).callq rfl rfl (fun r (hr : r = _) => ?_); subst hr; conv => whnf) | (refine wIn (by omega) ?_; conv => whnf) | (refine nI (by omega) ?_; conv => whnf)))
    all_goals rfl
  · rw [if_neg hz]
    generalize hD : f.dist i r = d at *
    have hd1 : 1 ≤ d ∧ d ≤ 6000 := by omega
    refine loop_i (α := Nat × Int × Int × Int × Int) (fun x => [(11, .int .i64 x.1), (10, .isl ((f.sec i).sides.map pairAV)), (8, .int .i64 0), (7, .own 2 0), (6, .own 1 0), (3, .own 0 0), (1, .int .i64 i), (2, .int .i64 r)]) (fun x => [.box false f.cells, .box false [.int .i64 x.2.1, .int .i64 x.2.2.1], .box false [.int .i64 x.2.2.2.1, .int .i64 x.2.2.2.2], .fresh, .fresh])
      (fun x => x.1 ≤ (f.sec i).n ∧ (1 ≤ x.1 → x.2 = (redN (cpart (f.sec i) d x.1).1.1 (cpart (f.sec i) d x.1).1.2, redD (cpart (f.sec i) d x.1).1.1 (cpart (f.sec i) d x.1).1.2, redN (cpart (f.sec i) d x.1).2.1 (cpart (f.sec i) d x.1).2.2, redD (cpart (f.sec i) d x.1).2.1 (cpart (f.sec i) d x.1).2.2))) (fun x => (f.sec i).n - x.1) (0, 0, 0, 0, 0) (meets_id (by (repeat' apply And.intro) <;> first | rfl | trivial | (intro hh; cases hh))) ⟨by simp, by simp⟩ ?_
    rintro ⟨k, ln, ld, un, ud⟩ ⟨hk, hv⟩
    simp only at hk hv
    conv => whnf
    refine bD (fun h7 => ?_) (fun h7 => ?_)
    · conv => whnf
      obtain ⟨q, hq, hg⟩ := side_get (f.sec i) (k := k) (by omega)
      have hm := side_b hs (List.mem_of_getElem? hq)
      have hqb := cos_rbd hs hd1 (List.mem_of_getElem? hq)
      have hst := cpart_succ (d := d) hq
      by_cases hk0 : k = 0
      · subst hk0
        have hq0 : q = ((f.sec i).al, (f.sec i).sl) := by rw [side_zero hs] at hq; cases hq; rfl
        have h1p : cpart (f.sec i) d (0 + 1) = ((cosN d q.1 q.2, cosD d q.1), (cosN d q.1 q.2, cosD d q.1)) := by rw [cpart_one hs, hq0]; rfl
        refine iaI (by omega) (by omega) hg ?_
        (conv => whnf); (repeat' (first | (refine bT ?_; conv => whnf) | (refine bF ?_; conv => whnf) | (refine bN ?_) | (refine bD (fun hh => ?_) (fun hh => ?_) <;> first | (exfalso; omega) | (conv => whnf)) | (refine bEq (fun hh => ?_) (fun hh => ?_) <;> first | (exfalso; omega) | (conv => whnf)) | (refine bNe (fun hh => ?_) (fun hh => ?_) <;> first | (exfalso; omega) | (conv => whnf)) | (refine (kd).callq rfl rfl (fun r (hr : r = _) => ?_); subst hr; conv => whnf) | (refine (k38 d q.1 q.2 hd1 hm.1 hm.2).callq rfl rfl (fun r (hr : r = _) => ?_); subst hr; conv => whnf) | (refine wIn (by omega) ?_; conv => whnf) | (refine nI (by omega) ?_; conv => whnf)))
        refine ⟨(0 + 1, redN (cosN d q.1 q.2) (cosD d q.1), redD (cosN d q.1 q.2) (cosD d q.1), redN (cosN d q.1 q.2) (cosD d q.1), redD (cosN d q.1 q.2) (cosD d q.1)), (meets_id (by (repeat' apply And.intro) <;> first | rfl | trivial | (intro hh; cases hh))), ⟨by simp; omega, fun _ => by simp only [h1p]⟩, by simp; omega⟩
      · have hv := hv (by omega)
        have hb := cpart_bd hs hd1 k
        generalize hL : cpart (f.sec i) d k = L at *
        obtain ⟨⟨a, b⟩, ⟨a', b'⟩⟩ := L
        simp only [Prod.mk.injEq, bdF] at hv hb
        obtain ⟨v1, v2, v3, v4⟩ := hv
        have c1 := red_bd hqb.1 hqb.2
        have c2 := red_bd hb.1.1 hb.1.2
        have c3 := red_bd hb.2.1 hb.2.2
        rw [← v1, ← v2] at c2
        rw [← v3, ← v4] at c3
        have m1 := mul_ab (a := redN (cosN d q.1 q.2) (cosD d q.1)) 100000000 100000000 c1.1.1 c1.1.2 (show 0 ≤ ld by omega) c2.2.2
        have m2 := mul_ab (a := ln) 100000000 100000000 c2.1.1 c2.1.2 (show 0 ≤ redD (cosN d q.1 q.2) (cosD d q.1) by omega) c1.2.2
        have m3 := mul_ab (a := redN (cosN d q.1 q.2) (cosD d q.1)) 100000000 100000000 c1.1.1 c1.1.2 (show 0 ≤ ud by omega) c3.2.2
        have m4 := mul_ab (a := un) 100000000 100000000 c3.1.1 c3.1.2 (show 0 ≤ redD (cosN d q.1 q.2) (cosD d q.1) by omega) c1.2.2
        have r1 : (redN (cosN d q.1 q.2) (cosD d q.1) * ld < ln * redD (cosN d q.1 q.2) (cosD d q.1)) ↔ cosN d q.1 q.2 * b < a * cosD d q.1 := by
          rw [v1, v2, red_lt hqb.2.1, red_gt hb.1.2.1]
        have r2 : (un * redD (cosN d q.1 q.2) (cosD d q.1) < redN (cosN d q.1 q.2) (cosD d q.1) * ud) ↔ a' * cosD d q.1 < cosN d q.1 q.2 * b' := by
          rw [v3, v4, red_lt hb.2.2.1, red_gt hqb.2.1]
        refine iaI (by omega) (by omega) hg ?_
        have e1 : FnA Try.prog 40 [.agg [.int .i64 (redN (cosN d q.1 q.2) (cosD d q.1)), .int .i64 (redD (cosN d q.1 q.2) (cosD d q.1))], .agg [.int .i64 ln, .int .i64 ld]] (· = .bool (decide (cosN d q.1 q.2 * b < a * cosD d q.1))) := by
          have := k40 (redN (cosN d q.1 q.2) (cosD d q.1)) (redD (cosN d q.1 q.2) (cosD d q.1)) ln ld (by omega) (by omega)
          rwa [decide_eq_decide.2 r1] at this
        have e2 : FnA Try.prog 40 [.agg [.int .i64 un, .int .i64 ud], .agg [.int .i64 (redN (cosN d q.1 q.2) (cosD d q.1)), .int .i64 (redD (cosN d q.1 q.2) (cosD d q.1))]] (· = .bool (decide (a' * cosD d q.1 < cosN d q.1 q.2 * b'))) := by
          have := k40 un ud (redN (cosN d q.1 q.2) (cosD d q.1)) (redD (cosN d q.1 q.2) (cosD d q.1)) (by omega) (by omega)
          rwa [decide_eq_decide.2 r2] at this
        clear r1 r2 m1 m2 m3 m4 c1 c2 c3 hqb
        (conv => whnf); (repeat' (first | (refine bT ?_; conv => whnf) | (refine bF ?_; conv => whnf) | (refine bN ?_) | (refine bD (fun hh => ?_) (fun hh => ?_) <;> first | (exfalso; omega) | (conv => whnf)) | (refine bEq (fun hh => ?_) (fun hh => ?_) <;> first | (exfalso; omega) | (conv => whnf)) | (refine bNe (fun hh => ?_) (fun hh => ?_) <;> first | (exfalso; omega) | (conv => whnf)) | (refine (kd).callq rfl rfl (fun r (hr : r = _) => ?_); subst hr; conv => whnf) | (refine (k38 d q.1 q.2 hd1 hm.1 hm.2).callq rfl rfl (fun r (hr : r = _) => ?_); subst hr; conv => whnf) | (refine (e1).callq rfl rfl (fun r (hr : r = _) => ?_); subst hr; conv => whnf) | (refine (e2).callq rfl rfl (fun r (hr : r = _) => ?_); subst hr; conv => whnf) | (refine wIn (by omega) ?_; conv => whnf) | (refine nI (by omega) ?_; conv => whnf)))
        · rename_i b1 _
          exact ⟨(k + 1, redN (cosN d q.1 q.2) (cosD d q.1), redD (cosN d q.1 q.2) (cosD d q.1), redN (cosN d q.1 q.2) (cosD d q.1), redD (cosN d q.1 q.2) (cosD d q.1)), (meets_id (by (repeat' apply And.intro) <;> first | rfl | trivial | (intro hh; cases hh))), ⟨by simp; omega, fun _ => by simp [hst, cstep, b1, hh]⟩, by simp; omega⟩
        · rename_i b1 _
          exact ⟨(k + 1, redN (cosN d q.1 q.2) (cosD d q.1), redD (cosN d q.1 q.2) (cosD d q.1), un, ud), (meets_id (by (repeat' apply And.intro) <;> first | rfl | trivial | (intro hh; cases hh))), ⟨by simp; omega, fun _ => by simp [hst, cstep, b1, hh, v3, v4]⟩, by simp; omega⟩
        · rename_i b1 _
          exact ⟨(k + 1, ln, ld, redN (cosN d q.1 q.2) (cosD d q.1), redD (cosN d q.1 q.2) (cosD d q.1)), (meets_id (by (repeat' apply And.intro) <;> first | rfl | trivial | (intro hh; cases hh))), ⟨by simp; omega, fun _ => by simp [hst, cstep, b1, hh, v1, v2]⟩, by simp; omega⟩
        · rename_i b1 _
          exact ⟨(k + 1, ln, ld, un, ud), (meets_id (by (repeat' apply And.intro) <;> first | rfl | trivial | (intro hh; cases hh))), ⟨by simp; omega, fun _ => by simp [hst, cstep, b1, hh, v1, v2, v3, v4]⟩, by simp; omega⟩
    · have hk' : k = (f.sec i).n := by omega
      subst hk'
      have hv := hv (by omega)
      rw [cpart_all] at hv
      simp only [Prod.mk.injEq] at hv
      obtain ⟨rfl, rfl, rfl, rfl⟩ := hv
      (conv => whnf); (repeat' (first | (refine bT ?_; conv => whnf) | (refine bF ?_; conv => whnf) | (refine bN ?_) | (refine bD (fun hh => ?_) (fun hh => ?_) <;> first | (exfalso; omega) | (conv => whnf)) | (refine bEq (fun hh => ?_) (fun hh => ?_) <;> first | (exfalso; omega) | (conv => whnf)) | (refine bNe (fun hh => ?_) (fun hh => ?_) <;> first | (exfalso; omega) | (conv => whnf)) | (refine wIn (by omega) ?_; conv => whnf) | (refine nI (by omega) ?_; conv => whnf)))
      all_goals rfl

theorem bKT {A B : Prop} {b : Bool} (hb : b = true) (hA : A) : BrB b A B := bS (fun _ => hA) (fun h => absurd h (by simp [hb]))
theorem bKF {A B : Prop} {b : Bool} (hb : b = false) (hB : B) : BrB b A B := bS (fun h => absurd h (by simp [hb])) (fun _ => hB)
theorem k33 (l : List Nat) (hl : l.length ≤ 1000) : FnA Try.prog 33 [.isl (l.map natAV), .isl (l.map natAV)] (· = .bool true) := by
  have hL : (l.map natAV).length = l.length := by simp
  refine fnA 1 ok33 (by simp) ?_
  (conv => whnf); (repeat' (first | (refine bT ?_; conv => whnf) | (refine bF ?_; conv => whnf) | (refine bN ?_) | (refine bD (fun hh => ?_) (fun hh => ?_) <;> first | (exfalso; omega) | (conv => whnf)) | (refine bEq (fun hh => ?_) (fun hh => ?_) <;> first | (exfalso; omega) | (conv => whnf)) | (refine bNe (fun hh => ?_) (fun hh => ?_) <;> first | (exfalso; omega) | (conv => whnf)) | (refine wIn (by omega) ?_; conv => whnf) | (refine nI (by omega) ?_; conv => whnf)))
  refine loop_i (α := Nat) (fun x => [(5, .int .i64 x), (0, .isl (l.map natAV)), (1, .isl (l.map natAV))]) (fun x => [.fresh])
    (fun x => x ≤ l.length) (fun x => l.length - x) 0 (meets_id (by (repeat' apply And.intro) <;> first | rfl | trivial | (intro hh; cases hh))) (by simp) ?_
  intro k hk
  conv => whnf
  refine bD (fun h7 => ?_) (fun h7 => ?_)
  · have hk' : k < l.length := by omega
    (conv => whnf); (repeat' (first | (refine bT ?_; conv => whnf) | (refine bF ?_; conv => whnf) | (refine bN ?_) | (refine bD (fun hh => ?_) (fun hh => ?_) <;> first | (exfalso; omega) | (conv => whnf)) | (refine bEq (fun hh => ?_) (fun hh => ?_) <;> first | (exfalso; omega) | (conv => whnf)) | (refine bNe (fun hh => ?_) (fun hh => ?_) <;> first | (exfalso; omega) | (conv => whnf)) | (refine wIn (by omega) ?_; conv => whnf) | (refine nI (by omega) ?_; conv => whnf)))
    refine iaI (by omega) (by omega) (getD_map natAV l k hk') ?_
    (conv => whnf); (repeat' (first | (refine bT ?_; conv => whnf) | (refine bF ?_; conv => whnf) | (refine bN ?_) | (refine bD (fun hh => ?_) (fun hh => ?_) <;> first | (exfalso; omega) | (conv => whnf)) | (refine bEq (fun hh => ?_) (fun hh => ?_) <;> first | (exfalso; omega) | (conv => whnf)) | (refine bNe (fun hh => ?_) (fun hh => ?_) <;> first | (exfalso; omega) | (conv => whnf)) | (refine wIn (by omega) ?_; conv => whnf) | (refine nI (by omega) ?_; conv => whnf)))
    refine iaI (by omega) (by omega) (getD_map natAV l k hk') ?_
    (conv => whnf); (repeat' (first | (refine bT ?_; conv => whnf) | (refine bF ?_; conv => whnf) | (refine bN ?_) | (refine bD (fun hh => ?_) (fun hh => ?_) <;> first | (exfalso; omega) | (conv => whnf)) | (refine bEq (fun hh => ?_) (fun hh => ?_) <;> first | (exfalso; omega) | (conv => whnf)) | (refine bNe (fun hh => ?_) (fun hh => ?_) <;> first | (exfalso; omega) | (conv => whnf)) | (refine wIn (by omega) ?_; conv => whnf) | (refine nI (by omega) ?_; conv => whnf)))
    exact ⟨k + 1, (meets_id (by (repeat' apply And.intro) <;> first | rfl | trivial | (intro hh; cases hh))), by omega, by omega⟩
  · (conv => whnf); (repeat' (first | (refine bT ?_; conv => whnf) | (refine bF ?_; conv => whnf) | (refine bN ?_) | (refine bD (fun hh => ?_) (fun hh => ?_) <;> first | (exfalso; omega) | (conv => whnf)) | (refine bEq (fun hh => ?_) (fun hh => ?_) <;> first | (exfalso; omega) | (conv => whnf)) | (refine bNe (fun hh => ?_) (fun hh => ?_) <;> first | (exfalso; omega) | (conv => whnf)) | (refine wIn (by omega) ?_; conv => whnf) | (refine nI (by omega) ?_; conv => whnf)))
    all_goals rfl
theorem k22 (f : Frm) (hn : f.ss.length ≤ 1000) : FnA Try.prog 22 [.agg f.cells, .agg f.cells] (· = .bool true) := by
  have hL : (f.ss.map Sec.av).length = f.ss.length := by simp
  refine fnA 2 ok22 (by simp) ?_
  (conv => whnf); (repeat' (first | (refine bT ?_; conv => whnf) | (refine bF ?_; conv => whnf) | (refine bN ?_) | (refine bD (fun hh => ?_) (fun hh => ?_) <;> first | (exfalso; omega) | (conv => whnf)) | (refine bEq (fun hh => ?_) (fun hh => ?_) <;> first | (exfalso; omega) | (conv => whnf)) | (refine bNe (fun hh => ?_) (fun hh => ?_) <;> first | (exfalso; omega) | (conv => whnf)) | (refine bKT (by simp) ?_; conv => whnf) | (refine wIn (by omega) ?_; conv => whnf) | (refine nI (by omega) ?_; conv => whnf)))
  refine loop_i (α := Nat) (fun x => [(5, .int .i64 x), (2, .own 0 0), (3, .own 1 0)]) (fun x => [.box false f.cells, .box false f.cells])
    (fun x => x ≤ f.ss.length) (fun x => f.ss.length - x) 0 (meets_id (by (repeat' apply And.intro) <;> first | rfl | trivial | (intro hh; cases hh))) (by simp) ?_
  intro k hk
  conv => whnf
  refine bD (fun h7 => ?_) (fun h7 => ?_)
  · have hk' : k < f.ss.length := by omega
    (conv => whnf); (repeat' (first | (refine bT ?_; conv => whnf) | (refine bF ?_; conv => whnf) | (refine bN ?_) | (refine bD (fun hh => ?_) (fun hh => ?_) <;> first | (exfalso; omega) | (conv => whnf)) | (refine bEq (fun hh => ?_) (fun hh => ?_) <;> first | (exfalso; omega) | (conv => whnf)) | (refine bNe (fun hh => ?_) (fun hh => ?_) <;> first | (exfalso; omega) | (conv => whnf)) | (refine wIn (by omega) ?_; conv => whnf) | (refine nI (by omega) ?_; conv => whnf)))
    refine iaI (by omega) (by omega) (f.sec_get hk') ?_
    (conv => whnf); (repeat' (first | (refine bT ?_; conv => whnf) | (refine bF ?_; conv => whnf) | (refine bN ?_) | (refine bD (fun hh => ?_) (fun hh => ?_) <;> first | (exfalso; omega) | (conv => whnf)) | (refine bEq (fun hh => ?_) (fun hh => ?_) <;> first | (exfalso; omega) | (conv => whnf)) | (refine bNe (fun hh => ?_) (fun hh => ?_) <;> first | (exfalso; omega) | (conv => whnf)) | (refine wIn (by omega) ?_; conv => whnf) | (refine nI (by omega) ?_; conv => whnf)))
    refine iaI (by omega) (by omega) (f.sec_get hk') ?_
    (conv => whnf); (repeat' (first | (refine bT ?_; conv => whnf) | (refine bF ?_; conv => whnf) | (refine bN ?_) | (refine bD (fun hh => ?_) (fun hh => ?_) <;> first | (exfalso; omega) | (conv => whnf)) | (refine bEq (fun hh => ?_) (fun hh => ?_) <;> first | (exfalso; omega) | (conv => whnf)) | (refine bNe (fun hh => ?_) (fun hh => ?_) <;> first | (exfalso; omega) | (conv => whnf)) | (refine bKT (by simp) ?_; conv => whnf) | (refine wIn (by omega) ?_; conv => whnf) | (refine nI (by omega) ?_; conv => whnf)))
    exact ⟨k + 1, (meets_id (by (repeat' apply And.intro) <;> first | rfl | trivial | (intro hh; cases hh))), by omega, by omega⟩
  · (conv => whnf); (repeat' (first | (refine bT ?_; conv => whnf) | (refine bF ?_; conv => whnf) | (refine bN ?_) | (refine bD (fun hh => ?_) (fun hh => ?_) <;> first | (exfalso; omega) | (conv => whnf)) | (refine bEq (fun hh => ?_) (fun hh => ?_) <;> first | (exfalso; omega) | (conv => whnf)) | (refine bNe (fun hh => ?_) (fun hh => ?_) <;> first | (exfalso; omega) | (conv => whnf)) | (refine wIn (by omega) ?_; conv => whnf) | (refine nI (by omega) ?_; conv => whnf)))
    all_goals rfl
theorem k11t {f : Frm} (h : f.far = true) : FnA Try.prog 11 [.agg f.cells] (· = .bool true) := by
  have := k11 f; rwa [h] at this
theorem k11f {f : Frm} (h : f.far = false) : FnA Try.prog 11 [.agg f.cells] (· = .bool false) := by
  have := k11 f; rwa [h] at this
theorem far_len {f : Frm} (h : f.far = false) : f.ss.length ≤ 40 := by unfold Frm.far at h; simp at h; omega
set_option maxHeartbeats 2000000 in
theorem k3 (f : Frm) (i r : Int) (hw : FnA Try.prog 12 [] (· = .bool true)) : FnA Try.prog 3 [.agg f.cells, .agg [.int .i64 i, .int .i64 r]] (· = .bool true) := by
  refine fnA 8 ok3 (by simp) ?_
  cases hF : f.far
  · have hn := far_len hF
    have hn' : f.ss.length ≤ 1000 := by omega
    by_cases hp : f.pos i r = 0
    · have hp' := pos_ok hp
      obtain ⟨j, rfl⟩ := Int.eq_ofNat_of_zero_le hp'.2.1.1
      have kc := k14 f
      rw [if_pos hp'.1] at kc
      have q1 := k18 f j r hp
      have q2 := k19 f j r hp
      have e : f.ss.getD j default = f.sec j := rfl
      rw [e] at q1
      by_cases hz : f.dist j r = 0
      · rw [if_pos hz] at q1 q2
        (conv => whnf); (repeat' (first | (refine bT ?_; conv => whnf) | (refine bF ?_; conv => whnf) | (refine bN ?_) | (refine bD (fun hh => ?_) (fun hh => ?_) <;> first | (exfalso; omega) | (conv => whnf)) | (refine bEq (fun hh => ?_) (fun hh => ?_) <;> first | (exfalso; omega) | (conv => whnf)) | (refine bNe (fun hh => ?_) (fun hh => ?_) <;> first | (exfalso; omega) | (conv => whnf)) | (refine (k11f hF).callq rfl rfl (fun r (hr : r = _) => ?_); subst hr; conv => whnf) | (refine (k13 f hn').callzq rfl rfl (fun r (hr : r = _) => ?_); subst hr; conv => whnf) | (refine (kc).callq rfl rfl (fun r (hr : r = _) => ?_); subst hr; conv => whnf) | (refine (k15t hp'.1).callq rfl rfl (fun r (hr : r = _) => ?_); subst hr; conv => whnf) | (refine (k16 f j r hp).callq rfl rfl (fun r (hr : r = _) => ?_); subst hr; conv => whnf) | (refine (k17 f j r hp).callq rfl rfl (fun r (hr : r = _) => ?_); subst hr; conv => whnf) | (refine (q1).callq rfl rfl (fun r (hr : r = _) => ?_); subst hr; conv => whnf) | (refine (q2).callq rfl rfl (fun r (hr : r = _) => ?_); subst hr; conv => whnf) | (refine (k20 f j r hp).callq rfl rfl (fun r (hr : r = _) => ?_); subst hr; conv => whnf) | (refine (k21 f j r hp).callq rfl rfl (fun r (hr : r = _) => ?_); subst hr; conv => whnf) | (refine (k22 f hn').callq rfl rfl (fun r (hr : r = _) => ?_); subst hr; conv => whnf) | (refine (hw).callq rfl rfl (fun r (hr : r = _) => ?_); subst hr; conv => whnf) | (refine bKT (by simp) ?_; conv => whnf) | (refine wIn (by omega) ?_; conv => whnf) | (refine nI (by omega) ?_; conv => whnf)))
        all_goals rfl
      · rw [if_neg hz] at q1 q2
        (conv => whnf); (repeat' (first | (refine bT ?_; conv => whnf) | (refine bF ?_; conv => whnf) | (refine bN ?_) | (refine bD (fun hh => ?_) (fun hh => ?_) <;> first | (exfalso; omega) | (conv => whnf)) | (refine bEq (fun hh => ?_) (fun hh => ?_) <;> first | (exfalso; omega) | (conv => whnf)) | (refine bNe (fun hh => ?_) (fun hh => ?_) <;> first | (exfalso; omega) | (conv => whnf)) | (refine (k11f hF).callq rfl rfl (fun r (hr : r = _) => ?_); subst hr; conv => whnf) | (refine (k13 f hn').callzq rfl rfl (fun r (hr : r = _) => ?_); subst hr; conv => whnf) | (refine (kc).callq rfl rfl (fun r (hr : r = _) => ?_); subst hr; conv => whnf) | (refine (k15t hp'.1).callq rfl rfl (fun r (hr : r = _) => ?_); subst hr; conv => whnf) | (refine (k16 f j r hp).callq rfl rfl (fun r (hr : r = _) => ?_); subst hr; conv => whnf) | (refine (k17 f j r hp).callq rfl rfl (fun r (hr : r = _) => ?_); subst hr; conv => whnf) | (refine (q1).callq rfl rfl (fun r (hr : r = _) => ?_); subst hr; conv => whnf) | (refine (q2).callq rfl rfl (fun r (hr : r = _) => ?_); subst hr; conv => whnf) | (refine (k20 f j r hp).callq rfl rfl (fun r (hr : r = _) => ?_); subst hr; conv => whnf) | (refine (k21 f j r hp).callq rfl rfl (fun r (hr : r = _) => ?_); subst hr; conv => whnf) | (refine (k22 f hn').callq rfl rfl (fun r (hr : r = _) => ?_); subst hr; conv => whnf) | (refine (hw).callq rfl rfl (fun r (hr : r = _) => ?_); subst hr; conv => whnf) | (refine bKT (by simp) ?_; conv => whnf) | (refine wIn (by omega) ?_; conv => whnf) | (refine nI (by omega) ?_; conv => whnf)))
        all_goals rfl
    · have kc := k14 f
      have kd := k15 f (by omega)
      by_cases hok : f.ok
      · rw [if_pos hok] at kc kd
        (conv => whnf); (repeat' (first | (refine bT ?_; conv => whnf) | (refine bF ?_; conv => whnf) | (refine bN ?_) | (refine bD (fun hh => ?_) (fun hh => ?_) <;> first | (exfalso; omega) | (conv => whnf)) | (refine bEq (fun hh => ?_) (fun hh => ?_) <;> first | (exfalso; omega) | (conv => whnf)) | (refine bNe (fun hh => ?_) (fun hh => ?_) <;> first | (exfalso; omega) | (conv => whnf)) | (refine (k11f hF).callq rfl rfl (fun r (hr : r = _) => ?_); subst hr; conv => whnf) | (refine (k13 f hn').callzq rfl rfl (fun r (hr : r = _) => ?_); subst hr; conv => whnf) | (refine (kc).callq rfl rfl (fun r (hr : r = _) => ?_); subst hr; conv => whnf) | (refine (kd).callq rfl rfl (fun r (hr : r = _) => ?_); subst hr; conv => whnf) | (refine (k16e f i r hp).callq rfl rfl (fun r (hr : r = _) => ?_); subst hr; conv => whnf) | (refine (k17e f i r hn' hp).callq rfl rfl (fun r (hr : r = _) => ?_); subst hr; conv => whnf) | (refine (k18e f i r hp).callq rfl rfl (fun r (hr : r = _) => ?_); subst hr; conv => whnf) | (refine (k19e f i r hn' hp).callq rfl rfl (fun r (hr : r = _) => ?_); subst hr; conv => whnf) | (refine (k20e f i r hp).callq rfl rfl (fun r (hr : r = _) => ?_); subst hr; conv => whnf) | (refine (k21e f i r hn' hp).callq rfl rfl (fun r (hr : r = _) => ?_); subst hr; conv => whnf) | (refine (k22 f hn').callq rfl rfl (fun r (hr : r = _) => ?_); subst hr; conv => whnf) | (refine (hw).callq rfl rfl (fun r (hr : r = _) => ?_); subst hr; conv => whnf) | (refine bKT (by simp) ?_; conv => whnf) | (refine wIn (by omega) ?_; conv => whnf) | (refine nI (by omega) ?_; conv => whnf)))
        all_goals rfl
      · rw [if_neg hok] at kc kd
        (conv => whnf); (repeat' (first | (refine bT ?_; conv => whnf) | (refine bF ?_; conv => whnf) | (refine bN ?_) | (refine bD (fun hh => ?_) (fun hh => ?_) <;> first | (exfalso; omega) | (conv => whnf)) | (refine bEq (fun hh => ?_) (fun hh => ?_) <;> first | (exfalso; omega) | (conv => whnf)) | (refine bNe (fun hh => ?_) (fun hh => ?_) <;> first | (exfalso; omega) | (conv => whnf)) | (refine (k11f hF).callq rfl rfl (fun r (hr : r = _) => ?_); subst hr; conv => whnf) | (refine (k13 f hn').callzq rfl rfl (fun r (hr : r = _) => ?_); subst hr; conv => whnf) | (refine (kc).callq rfl rfl (fun r (hr : r = _) => ?_); subst hr; conv => whnf) | (refine (kd).callq rfl rfl (fun r (hr : r = _) => ?_); subst hr; conv => whnf) | (refine (k16e f i r hp).callq rfl rfl (fun r (hr : r = _) => ?_); subst hr; conv => whnf) | (refine (k17e f i r hn' hp).callq rfl rfl (fun r (hr : r = _) => ?_); subst hr; conv => whnf) | (refine (k18e f i r hp).callq rfl rfl (fun r (hr : r = _) => ?_); subst hr; conv => whnf) | (refine (k19e f i r hn' hp).callq rfl rfl (fun r (hr : r = _) => ?_); subst hr; conv => whnf) | (refine (k20e f i r hp).callq rfl rfl (fun r (hr : r = _) => ?_); subst hr; conv => whnf) | (refine (k21e f i r hn' hp).callq rfl rfl (fun r (hr : r = _) => ?_); subst hr; conv => whnf) | (refine (k22 f hn').callq rfl rfl (fun r (hr : r = _) => ?_); subst hr; conv => whnf) | (refine (hw).callq rfl rfl (fun r (hr : r = _) => ?_); subst hr; conv => whnf) | (refine bKT (by simp) ?_; conv => whnf) | (refine wIn (by omega) ?_; conv => whnf) | (refine nI (by omega) ?_; conv => whnf)))
        all_goals rfl
  · (conv => whnf); (repeat' (first | (refine bT ?_; conv => whnf) | (refine bF ?_; conv => whnf) | (refine bN ?_) | (refine bD (fun hh => ?_) (fun hh => ?_) <;> first | (exfalso; omega) | (conv => whnf)) | (refine bEq (fun hh => ?_) (fun hh => ?_) <;> first | (exfalso; omega) | (conv => whnf)) | (refine bNe (fun hh => ?_) (fun hh => ?_) <;> first | (exfalso; omega) | (conv => whnf)) | (refine (k11t hF).callq rfl rfl (fun r (hr : r = _) => ?_); subst hr; conv => whnf) | (refine (hw).callq rfl rfl (fun r (hr : r = _) => ?_); subst hr; conv => whnf) | (refine wIn (by omega) ?_; conv => whnf) | (refine nI (by omega) ?_; conv => whnf)))
    all_goals rfl
set_option maxHeartbeats 2000000 in
theorem k4 (f : Frm) (i : Int) (hw : FnA Try.prog 12 [] (· = .bool true)) : FnA Try.prog 4 [.agg f.cells, .int .i64 i] (· = .bool true) := by
  refine fnA 5 ok4 (by simp) ?_
  cases hF : f.far
  · have hn := far_len hF
    have hn' : f.ss.length ≤ 1000 := by omega
    by_cases hok : f.ok
    · have hb := blame_len f
      have k1 := k23 f hok
      have k2 := k24 f hok
      by_cases hi : 0 ≤ i ∧ i < f.ss.length
      · obtain ⟨j, rfl⟩ := Int.eq_ofNat_of_zero_le hi.1
        have hj : j < f.ss.length := by omega
        rcases first_case f with ⟨_, h1⟩ | ⟨a, b, _, h1⟩
        all_goals
          rw [h1] at k1 k2
          (conv => whnf); (repeat' (first | (refine bT ?_; conv => whnf) | (refine bF ?_; conv => whnf) | (refine bN ?_) | (refine bD (fun hh => ?_) (fun hh => ?_) <;> first | (exfalso; omega) | (conv => whnf)) | (refine bEq (fun hh => ?_) (fun hh => ?_) <;> first | (exfalso; omega) | (conv => whnf)) | (refine bNe (fun hh => ?_) (fun hh => ?_) <;> first | (exfalso; omega) | (conv => whnf)) | (refine (k11f hF).callq rfl rfl (fun r (hr : r = _) => ?_); subst hr; conv => whnf) | (refine (k13 f hn').callzq rfl rfl (fun r (hr : r = _) => ?_); subst hr; conv => whnf) | (refine (k1).callq rfl rfl (fun r (hr : r = _) => ?_); subst hr; conv => whnf) | (refine (k2).callq rfl rfl (fun r (hr : r = _) => ?_); subst hr; conv => whnf) | (refine (k25 f hok).callq rfl rfl (fun r (hr : r = _) => ?_); subst hr; conv => whnf) | (refine (k26 f hok).callq rfl rfl (fun r (hr : r = _) => ?_); subst hr; conv => whnf) | (refine (k27 f j hok hj).callq rfl rfl (fun r (hr : r = _) => ?_); subst hr; conv => whnf) | (refine (k28 f j hok hj).callq rfl rfl (fun r (hr : r = _) => ?_); subst hr; conv => whnf) | (refine (k29 f hok).callzq rfl rfl (fun r (hr : r = _) => ?_); subst hr; conv => whnf) | (refine (k30 f hok).callzq rfl rfl (fun r (hr : r = _) => ?_); subst hr; conv => whnf) | (refine (k31 f hok).callq rfl rfl (fun r (hr : r = _) => ?_); subst hr; conv => whnf) | (refine (k32 f hok).callq rfl rfl (fun r (hr : r = _) => ?_); subst hr; conv => whnf) | (refine (k33 f.blame (by omega)).callq rfl rfl (fun r (hr : r = _) => ?_); subst hr; conv => whnf) | (refine (hw).callq rfl rfl (fun r (hr : r = _) => ?_); subst hr; conv => whnf) | (refine wIn (by omega) ?_; conv => whnf) | (refine nI (by omega) ?_; conv => whnf)))
          all_goals rfl
      · have hi' : ¬(f.ok ∧ 0 ≤ i ∧ i < f.ss.length) := fun h => hi h.2
        rcases first_case f with ⟨_, h1⟩ | ⟨a, b, _, h1⟩
        all_goals
          rw [h1] at k1 k2
          (conv => whnf); (repeat' (first | (refine bT ?_; conv => whnf) | (refine bF ?_; conv => whnf) | (refine bN ?_) | (refine bD (fun hh => ?_) (fun hh => ?_) <;> first | (exfalso; omega) | (conv => whnf)) | (refine bEq (fun hh => ?_) (fun hh => ?_) <;> first | (exfalso; omega) | (conv => whnf)) | (refine bNe (fun hh => ?_) (fun hh => ?_) <;> first | (exfalso; omega) | (conv => whnf)) | (refine (k11f hF).callq rfl rfl (fun r (hr : r = _) => ?_); subst hr; conv => whnf) | (refine (k13 f hn').callzq rfl rfl (fun r (hr : r = _) => ?_); subst hr; conv => whnf) | (refine (k1).callq rfl rfl (fun r (hr : r = _) => ?_); subst hr; conv => whnf) | (refine (k2).callq rfl rfl (fun r (hr : r = _) => ?_); subst hr; conv => whnf) | (refine (k25 f hok).callq rfl rfl (fun r (hr : r = _) => ?_); subst hr; conv => whnf) | (refine (k26 f hok).callq rfl rfl (fun r (hr : r = _) => ?_); subst hr; conv => whnf) | (refine (k27e f i hi').callq rfl rfl (fun r (hr : r = _) => ?_); subst hr; conv => whnf) | (refine (k28e f i hn' hi').callq rfl rfl (fun r (hr : r = _) => ?_); subst hr; conv => whnf) | (refine (k29 f hok).callzq rfl rfl (fun r (hr : r = _) => ?_); subst hr; conv => whnf) | (refine (k30 f hok).callzq rfl rfl (fun r (hr : r = _) => ?_); subst hr; conv => whnf) | (refine (k31 f hok).callq rfl rfl (fun r (hr : r = _) => ?_); subst hr; conv => whnf) | (refine (k32 f hok).callq rfl rfl (fun r (hr : r = _) => ?_); subst hr; conv => whnf) | (refine (k33 f.blame (by omega)).callq rfl rfl (fun r (hr : r = _) => ?_); subst hr; conv => whnf) | (refine (hw).callq rfl rfl (fun r (hr : r = _) => ?_); subst hr; conv => whnf) | (refine wIn (by omega) ?_; conv => whnf) | (refine nI (by omega) ?_; conv => whnf)))
          all_goals rfl
    · have hi' : ¬(f.ok ∧ 0 ≤ i ∧ i < f.ss.length) := fun h => hok h.1
      (conv => whnf); (repeat' (first | (refine bT ?_; conv => whnf) | (refine bF ?_; conv => whnf) | (refine bN ?_) | (refine bD (fun hh => ?_) (fun hh => ?_) <;> first | (exfalso; omega) | (conv => whnf)) | (refine bEq (fun hh => ?_) (fun hh => ?_) <;> first | (exfalso; omega) | (conv => whnf)) | (refine bNe (fun hh => ?_) (fun hh => ?_) <;> first | (exfalso; omega) | (conv => whnf)) | (refine (k11f hF).callq rfl rfl (fun r (hr : r = _) => ?_); subst hr; conv => whnf) | (refine (k13 f hn').callzq rfl rfl (fun r (hr : r = _) => ?_); subst hr; conv => whnf) | (refine (k23e f hok).callq rfl rfl (fun r (hr : r = _) => ?_); subst hr; conv => whnf) | (refine (k24e f hn' hok).callq rfl rfl (fun r (hr : r = _) => ?_); subst hr; conv => whnf) | (refine (k25e f hok).callq rfl rfl (fun r (hr : r = _) => ?_); subst hr; conv => whnf) | (refine (k26e f hn' hok).callq rfl rfl (fun r (hr : r = _) => ?_); subst hr; conv => whnf) | (refine (k27e f i hi').callq rfl rfl (fun r (hr : r = _) => ?_); subst hr; conv => whnf) | (refine (k28e f i hn' hi').callq rfl rfl (fun r (hr : r = _) => ?_); subst hr; conv => whnf) | (refine (k29e f hok).callzq rfl rfl (fun r (hr : r = _) => ?_); subst hr; conv => whnf) | (refine (k30e f hn' hok).callzq rfl rfl (fun r (hr : r = _) => ?_); subst hr; conv => whnf) | (refine (k31e f hok).callq rfl rfl (fun r (hr : r = _) => ?_); subst hr; conv => whnf) | (refine (k32e f hn' hok).callq rfl rfl (fun r (hr : r = _) => ?_); subst hr; conv => whnf) | (refine (k33 [] (by simp)).callq rfl rfl (fun r (hr : r = _) => ?_); subst hr; conv => whnf) | (refine (hw).callq rfl rfl (fun r (hr : r = _) => ?_); subst hr; conv => whnf) | (refine wIn (by omega) ?_; conv => whnf) | (refine nI (by omega) ?_; conv => whnf)))
      all_goals rfl
  · (conv => whnf); (repeat' (first | (refine bT ?_; conv => whnf) | (refine bF ?_; conv => whnf) | (refine bN ?_) | (refine bD (fun hh => ?_) (fun hh => ?_) <;> first | (exfalso; omega) | (conv => whnf)) | (refine bEq (fun hh => ?_) (fun hh => ?_) <;> first | (exfalso; omega) | (conv => whnf)) | (refine bNe (fun hh => ?_) (fun hh => ?_) <;> first | (exfalso; omega) | (conv => whnf)) | (refine (k11t hF).callq rfl rfl (fun r (hr : r = _) => ?_); subst hr; conv => whnf) | (refine (hw).callq rfl rfl (fun r (hr : r = _) => ?_); subst hr; conv => whnf) | (refine wIn (by omega) ?_; conv => whnf) | (refine nI (by omega) ?_; conv => whnf)))
    all_goals rfl
end Go.Proofs
