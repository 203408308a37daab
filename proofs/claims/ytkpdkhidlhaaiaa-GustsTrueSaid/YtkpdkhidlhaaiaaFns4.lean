/- What each function of this program answers, proved by walking its body: further contracts that the law rests on. -/
import Derived.Test.YtkpdkhidlhaaiaaFns3
set_option linter.unusedSimpArgs false
set_option linter.unusedVariables false
set_option linter.unusedSectionVars false
namespace Go.Proofs
open Go.Eng
attribute [local irreducible] Go.Eng.brB Go.Eng.need Go.Eng.wrE Go.Eng.iaE Go.Eng.slE Go.Eng.apE Go.Eng.CallZ Go.Eng.CallE Go.Eng.VCallE Go.Eng.YldE Go.Eng.GoC Go.Eng.MeetsE Go.Eng.FnA Go.Eng.FnV Go.Eng.ItA
set_option maxRecDepth 100000

theorem tdiv_floor {a b : Int} (hb : 1 ≤ b) : a / b = if a.tmod b < 0 then a.tdiv b - 1 else a.tdiv b := by
  have e := Int.mul_tdiv_add_tmod a b
  have h1 := Int.tmod_lt_of_pos a (show 0 < b by omega)
  have h2 := Int.lt_tmod_of_pos a (show 0 < b by omega)
  split
  · refine ((Int.ediv_emod_unique (show 0 < b by omega) (r := a.tmod b + b)).2 ⟨?_, by omega, by omega⟩).1
    rw [Int.mul_sub, Int.mul_one]; omega
  · exact ((Int.ediv_emod_unique (show 0 < b by omega) (r := a.tmod b)).2 ⟨by omega, by omega, h1⟩).1
theorem g61 (a b : Int) (ha : -1000000000000 ≤ a ∧ a ≤ 1000000000000) (hb : 1 ≤ b) : FnA Try.prog 61 [.int .i64 a, .int .i64 b] (· = .int .i64 (a / b)) := by
  have h1 := tdiv_abs (a := a) hb 1000000000000 ha.1 ha.2
  have hf := tdiv_floor (a := a) hb
  refine fnA 0 ok61 (by simp) ?_
  (conv => whnf); (repeat' (first | (refine bT ?_; conv => whnf) | (refine bF ?_; conv => whnf) | (refine bN ?_) | (refine bD (fun hh => ?_) (fun hh => ?_) <;> first | (exfalso; omega) | (conv => whnf)) | (refine bEq (fun hh => ?_) (fun hh => ?_) <;> first | (exfalso; omega) | (conv => whnf)) | (refine bNe (fun hh => ?_) (fun hh => ?_) <;> first | (exfalso; omega) | (conv => whnf)) | (refine wIn (by omega) ?_; conv => whnf) | (refine nI (by omega) ?_; conv => whnf)))
  · rw [hf, if_pos (by assumption)]
  · rw [hf, if_neg (by assumption)]
theorem lf_eq {n e : Int} (he : 1 ≤ e) : lf (n, e) = min 200 (max 0 (100 + 100 * n / e)) := by
  have h1 : (100 * (e + n)) / e = 100 + 100 * n / e := by
    rw [Int.mul_add, Int.add_comm, Int.add_mul_ediv_right _ _ (by omega)]; omega
  unfold lf
  simp only
  by_cases h0 : 0 ≤ 100 * (e + n)
  · rw [show max 0 (100 * (e + n)) = 100 * (e + n) from by omega, h1]
    have := Int.ediv_nonneg h0 (show 0 ≤ e by omega)
    rw [h1] at this; omega
  · rw [show max 0 (100 * (e + n)) = 0 from by omega]
    have := Int.ediv_neg_of_neg_of_pos (show 100 * (e + n) < 0 by omega) (show 0 < e by omega)
    rw [h1] at this
    rw [Int.zero_ediv]; omega
theorem g32 (n e : Int) (hn : -100000000 ≤ n ∧ n ≤ 100000000) (he : 1 ≤ e ∧ e ≤ 100000000) : FnA Try.prog 32 [.agg [.int .i64 n, .int .i64 e]] (· = .int .i64 (lf (n, e))) := by
  have hq := lf_eq (n := n) he.1
  have hd : -10000000000 ≤ 100 * n / e ∧ 100 * n / e ≤ 10000000000 := by
    refine ⟨Int.le_ediv_of_mul_le (by omega) ?_, ?_⟩
    · have : (-10000000000) * e ≤ (-10000000000) * 1 := by omega
      omega
    · refine Int.le_trans (Int.ediv_le_ediv (by omega) (show 100 * n ≤ 10000000000 by omega)) (Int.ediv_le_self _ (by omega))
  refine fnA 1 ok32 (by simp) ?_
  (conv => whnf); (repeat' (first | (refine bT ?_; conv => whnf) | (refine bF ?_; conv => whnf) | (refine bN ?_) | (refine bD (fun hh => ?_) (fun hh => ?_) <;> first | (exfalso; omega) | (conv => whnf)) | (refine bEq (fun hh => ?_) (fun hh => ?_) <;> first | (exfalso; omega) | (conv => whnf)) | (refine bNe (fun hh => ?_) (fun hh => ?_) <;> first | (exfalso; omega) | (conv => whnf)) | (refine (g61 _ _ (by omega) he.1).callq rfl rfl (fun r (hr : r = _) => ?_); subst hr; conv => whnf) | (refine wIn (by omega) ?_; conv => whnf) | (refine nI (by omega) ?_; conv => whnf)))
  all_goals (rw [hq]; simp only [if_true, Bool.false_eq_true, if_false])
theorem ex_opens : exF.opens = 1 := by decide +kernel
theorem ex_fok : exF.ok := by decide +kernel
theorem g30 : FnA Try.prog 30 [] (· = .bool true) := by
  have c1 := g14 exD (by decide) (by decide) ex_ok
  rw [ex_l0, ex_l1] at c1
  have c2 := k25 exF ex_fok
  rw [ex_opens] at c2
  refine fnA 5 ok30 (by simp) ?_
  (conv => whnf); (repeat' (first | (refine bT ?_; conv => whnf) | (refine bF ?_; conv => whnf) | (refine bN ?_) | (refine bD (fun hh => ?_) (fun hh => ?_) <;> first | (exfalso; omega) | (conv => whnf)) | (refine bEq (fun hh => ?_) (fun hh => ?_) <;> first | (exfalso; omega) | (conv => whnf)) | (refine bNe (fun hh => ?_) (fun hh => ?_) <;> first | (exfalso; omega) | (conv => whnf)) | (refine (g56).callzq rfl rfl (fun r (hr : r = _) => ?_); subst hr; conv => whnf) | (refine (g36).callzq rfl rfl (fun r (hr : r = _) => ?_); subst hr; conv => whnf) | (refine (c1).callq rfl rfl (fun r (hr : r = _) => ?_); subst hr; conv => whnf) | (refine (c2).callq rfl rfl (fun r (hr : r = _) => ?_); subst hr; conv => whnf) | (refine wIn (by omega) ?_; conv => whnf) | (refine nI (by omega) ?_; conv => whnf)))
  all_goals rfl

theorem okCl1 {n : Nat} {g : Gu} (h : g.ok n) : okCl n [g] = true := by
  unfold okCl okGu; simp [h]
theorem k9 (d : Dm) (a : Int) : FnA Try.prog 9 [.agg d.cells, .int .i64 a] (· = .bool true) := by
  have c28 := g28 d
  by_cases hf : d.far
  · rw [decide_eq_true hf] at c28
    refine fnA 8 ok9 (by simp) ?_
    (conv => whnf); (repeat' (first | (refine bT ?_; conv => whnf) | (refine bF ?_; conv => whnf) | (refine bN ?_) | (refine bD (fun hh => ?_) (fun hh => ?_) <;> first | (exfalso; omega) | (conv => whnf)) | (refine bEq (fun hh => ?_) (fun hh => ?_) <;> first | (exfalso; omega) | (conv => whnf)) | (refine bNe (fun hh => ?_) (fun hh => ?_) <;> first | (exfalso; omega) | (conv => whnf)) | (refine (c28).callq rfl rfl (fun r (hr : r = _) => ?_); subst hr; conv => whnf) | (refine (g30).callq rfl rfl (fun r (hr : r = _) => ?_); subst hr; conv => whnf) | (refine wIn (by omega) ?_; conv => whnf) | (refine nI (by omega) ?_; conv => whnf)))
    all_goals rfl
  rw [decide_eq_false hf] at c28
  unfold Dm.far at hf
  have c29 := g29 d (by omega) (by omega) (by omega)
  unfold Dm.err at c29
  cases hb : d.okB with
  | false =>
    rw [hb, if_neg (by simp)] at c29
    refine fnA 8 ok9 (by simp) ?_
    (conv => whnf); (repeat' (first | (refine bT ?_; conv => whnf) | (refine bF ?_; conv => whnf) | (refine bN ?_) | (refine bD (fun hh => ?_) (fun hh => ?_) <;> first | (exfalso; omega) | (conv => whnf)) | (refine bEq (fun hh => ?_) (fun hh => ?_) <;> first | (exfalso; omega) | (conv => whnf)) | (refine bNe (fun hh => ?_) (fun hh => ?_) <;> first | (exfalso; omega) | (conv => whnf)) | (refine (c28).callq rfl rfl (fun r (hr : r = _) => ?_); subst hr; conv => whnf) | (refine (c29).callq rfl rfl (fun r (hr : r = _) => ?_); subst hr; conv => whnf) | (refine (g30).callq rfl rfl (fun r (hr : r = _) => ?_); subst hr; conv => whnf) | (refine wIn (by omega) ?_; conv => whnf) | (refine nI (by omega) ?_; conv => whnf)))
    all_goals rfl
  | true =>
    rw [hb, if_pos rfl] at c29
    have c23 := g23 d a (by omega)
    by_cases ha : 0 ≤ a ∧ a < d.rs.length
    · rw [decide_eq_true ha] at c23
      have hb' := okB_iff.1 hb
      have h := hb'.1
      have hB := cosF_bd (s0_ok h) (lo_bd h)
      have b0 := red_bd hB.1.1 hB.1.2
      have b1 := red_bd hB.2.1 hB.2.2
      have hlo := lo_bd h
      have hs := h.2.2.2.1
      unfold okSpan at hs
      have h1 := h.1
      have hk := k18 d.f 0 d.f.lo (pos_zero h ⟨by simp, by omega⟩ ⟨by omega, by omega⟩)
      rw [dist_zero, if_neg (by omega)] at hk
      have c14 := g14 d (by omega) (by omega) hb
      have hg0 : Gu.ok ⟨0, a⟩ d.rs.length := ⟨⟨by simp, by simp⟩, ha⟩
      have c25 := g25 d a (by omega) (by omega) (errC_zero hb (okCl1 hg0))
      have d0 := g32 _ _ b0.1 b0.2
      have d1 := g32 _ _ b1.1 b1.2
      change FnA Try.prog 32 [fr (cosF d.f.s0 d.f.lo).1] (· = .int .i64 d.f.l0) at d0
      change FnA Try.prog 32 [fr (cosF d.f.s0 d.f.lo).2] (· = .int .i64 d.f.l1) at d1
      unfold Frm.s0 at b0 b1
      refine fnA 8 ok9 (by simp) ?_
      (conv => whnf); (repeat' (first | (refine bT ?_; conv => whnf) | (refine bF ?_; conv => whnf) | (refine bN ?_) | (refine bD (fun hh => ?_) (fun hh => ?_) <;> first | (exfalso; omega) | (conv => whnf)) | (refine bEq (fun hh => ?_) (fun hh => ?_) <;> first | (exfalso; omega) | (conv => whnf)) | (refine bNe (fun hh => ?_) (fun hh => ?_) <;> first | (exfalso; omega) | (conv => whnf)) | (refine (c28).callq rfl rfl (fun r (hr : r = _) => ?_); subst hr; conv => whnf) | (refine (c29).callq rfl rfl (fun r (hr : r = _) => ?_); subst hr; conv => whnf) | (refine (c23).callq rfl rfl (fun r (hr : r = _) => ?_); subst hr; conv => whnf) | (refine (hk).callq rfl rfl (fun r (hr : r = _) => ?_); subst hr; conv => whnf) | (refine (c14).callq rfl rfl (fun r (hr : r = _) => ?_); subst hr; conv => whnf) | (refine (d0).callq rfl rfl (fun r (hr : r = _) => ?_); subst hr; conv => whnf) | (refine (d1).callq rfl rfl (fun r (hr : r = _) => ?_); subst hr; conv => whnf) | (refine wIn (by omega) ?_; conv => whnf) | (refine nI (by omega) ?_; conv => whnf)))
      refine c25.callq rfl rfl (fun r ⟨F, hF, hr⟩ => ?_)
      subst hr
      obtain ⟨hF1, hF2, hF3⟩ := hF
      have hgF : Gu.ok ⟨F, a⟩ d.rs.length := ⟨⟨by simp, by simp; omega⟩, ha⟩
      have c16 := g16 d ⟨F, a⟩ (by omega) (by omega) (errC_zero hb (okCl1 hgF))
      have hw : d.worst.gone ⟨F, a⟩ = [] := weak_nil (by rw [stands1] at hF2; simpa using hF2)
      rw [hw] at c16
      by_cases h99 : F = 99
      · (conv => whnf); (repeat' (first | (refine bT ?_; conv => whnf) | (refine bF ?_; conv => whnf) | (refine bN ?_) | (refine bD (fun hh => ?_) (fun hh => ?_) <;> first | (exfalso; omega) | (conv => whnf)) | (refine bEq (fun hh => ?_) (fun hh => ?_) <;> first | (exfalso; omega) | (conv => whnf)) | (refine bNe (fun hh => ?_) (fun hh => ?_) <;> first | (exfalso; omega) | (conv => whnf)) | (refine (c16).callzq rfl rfl (fun r rows (hr : r = _ ∧ rows = _) => ?_); obtain ⟨hr1, hr2⟩ := hr; subst hr1; subst hr2; refine ⟨rfl, ?_⟩; conv => whnf) | (refine (g30).callq rfl rfl (fun r (hr : r = _) => ?_); subst hr; conv => whnf) | (refine wIn (by omega) ?_; conv => whnf) | (refine nI (by omega) ?_; conv => whnf)))
        all_goals rfl
      · have hgF1 : Gu.ok ⟨(F : Int) + 1, a⟩ d.rs.length := ⟨⟨by simp; omega, by simp; omega⟩, ha⟩
        have c16b := g16 d ⟨(F : Int) + 1, a⟩ (by omega) (by omega) (errC_zero hb (okCl1 hgF1))
        have hw1 : d.worst.gone ⟨(F : Int) + 1, a⟩ ≠ [] := fun hh => by
          have := hF3 (F + 1) (by omega) (by omega)
          rw [stands1, show ((F + 1 : Nat) : Int) = (F : Int) + 1 from by omega, gone_nil.1 hh] at this
          cases this
        have hp1 : 1 ≤ (d.worst.gone ⟨(F : Int) + 1, a⟩).length := by
          cases hh : d.worst.gone ⟨(F : Int) + 1, a⟩ with
          | nil => exact absurd hh hw1
          | cons x l => simp
        have hLg : ((d.worst.gone ⟨(F : Int) + 1, a⟩).map n1).length = (d.worst.gone ⟨(F : Int) + 1, a⟩).length := by simp
        (conv => whnf); (repeat' (first | (refine bT ?_; conv => whnf) | (refine bF ?_; conv => whnf) | (refine bN ?_) | (refine bD (fun hh => ?_) (fun hh => ?_) <;> first | (exfalso; omega) | (conv => whnf)) | (refine bEq (fun hh => ?_) (fun hh => ?_) <;> first | (exfalso; omega) | (conv => whnf)) | (refine bNe (fun hh => ?_) (fun hh => ?_) <;> first | (exfalso; omega) | (conv => whnf)) | (refine (c16).callzq rfl rfl (fun r rows (hr : r = _ ∧ rows = _) => ?_); obtain ⟨hr1, hr2⟩ := hr; subst hr1; subst hr2; refine ⟨rfl, ?_⟩; conv => whnf) | (refine (c16b).callzq rfl rfl (fun r rows (hr : r = _ ∧ rows = _) => ?_); obtain ⟨hr1, hr2⟩ := hr; subst hr1; subst hr2; refine ⟨rfl, ?_⟩; conv => whnf) | (refine (g30).callq rfl rfl (fun r (hr : r = _) => ?_); subst hr; conv => whnf) | (refine wIn (by omega) ?_; conv => whnf) | (refine nI (by omega) ?_; conv => whnf)))
        all_goals rfl
    · rw [decide_eq_false ha] at c23
      refine fnA 8 ok9 (by simp) ?_
      (conv => whnf); (repeat' (first | (refine bT ?_; conv => whnf) | (refine bF ?_; conv => whnf) | (refine bN ?_) | (refine bD (fun hh => ?_) (fun hh => ?_) <;> first | (exfalso; omega) | (conv => whnf)) | (refine bEq (fun hh => ?_) (fun hh => ?_) <;> first | (exfalso; omega) | (conv => whnf)) | (refine bNe (fun hh => ?_) (fun hh => ?_) <;> first | (exfalso; omega) | (conv => whnf)) | (refine (c28).callq rfl rfl (fun r (hr : r = _) => ?_); subst hr; conv => whnf) | (refine (c29).callq rfl rfl (fun r (hr : r = _) => ?_); subst hr; conv => whnf) | (refine (c23).callq rfl rfl (fun r (hr : r = _) => ?_); subst hr; conv => whnf) | (refine (g30).callq rfl rfl (fun r (hr : r = _) => ?_); subst hr; conv => whnf) | (refine wIn (by omega) ?_; conv => whnf) | (refine nI (by omega) ?_; conv => whnf)))
      all_goals rfl
end Go.Proofs
