/- What each function of this program answers, proved by walking its body: further contracts that the law rests on. -/
import Derived.Test.YtpiofeaafnldfaaBFns1
set_option linter.unusedSimpArgs false
set_option linter.unusedVariables false
set_option linter.unusedSectionVars false
namespace Go.Proofs
open Go.Eng
attribute [local irreducible] Go.Eng.brB Go.Eng.need Go.Eng.wrE Go.Eng.iaE Go.Eng.slE Go.Eng.apE Go.Eng.CallZ Go.Eng.CallE Go.Eng.VCallE Go.Eng.YldE Go.Eng.GoC Go.Eng.MeetsE Go.Eng.FnA Go.Eng.FnV Go.Eng.ItA
set_option maxRecDepth 100000

/-- the error of a question about a bolt, about a row, about the dome -/
def Dome.eB (d : Dome) (i : Int) : Int := if d.no i = 0 then (if d.has then 0 else 3) else d.no i
def Dome.eR (d : Dome) (i : Int) : Int := if d.noR i = 0 then (if d.has then 0 else 3) else d.noR i
def Dome.eD (d : Dome) : Int := if d.ok then (if d.has then 0 else 3) else d.chk
theorem eB_ok {d : Dome} {i : Int} (h : d.eB i = 0) : d.ok ∧ d.has = true ∧ 0 ≤ i ∧ i < d.bs.length := by
  unfold Dome.eB at h
  split at h
  · rename_i h1
    obtain ⟨h2, h3⟩ := no_ok h1
    cases hh : d.has with
    | true => exact ⟨h2, rfl, h3⟩
    | false => rw [hh] at h; simp at h
  · omega
theorem eR_ok {d : Dome} {i : Int} (h : d.eR i = 0) : d.ok ∧ d.has = true ∧ 0 ≤ i ∧ i < d.rs.length := by
  unfold Dome.eR at h
  split at h
  · rename_i h1
    obtain ⟨h2, h3⟩ := noR_ok h1
    cases hh : d.has with
    | true => exact ⟨h2, rfl, h3⟩
    | false => rw [hh] at h; simp at h
  · omega
theorem eD_ok {d : Dome} (h : d.eD = 0) : d.ok ∧ d.has = true := by
  unfold Dome.eD at h
  split at h
  · rename_i h1
    cases hh : d.has with
    | true => exact ⟨h1, rfl⟩
    | false => rw [hh] at h; simp at h
  · rename_i h1
    have := chk_pos h1; omega
def opnAV (d : Dome) (e : Int) : AV := if e = 0 then .tup [.agg d.opn.cells, .int .i64 0] else .tup [.agg zeroO, .int .i64 e]
theorem k46' (d : Dome) (i : Int) : FnA Try.prog 46 [.agg d.cells, .isl (d.bs.map Bolt.av), .int .i64 i] (· = opnAV d (d.eB i)) := by
  have := k46 d i
  unfold opnAV Dome.eB
  unfold openAV at this
  by_cases h : d.no i = 0
  · cases hh : d.has <;> simpa [h, hh] using this
  · simpa [h] using this
theorem k48' (d : Dome) (i : Int) : FnA Try.prog 48 [.agg d.cells, .isl (d.rs.map pairAV), .int .i64 i] (· = opnAV d (d.eR i)) := by
  have := k48 d i
  unfold opnAV Dome.eR
  unfold openAV at this
  by_cases h : d.noR i = 0
  · cases hh : d.has <;> simpa [h, hh] using this
  · simpa [h] using this
theorem k51' (d : Dome) : FnA Try.prog 51 [.agg d.cells] (· = opnAV d d.eD) := by
  have := k51 d
  unfold opnAV Dome.eD
  unfold openAV at this
  by_cases h : d.ok
  · cases hh : d.has <;> simpa [h, hh] using this
  · have := chk_pos h
    have h0 : d.chk ≠ 0 := by omega
    simp_all
theorem k18_no (d : Dome) (i : Int) (h : d.eB i ≠ 0) : FnA Try.prog 18 [.agg d.cells, .int .i64 i] (· = .tup [.isl [], .int .i64 (d.eB i)]) := by
  have e := k46' d i
  unfold opnAV at e
  rw [if_neg h] at e
  refine fnA 7 ok18 (by simp) ?_
  (conv => whnf); (repeat' (first | (refine bT ?_; conv => whnf) | (refine bF ?_; conv => whnf) | (refine bN ?_) | (refine bD (fun hh => ?_) (fun hh => ?_) <;> first | (exfalso; omega) | (conv => whnf)) | (refine bEq (fun hh => ?_) (fun hh => ?_) <;> first | (exfalso; omega) | (conv => whnf)) | (refine bNe (fun hh => ?_) (fun hh => ?_) <;> first | (exfalso; omega) | (conv => whnf)) | (refine (e).callzq rfl rfl (fun r (hr : r = _) => ?_); subst hr; conv => whnf) | (refine wIn (by omega) ?_; conv => whnf) | (refine nI (by omega) ?_; conv => whnf)))
  all_goals rfl
theorem k18 (d : Dome) (k : Nat) (h : d.eB k = 0) (hk : k < d.bs.length) : FnA Try.prog 18 [.agg d.cells, .int .i64 k] (· = .tup [.isl (d.bs[k].nums.map iAV), .int .i64 0]) := by
  have e := k46' d k
  unfold opnAV at e
  rw [if_pos h] at e
  obtain ⟨hok, hh, _⟩ := eB_ok h
  have hl : (d.opn.st.map rowAV).length = d.bs.length := by simp [Dome.opn]
  have hg : (d.opn.st.map rowAV).getD k [] = rowAV d.bs[k].nums := by simp [Dome.opn, List.getD_eq_getElem?_getD, hk]
  refine fnA 7 ok18 (by simp) ?_
  (conv => whnf); (repeat' (first | (refine bT ?_; conv => whnf) | (refine bF ?_; conv => whnf) | (refine bN ?_) | (refine bD (fun hh => ?_) (fun hh => ?_) <;> first | (exfalso; omega) | (conv => whnf)) | (refine bEq (fun hh => ?_) (fun hh => ?_) <;> first | (exfalso; omega) | (conv => whnf)) | (refine bNe (fun hh => ?_) (fun hh => ?_) <;> first | (exfalso; omega) | (conv => whnf)) | (refine (e).callzq rfl rfl (fun r (hr : r = _) => ?_); subst hr; conv => whnf) | (refine wIn (by omega) ?_; conv => whnf) | (refine nI (by omega) ?_; conv => whnf)))
  refine iaI (by omega) (by omega) hg ?_
  (conv => whnf); (repeat' (first | (refine bT ?_; conv => whnf) | (refine bF ?_; conv => whnf) | (refine bN ?_) | (refine bD (fun hh => ?_) (fun hh => ?_) <;> first | (exfalso; omega) | (conv => whnf)) | (refine bEq (fun hh => ?_) (fun hh => ?_) <;> first | (exfalso; omega) | (conv => whnf)) | (refine bNe (fun hh => ?_) (fun hh => ?_) <;> first | (exfalso; omega) | (conv => whnf)) | (refine wIn (by omega) ?_; conv => whnf) | (refine nI (by omega) ?_; conv => whnf)))
  all_goals rfl
theorem k21_no (d : Dome) (i : Int) (h : d.eR i ≠ 0) : FnA Try.prog 21 [.agg d.cells, .int .i64 i] (· = .tup [.agg [.int .i64 0, .int .i64 0], .int .i64 (d.eR i)]) := by
  have e := k48' d i
  unfold opnAV at e
  rw [if_neg h] at e
  refine fnA 8 ok21 (by simp) ?_
  (conv => whnf); (repeat' (first | (refine bT ?_; conv => whnf) | (refine bF ?_; conv => whnf) | (refine bN ?_) | (refine bD (fun hh => ?_) (fun hh => ?_) <;> first | (exfalso; omega) | (conv => whnf)) | (refine bEq (fun hh => ?_) (fun hh => ?_) <;> first | (exfalso; omega) | (conv => whnf)) | (refine bNe (fun hh => ?_) (fun hh => ?_) <;> first | (exfalso; omega) | (conv => whnf)) | (refine (e).callzq rfl rfl (fun r (hr : r = _) => ?_); subst hr; conv => whnf) | (refine wIn (by omega) ?_; conv => whnf) | (refine nI (by omega) ?_; conv => whnf)))
  all_goals rfl
theorem k21 (d : Dome) (k : Nat) (h : d.eR k = 0) (hk : k < d.ws.length) : FnA Try.prog 21 [.agg d.cells, .int .i64 k] (· = .tup [.agg [.int .i64 (d.opn.round d.ws[k]).1, .int .i64 (d.opn.round d.ws[k]).2], .int .i64 0]) := by
  have e := k48' d k
  unfold opnAV at e
  rw [if_pos h] at e
  obtain ⟨hok, hh, _⟩ := eR_ok h
  have hl : (d.ws.map iAV).length = d.ws.length := by simp
  have hw := hok.1.2.2.2.2.2.2.2.1 _ (List.getElem_mem hk)
  have hll := hok.1.2.2.2.1
  have e2 := k49 d.opn d.ws[k] (opn_ok hok hh) (by omega)
  refine fnA 8 ok21 (by simp) ?_
  (conv => whnf); (repeat' (first | (refine bT ?_; conv => whnf) | (refine bF ?_; conv => whnf) | (refine bN ?_) | (refine bD (fun hh => ?_) (fun hh => ?_) <;> first | (exfalso; omega) | (conv => whnf)) | (refine bEq (fun hh => ?_) (fun hh => ?_) <;> first | (exfalso; omega) | (conv => whnf)) | (refine bNe (fun hh => ?_) (fun hh => ?_) <;> first | (exfalso; omega) | (conv => whnf)) | (refine (e).callzq rfl rfl (fun r (hr : r = _) => ?_); subst hr; conv => whnf) | (refine wIn (by omega) ?_; conv => whnf) | (refine nI (by omega) ?_; conv => whnf)))
  refine iaI (by omega) (by omega) (getD_map iAV d.ws k hk) ?_
  (conv => whnf); (repeat' (first | (refine bT ?_; conv => whnf) | (refine bF ?_; conv => whnf) | (refine bN ?_) | (refine bD (fun hh => ?_) (fun hh => ?_) <;> first | (exfalso; omega) | (conv => whnf)) | (refine bEq (fun hh => ?_) (fun hh => ?_) <;> first | (exfalso; omega) | (conv => whnf)) | (refine bNe (fun hh => ?_) (fun hh => ?_) <;> first | (exfalso; omega) | (conv => whnf)) | (refine (e2).lendq rfl (fun r (hr : r = _) => ?_); subst hr; refine ⟨rfl, ?_⟩; conv => whnf) | (refine wIn (by omega) ?_; conv => whnf) | (refine nI (by omega) ?_; conv => whnf)))
  all_goals rfl
theorem k22_no (d : Dome) (i : Int) (h : d.eR i ≠ 0) : FnA Try.prog 22 [.agg d.cells, .int .i64 i] (· = .tup [.int .i64 0, .int .i64 (d.eR i)]) := by
  have e := k48' d i
  unfold opnAV at e
  rw [if_neg h] at e
  refine fnA 7 ok22 (by simp) ?_
  (conv => whnf); (repeat' (first | (refine bT ?_; conv => whnf) | (refine bF ?_; conv => whnf) | (refine bN ?_) | (refine bD (fun hh => ?_) (fun hh => ?_) <;> first | (exfalso; omega) | (conv => whnf)) | (refine bEq (fun hh => ?_) (fun hh => ?_) <;> first | (exfalso; omega) | (conv => whnf)) | (refine bNe (fun hh => ?_) (fun hh => ?_) <;> first | (exfalso; omega) | (conv => whnf)) | (refine (e).callzq rfl rfl (fun r (hr : r = _) => ?_); subst hr; conv => whnf) | (refine wIn (by omega) ?_; conv => whnf) | (refine nI (by omega) ?_; conv => whnf)))
  all_goals rfl
theorem k22 (d : Dome) (k : Nat) (h : d.eR k = 0) (hk : k < d.rs.length) (hkw : k < d.ws.length) : FnA Try.prog 22 [.agg d.cells, .int .i64 k] (· = .tup [.int .i64 (d.opn.tv d.rs[k] d.ws[k]), .int .i64 0]) := by
  have e := k48' d k
  unfold opnAV at e
  rw [if_pos h] at e
  obtain ⟨hok, hh, _⟩ := eR_ok h
  have e2 := k50 d.opn k (opn_ok hok hh) hk hkw
  refine fnA 7 ok22 (by simp) ?_
  (conv => whnf); (repeat' (first | (refine bT ?_; conv => whnf) | (refine bF ?_; conv => whnf) | (refine bN ?_) | (refine bD (fun hh => ?_) (fun hh => ?_) <;> first | (exfalso; omega) | (conv => whnf)) | (refine bEq (fun hh => ?_) (fun hh => ?_) <;> first | (exfalso; omega) | (conv => whnf)) | (refine bNe (fun hh => ?_) (fun hh => ?_) <;> first | (exfalso; omega) | (conv => whnf)) | (refine (e).callzq rfl rfl (fun r (hr : r = _) => ?_); subst hr; conv => whnf) | (refine (e2).lendq rfl (fun r (hr : r = _) => ?_); subst hr; refine ⟨rfl, ?_⟩; conv => whnf) | (refine wIn (by omega) ?_; conv => whnf) | (refine nI (by omega) ?_; conv => whnf)))
  all_goals rfl
theorem k26_no (d : Dome) (i : Int) (h : d.eR i ≠ 0) : FnA Try.prog 26 [.agg d.cells, .int .i64 i] (· = .tup [.agg [.int .i64 0, .int .i64 0], .int .i64 (d.eR i)]) := by
  have e := k48' d i
  unfold opnAV at e
  rw [if_neg h] at e
  refine fnA 8 ok26 (by simp) ?_
  (conv => whnf); (repeat' (first | (refine bT ?_; conv => whnf) | (refine bF ?_; conv => whnf) | (refine bN ?_) | (refine bD (fun hh => ?_) (fun hh => ?_) <;> first | (exfalso; omega) | (conv => whnf)) | (refine bEq (fun hh => ?_) (fun hh => ?_) <;> first | (exfalso; omega) | (conv => whnf)) | (refine bNe (fun hh => ?_) (fun hh => ?_) <;> first | (exfalso; omega) | (conv => whnf)) | (refine (e).callzq rfl rfl (fun r (hr : r = _) => ?_); subst hr; conv => whnf) | (refine wIn (by omega) ?_; conv => whnf) | (refine nI (by omega) ?_; conv => whnf)))
  all_goals rfl
theorem k26 (d : Dome) (k : Nat) (h : d.eR k = 0) (hk : k < d.rs.length) : FnA Try.prog 26 [.agg d.cells, .int .i64 k] (· = cutAV (d.opn.cut d.rs[k])) := by
  have e := k48' d k
  unfold opnAV at e
  rw [if_pos h] at e
  obtain ⟨hok, hh, _⟩ := eR_ok h
  have e2 : FnA Try.prog 53 [.agg d.opn.cells, .int .i64 k] (· = cutAV (d.opn.cut d.rs[k])) := k53 d.opn k (opn_ok hok hh) hk
  cases hc : d.opn.cut d.rs[k] with
  | none =>
    rw [hc] at e2
    simp only [cutAV] at e2 ⊢
    refine fnA 8 ok26 (by simp) ?_
    (conv => whnf); (repeat' (first | (refine bT ?_; conv => whnf) | (refine bF ?_; conv => whnf) | (refine bN ?_) | (refine bD (fun hh => ?_) (fun hh => ?_) <;> first | (exfalso; omega) | (conv => whnf)) | (refine bEq (fun hh => ?_) (fun hh => ?_) <;> first | (exfalso; omega) | (conv => whnf)) | (refine bNe (fun hh => ?_) (fun hh => ?_) <;> first | (exfalso; omega) | (conv => whnf)) | (refine (e).callzq rfl rfl (fun r (hr : r = _) => ?_); subst hr; conv => whnf) | (refine (e2).lendq rfl (fun r (hr : r = _) => ?_); subst hr; refine ⟨rfl, ?_⟩; conv => whnf) | (refine wIn (by omega) ?_; conv => whnf) | (refine nI (by omega) ?_; conv => whnf)))
    all_goals rfl
  | some c =>
    rw [hc] at e2
    simp only [cutAV] at e2 ⊢
    refine fnA 8 ok26 (by simp) ?_
    (conv => whnf); (repeat' (first | (refine bT ?_; conv => whnf) | (refine bF ?_; conv => whnf) | (refine bN ?_) | (refine bD (fun hh => ?_) (fun hh => ?_) <;> first | (exfalso; omega) | (conv => whnf)) | (refine bEq (fun hh => ?_) (fun hh => ?_) <;> first | (exfalso; omega) | (conv => whnf)) | (refine bNe (fun hh => ?_) (fun hh => ?_) <;> first | (exfalso; omega) | (conv => whnf)) | (refine (e).callzq rfl rfl (fun r (hr : r = _) => ?_); subst hr; conv => whnf) | (refine (e2).lendq rfl (fun r (hr : r = _) => ?_); subst hr; refine ⟨rfl, ?_⟩; conv => whnf) | (refine wIn (by omega) ?_; conv => whnf) | (refine nI (by omega) ?_; conv => whnf)))
    all_goals rfl
theorem k43_no (d : Dome) (h : d.eD ≠ 0) : FnA Try.prog 43 [.agg d.cells] (· = .tup [.isl [], .int .i64 d.eD]) := by
  have e := k51' d
  unfold opnAV at e
  rw [if_neg h] at e
  refine fnA 8 ok43 (by simp) ?_
  (conv => whnf); (repeat' (first | (refine bT ?_; conv => whnf) | (refine bF ?_; conv => whnf) | (refine bN ?_) | (refine bD (fun hh => ?_) (fun hh => ?_) <;> first | (exfalso; omega) | (conv => whnf)) | (refine bEq (fun hh => ?_) (fun hh => ?_) <;> first | (exfalso; omega) | (conv => whnf)) | (refine bNe (fun hh => ?_) (fun hh => ?_) <;> first | (exfalso; omega) | (conv => whnf)) | (refine (e).callzq rfl rfl (fun r (hr : r = _) => ?_); subst hr; conv => whnf) | (refine wIn (by omega) ?_; conv => whnf) | (refine nI (by omega) ?_; conv => whnf)))
  all_goals rfl
theorem k43 (d : Dome) (h : d.eD = 0) : FnA Try.prog 43 [.agg d.cells] (· = curveAV d.opn.curve) := by
  have e := k51' d
  unfold opnAV at e
  rw [if_pos h] at e
  obtain ⟨hok, hh⟩ := eD_ok h
  have e2 := k68 d.opn (opn_ok hok hh)
  cases hc : d.opn.curve with
  | none =>
    rw [hc] at e2
    simp only [curveAV] at e2 ⊢
    refine fnA 8 ok43 (by simp) ?_
    (conv => whnf); (repeat' (first | (refine bT ?_; conv => whnf) | (refine bF ?_; conv => whnf) | (refine bN ?_) | (refine bD (fun hh => ?_) (fun hh => ?_) <;> first | (exfalso; omega) | (conv => whnf)) | (refine bEq (fun hh => ?_) (fun hh => ?_) <;> first | (exfalso; omega) | (conv => whnf)) | (refine bNe (fun hh => ?_) (fun hh => ?_) <;> first | (exfalso; omega) | (conv => whnf)) | (refine (e).callzq rfl rfl (fun r (hr : r = _) => ?_); subst hr; conv => whnf) | (refine (e2).callzq rfl rfl (fun r (hr : r = _) => ?_); subst hr; conv => whnf) | (refine wIn (by omega) ?_; conv => whnf) | (refine nI (by omega) ?_; conv => whnf)))
    all_goals rfl
  | some c =>
    rw [hc] at e2
    simp only [curveAV] at e2 ⊢
    refine fnA 8 ok43 (by simp) ?_
    (conv => whnf); (repeat' (first | (refine bT ?_; conv => whnf) | (refine bF ?_; conv => whnf) | (refine bN ?_) | (refine bD (fun hh => ?_) (fun hh => ?_) <;> first | (exfalso; omega) | (conv => whnf)) | (refine bEq (fun hh => ?_) (fun hh => ?_) <;> first | (exfalso; omega) | (conv => whnf)) | (refine bNe (fun hh => ?_) (fun hh => ?_) <;> first | (exfalso; omega) | (conv => whnf)) | (refine (e).callzq rfl rfl (fun r (hr : r = _) => ?_); subst hr; conv => whnf) | (refine (e2).callzq rfl rfl (fun r (hr : r = _) => ?_); subst hr; conv => whnf) | (refine wIn (by omega) ?_; conv => whnf) | (refine nI (by omega) ?_; conv => whnf)))
    all_goals rfl

theorem cuts_lo {o : Opn} (hok : o.ok) {cs : List (Int × Int)} (hc : o.cuts = some cs) : ∀ i, i < cs.length → 0 ≤ (cs.getD i (0, 0)).1 ∧ (cs.getD i (0, 0)).1 ≤ 2000 := fun i hi => by
  have hn : cs.length = o.d.rs.length := cutsN_len hc
  have := cut_in hok (cutsN_get hc i (by omega))
  have hl := hok.d.1.2.2.2.1
  omega
theorem curve_in {o : Opn} (hok : o.ok) {l : List Int} (h : o.curve = some l) : l.length = o.d.rs.length ∧ ∀ x ∈ l, 0 ≤ x ∧ x ≤ 2000 := by
  have hsl := hok.d.1.2.2.2.2.2.2.2.2
  unfold Opn.curve at h
  split at h
  · cases h
  · rename_i cs hc
    split at h <;> cases h
    have hn : cs.length = o.d.rs.length := cutsN_len hc
    refine ⟨by simp [curveL, hn], fun x hx => ?_⟩
    simp only [curveL, List.mem_map, List.mem_range] at hx
    obtain ⟨i, hi, rfl⟩ := hx
    exact dnF_in hsl.1 (cuts_lo hok hc) _ (by omega)
theorem sum_in {l : List Int} (h : ∀ x ∈ l, 0 ≤ x ∧ x ≤ 2000) : 0 ≤ l.sum ∧ l.sum ≤ l.length * 2000 := by
  induction l with
  | nil => simp
  | cons a l ih =>
    have h1 := ih fun x hx => h x (by simp [hx])
    have h2 := h a (by simp)
    have e : ((a :: l).length : Int) * 2000 = l.length * 2000 + 2000 := by simp [Int.add_mul]
    rw [List.sum_cons, e]; omega
theorem sum_succ {l : List Int} {k : Nat} (hk : k < l.length) : (l.take (k + 1)).sum = (l.take k).sum + l[k] := by
  rw [List.take_succ_eq_append_getElem hk, List.sum_append]
  simp
def leastAV : Option (List Int) → AV
  | none => .tup [.int .i64 0, .int .i64 3]
  | some l => .tup [.int .i64 l.sum, .int .i64 0]
theorem k30_no (d : Dome) (h : d.eD ≠ 0) : FnA Try.prog 30 [.agg d.cells] (· = .tup [.int .i64 0, .int .i64 d.eD]) := by
  have e := k43_no d h
  refine fnA 2 ok30 (by simp) ?_
  (conv => whnf); (repeat' (first | (refine bT ?_; conv => whnf) | (refine bF ?_; conv => whnf) | (refine bN ?_) | (refine bD (fun hh => ?_) (fun hh => ?_) <;> first | (exfalso; omega) | (conv => whnf)) | (refine bEq (fun hh => ?_) (fun hh => ?_) <;> first | (exfalso; omega) | (conv => whnf)) | (refine bNe (fun hh => ?_) (fun hh => ?_) <;> first | (exfalso; omega) | (conv => whnf)) | (refine (e).callzq rfl rfl (fun r (hr : r = _) => ?_); subst hr; conv => whnf) | (refine wIn (by omega) ?_; conv => whnf) | (refine nI (by omega) ?_; conv => whnf)))
  refine loop_i (α := Unit) (fun _ => [(16, .int .i64 0), (15, .int .i64 0), (14, .isl []), (6, .int .i64 0), (5, .int .i64 d.eD)]) (fun _ => [.fresh, .fresh]) (fun _ => True) (fun _ => 0) () (meets_id (by (repeat' apply And.intro) <;> first | rfl | exact True.intro | (intro hh; cases hh))) trivial ?_
  intro _ _
  (conv => whnf); (repeat' (first | (refine bT ?_; conv => whnf) | (refine bF ?_; conv => whnf) | (refine bN ?_) | (refine bD (fun hh => ?_) (fun hh => ?_) <;> first | (exfalso; omega) | (conv => whnf)) | (refine bEq (fun hh => ?_) (fun hh => ?_) <;> first | (exfalso; omega) | (conv => whnf)) | (refine bNe (fun hh => ?_) (fun hh => ?_) <;> first | (exfalso; omega) | (conv => whnf)) | (refine wIn (by omega) ?_; conv => whnf) | (refine nI (by omega) ?_; conv => whnf)))
  all_goals rfl
theorem k30 (d : Dome) (h : d.eD = 0) : FnA Try.prog 30 [.agg d.cells] (· = leastAV d.opn.curve) := by
  have e := k43 d h
  obtain ⟨hok, hh⟩ := eD_ok h
  have hrl := hok.1.2.2.2.2.1
  cases hc : d.opn.curve with
  | none =>
    rw [hc] at e
    simp only [curveAV, leastAV] at e ⊢
    refine fnA 2 ok30 (by simp) ?_
    (conv => whnf); (repeat' (first | (refine bT ?_; conv => whnf) | (refine bF ?_; conv => whnf) | (refine bN ?_) | (refine bD (fun hh => ?_) (fun hh => ?_) <;> first | (exfalso; omega) | (conv => whnf)) | (refine bEq (fun hh => ?_) (fun hh => ?_) <;> first | (exfalso; omega) | (conv => whnf)) | (refine bNe (fun hh => ?_) (fun hh => ?_) <;> first | (exfalso; omega) | (conv => whnf)) | (refine (e).callzq rfl rfl (fun r (hr : r = _) => ?_); subst hr; conv => whnf) | (refine wIn (by omega) ?_; conv => whnf) | (refine nI (by omega) ?_; conv => whnf)))
    refine loop_i (α := Unit) (fun _ => [(16, .int .i64 0), (15, .int .i64 0), (14, .isl []), (6, .int .i64 0), (5, .int .i64 3)]) (fun _ => [.fresh, .fresh]) (fun _ => True) (fun _ => 0) () (meets_id (by (repeat' apply And.intro) <;> first | rfl | exact True.intro | (intro hh; cases hh))) trivial ?_
    intro _ _
    (conv => whnf); (repeat' (first | (refine bT ?_; conv => whnf) | (refine bF ?_; conv => whnf) | (refine bN ?_) | (refine bD (fun hh => ?_) (fun hh => ?_) <;> first | (exfalso; omega) | (conv => whnf)) | (refine bEq (fun hh => ?_) (fun hh => ?_) <;> first | (exfalso; omega) | (conv => whnf)) | (refine bNe (fun hh => ?_) (fun hh => ?_) <;> first | (exfalso; omega) | (conv => whnf)) | (refine wIn (by omega) ?_; conv => whnf) | (refine nI (by omega) ?_; conv => whnf)))
    all_goals rfl
  | some l =>
    rw [hc] at e
    simp only [curveAV, leastAV] at e ⊢
    obtain ⟨hll, hin⟩ := curve_in (opn_ok hok hh) hc
    have hll' : l.length ≤ 12 := by rw [hll]; exact hrl.2
    have hl1 : (l.map iAV).length = l.length := by simp
    refine fnA 2 ok30 (by simp) ?_
    (conv => whnf); (repeat' (first | (refine bT ?_; conv => whnf) | (refine bF ?_; conv => whnf) | (refine bN ?_) | (refine bD (fun hh => ?_) (fun hh => ?_) <;> first | (exfalso; omega) | (conv => whnf)) | (refine bEq (fun hh => ?_) (fun hh => ?_) <;> first | (exfalso; omega) | (conv => whnf)) | (refine bNe (fun hh => ?_) (fun hh => ?_) <;> first | (exfalso; omega) | (conv => whnf)) | (refine (e).callzq rfl rfl (fun r (hr : r = _) => ?_); subst hr; conv => whnf) | (refine wIn (by omega) ?_; conv => whnf) | (refine nI (by omega) ?_; conv => whnf)))
    refine loop_i (α := Nat) (fun k => [(16, .int .i64 k), (15, .int .i64 ↑(l.map iAV).length), (14, .isl (l.map iAV)), (6, .int .i64 (l.take k).sum), (5, .int .i64 0)]) (fun _ => [.fresh, .fresh]) (fun k => k ≤ l.length) (fun k => l.length - k) 0 (meets_id (by (repeat' apply And.intro) <;> first | rfl | exact True.intro | (intro hh; cases hh))) (by omega) ?_
    intro k hk0
    conv => whnf
    refine bD (fun h4 => ?_) (fun h4 => ?_)
    · have hk : k < l.length := by omega
      have h1 := sum_in (l := l.take k) fun x hx => hin x (List.mem_of_mem_take hx)
      have h2 := hin _ (List.getElem_mem hk)
      have h3 : (l.take k).length ≤ 12 := by rw [List.length_take]; omega
      have h5 := sum_succ hk
      conv => whnf
      refine iaI (by omega) (by omega) (getD_map iAV l k hk) ?_
      (conv => whnf); (repeat' (first | (refine bT ?_; conv => whnf) | (refine bF ?_; conv => whnf) | (refine bN ?_) | (refine bD (fun hh => ?_) (fun hh => ?_) <;> first | (exfalso; omega) | (conv => whnf)) | (refine bEq (fun hh => ?_) (fun hh => ?_) <;> first | (exfalso; omega) | (conv => whnf)) | (refine bNe (fun hh => ?_) (fun hh => ?_) <;> first | (exfalso; omega) | (conv => whnf)) | (refine wIn (by omega) ?_; conv => whnf) | (refine nI (by omega) ?_; conv => whnf)))
      refine ⟨k + 1, ?_, by omega, by omega⟩
      rw [h5]
      exact (meets_id (by (repeat' apply And.intro) <;> first | rfl | exact True.intro | (intro hh; cases hh)))
    · have : k = l.length := by omega
      subst this
      rw [List.take_length]
      (conv => whnf); (repeat' (first | (refine bT ?_; conv => whnf) | (refine bF ?_; conv => whnf) | (refine bN ?_) | (refine bD (fun hh => ?_) (fun hh => ?_) <;> first | (exfalso; omega) | (conv => whnf)) | (refine bEq (fun hh => ?_) (fun hh => ?_) <;> first | (exfalso; omega) | (conv => whnf)) | (refine bNe (fun hh => ?_) (fun hh => ?_) <;> first | (exfalso; omega) | (conv => whnf)) | (refine wIn (by omega) ?_; conv => whnf) | (refine nI (by omega) ?_; conv => whnf)))
      all_goals rfl
/-- the rows that are not surely tight *)-/
def Opn.looseN (o : Opn) (n : Nat) : List Int := ((List.range n).filter fun k => !o.sure (o.d.rs.getD k (0, 0)) (o.d.ws.getD k 0)).map fun (k : Nat) => (k : Int)
def Opn.loose (o : Opn) : List Int := o.looseN o.d.rs.length
theorem looseN_succ (o : Opn) (k : Nat) : o.looseN (k + 1) = if (!o.sure (o.d.rs.getD k (0, 0)) (o.d.ws.getD k 0)) = true then o.looseN k ++ [(k : Int)] else o.looseN k := by
  unfold Opn.looseN
  rw [List.range_succ, List.filter_append]
  simp only [List.filter_cons, List.filter_nil]
  split <;> simp
theorem looseN_le (o : Opn) (k : Nat) : (o.looseN k).length ≤ k := by
  unfold Opn.looseN
  rw [List.length_map]
  refine Nat.le_trans (List.length_filter_le _ _) (by simp)
theorem k23_no (d : Dome) (h : d.eD ≠ 0) : FnA Try.prog 23 [.agg d.cells] (· = .tup [.isl [], .int .i64 d.eD]) := by
  have e := k51' d
  unfold opnAV at e
  rw [if_neg h] at e
  refine fnA 9 ok23 (by simp) ?_
  (conv => whnf); (repeat' (first | (refine bT ?_; conv => whnf) | (refine bF ?_; conv => whnf) | (refine bN ?_) | (refine bD (fun hh => ?_) (fun hh => ?_) <;> first | (exfalso; omega) | (conv => whnf)) | (refine bEq (fun hh => ?_) (fun hh => ?_) <;> first | (exfalso; omega) | (conv => whnf)) | (refine bNe (fun hh => ?_) (fun hh => ?_) <;> first | (exfalso; omega) | (conv => whnf)) | (refine (e).callzq rfl rfl (fun r (hr : r = _) => ?_); subst hr; conv => whnf) | (refine wIn (by omega) ?_; conv => whnf) | (refine nI (by omega) ?_; conv => whnf)))
  all_goals rfl
theorem k23 (d : Dome) (h : d.eD = 0) : FnA Try.prog 23 [.agg d.cells] (· = .tup [.isl (d.opn.loose.map iAV), .int .i64 0]) := by
  have e := k51' d
  unfold opnAV at e
  rw [if_pos h] at e
  obtain ⟨hok, hh⟩ := eD_ok h
  have hoo := opn_ok hok hh
  have hrl := hok.1.2.2.2.2.1
  have hwl := hok.1.2.2.2.2.2.2.1
  have hl1 : (d.ws.map iAV).length = d.ws.length := by simp
  have hll := hok.1.2.2.2.1
  refine fnA 10 ok23 (by simp) ?_
  (conv => whnf); (repeat' (first | (refine bT ?_; conv => whnf) | (refine bF ?_; conv => whnf) | (refine bN ?_) | (refine bD (fun hh => ?_) (fun hh => ?_) <;> first | (exfalso; omega) | (conv => whnf)) | (refine bEq (fun hh => ?_) (fun hh => ?_) <;> first | (exfalso; omega) | (conv => whnf)) | (refine bNe (fun hh => ?_) (fun hh => ?_) <;> first | (exfalso; omega) | (conv => whnf)) | (refine (e).callzq rfl rfl (fun r (hr : r = _) => ?_); subst hr; conv => whnf) | (refine wIn (by omega) ?_; conv => whnf) | (refine nI (by omega) ?_; conv => whnf)))
  refine loop_i (α := Nat) (fun k => [(21, .int .i64 k), (20, .int .i64 ↑(d.ws.map iAV).length), (19, .isl (d.ws.map iAV)), (6, .row 9), (4, .own 6 0)]) (fun k => [.fresh, .fresh, .fresh, .fresh, .fresh, .fresh, .box false d.opn.cells, .fresh, .fresh, .row false 3 1 ((d.opn.looseN k).map iAV)]) (fun k => k ≤ d.ws.length) (fun k => d.ws.length - k) 0 (meets_nil 9 (by (repeat' apply And.intro) <;> first | rfl | exact True.intro | (intro hh; cases hh))) (by omega) ?_
  intro k hk0
  conv => whnf
  refine bD (fun h4 => ?_) (fun h4 => ?_)
  · have hk : k < d.ws.length := by omega
    have hkr : k < d.rs.length := by omega
    have hw := hok.1.2.2.2.2.2.2.2.1 _ (List.getElem_mem hk)
    have e2 : FnA Try.prog 52 [.agg d.opn.cells, .int .i64 k, .int .i64 d.ws[k]] (· = .bool (d.opn.sure d.rs[k] d.ws[k])) := k52 d.opn k d.ws[k] hoo hkr (by omega)
    have hs := looseN_succ d.opn k
    rw [show d.opn.d.rs.getD k (0, 0) = d.rs[k] from by simp [Dome.opn, List.getD_eq_getElem?_getD, hkr], show d.opn.d.ws.getD k 0 = d.ws[k] from by simp [Dome.opn, List.getD_eq_getElem?_getD, hk]] at hs
    have hle := looseN_le d.opn k
    conv => whnf
    refine iaI (by omega) (by omega) (getD_map iAV d.ws k hk) ?_
    cases hq : d.opn.sure d.rs[k] d.ws[k] with
    | true =>
      rw [hq] at e2 hs
      rw [if_neg (by simp)] at hs
      (conv => whnf); (repeat' (first | (refine bT ?_; conv => whnf) | (refine bF ?_; conv => whnf) | (refine bN ?_) | (refine bD (fun hh => ?_) (fun hh => ?_) <;> first | (exfalso; omega) | (conv => whnf)) | (refine bEq (fun hh => ?_) (fun hh => ?_) <;> first | (exfalso; omega) | (conv => whnf)) | (refine bNe (fun hh => ?_) (fun hh => ?_) <;> first | (exfalso; omega) | (conv => whnf)) | (refine (e2).lendq rfl (fun r (hr : r = _) => ?_); subst hr; refine ⟨rfl, ?_⟩; conv => whnf) | (refine wIn (by omega) ?_; conv => whnf) | (refine nI (by omega) ?_; conv => whnf)))
      refine ⟨k + 1, ?_, by omega, by omega⟩
      rw [hs]
      exact (meets_id (by (repeat' apply And.intro) <;> first | rfl | exact True.intro | (intro hh; cases hh)))
    | false =>
      rw [hq] at e2 hs
      rw [if_pos (by simp)] at hs
      (conv => whnf); (repeat' (first | (refine bT ?_; conv => whnf) | (refine bF ?_; conv => whnf) | (refine bN ?_) | (refine bD (fun hh => ?_) (fun hh => ?_) <;> first | (exfalso; omega) | (conv => whnf)) | (refine bEq (fun hh => ?_) (fun hh => ?_) <;> first | (exfalso; omega) | (conv => whnf)) | (refine bNe (fun hh => ?_) (fun hh => ?_) <;> first | (exfalso; omega) | (conv => whnf)) | (refine (e2).lendq rfl (fun r (hr : r = _) => ?_); subst hr; refine ⟨rfl, ?_⟩; conv => whnf) | (refine wIn (by omega) ?_; conv => whnf) | (refine nI (by omega) ?_; conv => whnf)))
      refine apI (by simp [AV.one]) (by simp; omega) ?_
      (conv => whnf); (repeat' (first | (refine bT ?_; conv => whnf) | (refine bF ?_; conv => whnf) | (refine bN ?_) | (refine bD (fun hh => ?_) (fun hh => ?_) <;> first | (exfalso; omega) | (conv => whnf)) | (refine bEq (fun hh => ?_) (fun hh => ?_) <;> first | (exfalso; omega) | (conv => whnf)) | (refine bNe (fun hh => ?_) (fun hh => ?_) <;> first | (exfalso; omega) | (conv => whnf)) | (refine wIn (by omega) ?_; conv => whnf) | (refine nI (by omega) ?_; conv => whnf)))
      refine ⟨k + 1, ?_, by omega, by omega⟩
      have e3 : (d.opn.looseN (k + 1)).map iAV = (d.opn.looseN k).map iAV ++ [[.int .i64 (k : Int)]] := by rw [hs]; simp [iAV]
      rw [e3]
      exact (meets_ren 9 8 (by (repeat' apply And.intro) <;> first | rfl | exact True.intro | (intro hh; cases hh)))
  · have : k = d.rs.length := by omega
    subst this
    (conv => whnf); (repeat' (first | (refine bT ?_; conv => whnf) | (refine bF ?_; conv => whnf) | (refine bN ?_) | (refine bD (fun hh => ?_) (fun hh => ?_) <;> first | (exfalso; omega) | (conv => whnf)) | (refine bEq (fun hh => ?_) (fun hh => ?_) <;> first | (exfalso; omega) | (conv => whnf)) | (refine bNe (fun hh => ?_) (fun hh => ?_) <;> first | (exfalso; omega) | (conv => whnf)) | (refine wIn (by omega) ?_; conv => whnf) | (refine nI (by omega) ?_; conv => whnf)))
    all_goals rfl

/-- all choices of numbers of bolts, behind some numbers -/
def tr : List Bolt → List Int → List (List Int)
  | [], f => [f]
  | b :: bs, f => b.nums.flatMap fun x => tr bs (f ++ [x])
theorem flat_le {α : Type} (g : α → List (List Int)) (N : Nat) : ∀ (l : List α), (∀ x ∈ l, (g x).length ≤ N) → (l.flatMap g).length ≤ l.length * N
  | [], _ => by simp
  | a :: l, h => by
    have h1 := flat_le g N l fun x hx => h x (by simp [hx])
    have h2 := h a (by simp)
    simp only [List.flatMap_cons, List.length_append, List.length_cons, Nat.add_mul]
    omega
theorem tr_le : ∀ (bs : List Bolt) (f : List Int), (∀ b ∈ bs, b.ok) → (tr bs f).length ≤ 100 ^ bs.length
  | [], f, _ => by simp [tr]
  | b :: bs, f, h => by
    have h1 := flat_le (fun x => tr bs (f ++ [x])) (100 ^ bs.length) b.nums fun x _ => tr_le bs _ fun b hb => h b (by simp [hb])
    have h2 := nums_le b (h b (by simp))
    have h3 : b.nums.length * 100 ^ bs.length ≤ 100 * 100 ^ bs.length := Nat.mul_le_mul_right _ (by omega)
    simp only [tr, List.length_cons, Nat.pow_succ]
    omega
theorem flat_succ {α β : Type} (g : α → List β) {l : List α} {k : Nat} (hk : k < l.length) : (l.take (k + 1)).flatMap g = (l.take k).flatMap g ++ g l[k] := by
  rw [List.take_succ_eq_append_getElem hk, List.flatMap_append]; simp
theorem one_iAV (l : List Int) : ∀ e ∈ l.map iAV, e.length = 1 ∧ e.all AV.one = true := fun e he => by
  obtain ⟨x, _, rfl⟩ := List.mem_map.1 he; exact ⟨rfl, rfl⟩
theorem one_rowAV (l : List (List Int)) : ∀ e ∈ l.map rowAV, e.length = 1 ∧ e.all AV.one = true := fun e he => by
  obtain ⟨x, _, rfl⟩ := List.mem_map.1 he; exact ⟨rfl, rfl⟩

theorem k57 (d : Dome) (hok : d.ok) : ∀ (n : Nat) (f : List Int), f.length + n = d.bs.length → FnA Try.prog 57 [.agg d.cells, .isl (f.map iAV)] (· = .isl ((tr (d.bs.drop f.length) f).map rowAV))
  | 0, f, hf => by
    have l1 : (d.bs.map Bolt.av).length = d.bs.length := by simp
    have l2 : (f.map iAV).length = f.length := by simp
    have e : tr (d.bs.drop f.length) f = [f] := by rw [List.drop_eq_nil_of_le (by omega)]; rfl
    rw [e]
    refine fnA 9 ok57 (by simp) ?_
    (conv => whnf); (repeat' (first | (refine bT ?_; conv => whnf) | (refine bF ?_; conv => whnf) | (refine bN ?_) | (refine bD (fun hh => ?_) (fun hh => ?_) <;> first | (exfalso; omega) | (conv => whnf)) | (refine bEq (fun hh => ?_) (fun hh => ?_) <;> first | (exfalso; omega) | (conv => whnf)) | (refine bNe (fun hh => ?_) (fun hh => ?_) <;> first | (exfalso; omega) | (conv => whnf)) | (refine wIn (by omega) ?_; conv => whnf) | (refine nI (by omega) ?_; conv => whnf)))
    all_goals rfl
  | n + 1, f, hf => by
    have l1 : (d.bs.map Bolt.av).length = d.bs.length := by simp
    have l2 : (f.map iAV).length = f.length := by simp
    have hk : f.length < d.bs.length := by omega
    have hbl := hok.1.1.2
    have hb := hok.2 _ (List.getElem_mem hk)
    have hgb := getD_map Bolt.av d.bs f.length hk
    have e : d.bs.drop f.length = d.bs[f.length] :: d.bs.drop (f.length + 1) := List.drop_eq_getElem_cons hk
    rw [e]
    have hdr : ∀ b ∈ d.bs.drop (f.length + 1), b.ok := fun b hb => hok.2 b (List.mem_of_mem_drop hb)
    generalize d.bs[f.length] = b at *
    have ih := fun x => k57 d hok n (f ++ [x]) (by simp; omega)
    have hll := nums_le b hb
    have hl3 : (b.nums.map iAV).length = b.nums.length := by simp
    refine fnA 10 ok57 (by simp) ?_
    (conv => whnf); (repeat' (first | (refine bT ?_; conv => whnf) | (refine bF ?_; conv => whnf) | (refine bN ?_) | (refine bD (fun hh => ?_) (fun hh => ?_) <;> first | (exfalso; omega) | (conv => whnf)) | (refine bEq (fun hh => ?_) (fun hh => ?_) <;> first | (exfalso; omega) | (conv => whnf)) | (refine bNe (fun hh => ?_) (fun hh => ?_) <;> first | (exfalso; omega) | (conv => whnf)) | (refine wIn (by omega) ?_; conv => whnf) | (refine nI (by omega) ?_; conv => whnf)))
    refine iaI (by omega) (by omega) (show (d.bs.map Bolt.av).getD _ [] = b.av from by rw [Int.toNat_natCast, l2]; exact hgb) ?_
    (conv => whnf); (repeat' (first | (refine bT ?_; conv => whnf) | (refine bF ?_; conv => whnf) | (refine bN ?_) | (refine bD (fun hh => ?_) (fun hh => ?_) <;> first | (exfalso; omega) | (conv => whnf)) | (refine bEq (fun hh => ?_) (fun hh => ?_) <;> first | (exfalso; omega) | (conv => whnf)) | (refine bNe (fun hh => ?_) (fun hh => ?_) <;> first | (exfalso; omega) | (conv => whnf)) | (refine (k65 b hb).callzq rfl rfl (fun r (hr : r = _) => ?_); subst hr; conv => whnf) | (refine wIn (by omega) ?_; conv => whnf) | (refine nI (by omega) ?_; conv => whnf)))
    refine loop_i (α := Nat) (fun k => [(7, .int .i64 k), (6, .isl (b.nums.map iAV)), (5, .row 9), (2, .own 0 0), (1, .isl (f.map iAV))]) (fun k => [.box false d.cells, .fresh, .fresh, .fresh, .fresh, .fresh, .fresh, .fresh, .fresh, .row false 23 1 (((b.nums.take k).flatMap fun x => tr (d.bs.drop (f.length + 1)) (f ++ [x])).map rowAV)]) (fun k => k ≤ b.nums.length) (fun k => b.nums.length - k) 0 (meets_nil 9 (by (repeat' apply And.intro) <;> first | rfl | exact True.intro | (intro hh; cases hh))) (by omega) ?_
    intro k hk0
    conv => whnf
    refine bD (fun h4 => ?_) (fun h4 => ?_)
    · have hk2 : k < b.nums.length := by omega
      have hg := getD_map iAV b.nums k hk2
      have hfs := flat_succ (fun x => tr (d.bs.drop (f.length + 1)) (f ++ [x])) hk2
      have hfl := flat_le (fun x => tr (d.bs.drop (f.length + 1)) (f ++ [x])) (100 ^ 3) (b.nums.take k) fun x _ => Nat.le_trans (tr_le _ _ hdr) (Nat.pow_le_pow_right (by omega) (by simp; omega))
      have htl : (b.nums.take k).length ≤ 61 := by rw [List.length_take]; omega
      generalize b.nums[k] = x at *
      have ihx := ih x
      have hxl := tr_le (d.bs.drop (f.length + 1)) (f ++ [x]) hdr
      have hx3 : (100 : Nat) ^ (d.bs.drop (f.length + 1)).length ≤ 100 ^ 3 := Nat.pow_le_pow_right (by omega) (by simp; omega)
      have hmul : (b.nums.take k).length * 100 ^ 3 ≤ 61 * 100 ^ 3 := Nat.mul_le_mul_right _ htl
      rw [show (f ++ [x]).length = f.length + 1 from by simp] at ihx
      rw [show (100 : Nat) ^ 3 = 1000000 from rfl] at hfl hx3 hmul
      have htot : ((((b.nums.take k).flatMap fun x => tr (d.bs.drop (f.length + 1)) (f ++ [x])).map rowAV).length + ((tr (d.bs.drop (f.length + 1)) (f ++ [x])).map rowAV).length) * 24 ≤ 140737488355328 := by
        rw [List.length_map, List.length_map]
        omega
      conv => whnf
      refine iaI (by omega) (by omega) hg ?_
      (conv => whnf); (repeat' (first | (refine bT ?_; conv => whnf) | (refine bF ?_; conv => whnf) | (refine bN ?_) | (refine bD (fun hh => ?_) (fun hh => ?_) <;> first | (exfalso; omega) | (conv => whnf)) | (refine bEq (fun hh => ?_) (fun hh => ?_) <;> first | (exfalso; omega) | (conv => whnf)) | (refine bNe (fun hh => ?_) (fun hh => ?_) <;> first | (exfalso; omega) | (conv => whnf)) | (refine wIn (by omega) ?_; conv => whnf) | (refine nI (by omega) ?_; conv => whnf)))
      refine apI (one_iAV f) (by simp; omega) ?_
      (conv => whnf); (repeat' (first | (refine bT ?_; conv => whnf) | (refine bF ?_; conv => whnf) | (refine bN ?_) | (refine bD (fun hh => ?_) (fun hh => ?_) <;> first | (exfalso; omega) | (conv => whnf)) | (refine bEq (fun hh => ?_) (fun hh => ?_) <;> first | (exfalso; omega) | (conv => whnf)) | (refine bNe (fun hh => ?_) (fun hh => ?_) <;> first | (exfalso; omega) | (conv => whnf)) | (refine wIn (by omega) ?_; conv => whnf) | (refine nI (by omega) ?_; conv => whnf)))
      refine apI (by simp [AV.one]) (by simp; omega) ?_
      have ef : (([] : List (List AV)) ++ f.map iAV) ++ [[.int .i64 x]] = (f ++ [x]).map iAV := by simp [iAV]
      rw [ef]
      (conv => whnf); (repeat' (first | (refine bT ?_; conv => whnf) | (refine bF ?_; conv => whnf) | (refine bN ?_) | (refine bD (fun hh => ?_) (fun hh => ?_) <;> first | (exfalso; omega) | (conv => whnf)) | (refine bEq (fun hh => ?_) (fun hh => ?_) <;> first | (exfalso; omega) | (conv => whnf)) | (refine bNe (fun hh => ?_) (fun hh => ?_) <;> first | (exfalso; omega) | (conv => whnf)) | (refine (ihx).callzq rfl rfl (fun r (hr : r = _) => ?_); subst hr; conv => whnf) | (refine wIn (by omega) ?_; conv => whnf) | (refine nI (by omega) ?_; conv => whnf)))
      refine apI (one_rowAV _) htot ?_
      (conv => whnf); (repeat' (first | (refine bT ?_; conv => whnf) | (refine bF ?_; conv => whnf) | (refine bN ?_) | (refine bD (fun hh => ?_) (fun hh => ?_) <;> first | (exfalso; omega) | (conv => whnf)) | (refine bEq (fun hh => ?_) (fun hh => ?_) <;> first | (exfalso; omega) | (conv => whnf)) | (refine bNe (fun hh => ?_) (fun hh => ?_) <;> first | (exfalso; omega) | (conv => whnf)) | (refine wIn (by omega) ?_; conv => whnf) | (refine nI (by omega) ?_; conv => whnf)))
      refine ⟨k + 1, ?_, by omega, by omega⟩
      have e9 : ((b.nums.take (k + 1)).flatMap fun x => tr (d.bs.drop (f.length + 1)) (f ++ [x])).map rowAV = (((b.nums.take k).flatMap fun x => tr (d.bs.drop (f.length + 1)) (f ++ [x])).map rowAV) ++ (tr (d.bs.drop (f.length + 1)) (f ++ [x])).map rowAV := by rw [hfs, List.map_append]
      rw [e9]
      exact (meets_ren 9 8 (by (repeat' apply And.intro) <;> first | rfl | exact True.intro | (intro hh; cases hh)))
    · have : k = b.nums.length := by omega
      subst this
      rw [List.take_length]
      (conv => whnf); (repeat' (first | (refine bT ?_; conv => whnf) | (refine bF ?_; conv => whnf) | (refine bN ?_) | (refine bD (fun hh => ?_) (fun hh => ?_) <;> first | (exfalso; omega) | (conv => whnf)) | (refine bEq (fun hh => ?_) (fun hh => ?_) <;> first | (exfalso; omega) | (conv => whnf)) | (refine bNe (fun hh => ?_) (fun hh => ?_) <;> first | (exfalso; omega) | (conv => whnf)) | (refine wIn (by omega) ?_; conv => whnf) | (refine nI (by omega) ?_; conv => whnf)))
      all_goals rfl

/-- the round of gores of a width, with these numbers -/
def Dome.by (d : Dome) (w : Int) (t : List Int) : Int := sumF (fun g => pulled (w - 2 * d.loss) (t.getD g.toNat 0)) d.gs
def fitT (d : Dome) (t : List Int) : Prop := t.length = d.bs.length ∧ ∀ x ∈ t, 0 ≤ x ∧ x ≤ 60
theorem by_in {d : Dome} (hok : d.ok) {w : Int} (hw : -100000 ≤ w ∧ w ≤ 100000) {t : List Int} (ht : fitT d t) {g : Int} (hg : g ∈ d.gs) : ∃ x, (t.map iAV).getD g.toNat [] = [.int .i64 x] ∧ t.getD g.toNat 0 = x ∧ (0 ≤ x ∧ x ≤ 60) ∧ g.toNat < t.length ∧ -20000000 ≤ pulled (w - 2 * d.loss) x ∧ pulled (w - 2 * d.loss) x ≤ 20000000 := by
  have h1 := hok.1.2.2.1 g hg
  have hl := hok.1.2.2.2.1
  have hlt : g.toNat < t.length := by have := ht.1; omega
  have h2 := ht.2 _ (List.getElem_mem hlt)
  exact ⟨t[g.toNat], getD_map iAV t _ hlt, by simp [List.getD_eq_getElem?_getD, hlt], h2, hlt, pulled_in (by omega) (by omega)⟩
theorem k20 (d : Dome) (w : Int) (t : List Int) (hok : d.ok) (hw : -100000 ≤ w ∧ w ≤ 100000) (ht : fitT d t) : FnA Try.prog 20 [.agg d.cells, .int .i64 w, .isl (t.map iAV)] (· = .int .i64 (d.by w t)) := by
  have l2 : (d.gs.map iAV).length = d.gs.length := by simp
  have l3 : (t.map iAV).length = t.length := by simp
  have hgl := hok.1.2.1.2
  have hl := hok.1.2.2.2.1
  refine fnA 1 ok20 (by simp) ?_
  conv => whnf
  refine loop_i (α := Nat) (fun k => [(8, .int .i64 k), (7, .int .i64 (sumF (fun g => pulled (w - 2 * d.loss) (t.getD g.toNat 0)) (d.gs.take k))), (3, .own 0 0), (2, .isl (t.map iAV)), (1, .int .i64 w)]) (fun k => [.box false d.cells]) (fun k => k ≤ d.gs.length) (fun k => d.gs.length - k) 0 (meets_id (by (repeat' apply And.intro) <;> first | rfl | exact True.intro | (intro hh; cases hh))) (by omega) ?_
  intro k hk0
  conv => whnf
  refine bD (fun h4 => ?_) (fun h4 => ?_)
  · have hk : k < d.gs.length := by omega
    have hgm : d.gs[k] ∈ d.gs := List.getElem_mem hk
    have hg0 := hok.1.2.2.1 _ hgm
    obtain ⟨x, hx1, hx2, hx3, hx4, hx5⟩ := by_in hok hw ht hgm
    have s1 := sumF_in (fun g => pulled (w - 2 * d.loss) (t.getD g.toNat 0)) 20000000 (l := d.gs.take k) (fun g hg => by
      obtain ⟨y, _, hy2, _, _, hy5⟩ := by_in hok hw ht (List.mem_of_mem_take hg)
      simp only [hy2]; exact hy5)
    have hlt : (d.gs.take k).length ≤ 16 := by rw [List.length_take]; omega
    have f1 := sumF_succ (fun g => pulled (w - 2 * d.loss) (t.getD g.toNat 0)) hk
    simp only [hx2] at f1
    conv => whnf
    (conv => whnf); (repeat' (first | (refine bT ?_; conv => whnf) | (refine bF ?_; conv => whnf) | (refine bN ?_) | (refine bD (fun hh => ?_) (fun hh => ?_) <;> first | (exfalso; omega) | (conv => whnf)) | (refine bEq (fun hh => ?_) (fun hh => ?_) <;> first | (exfalso; omega) | (conv => whnf)) | (refine bNe (fun hh => ?_) (fun hh => ?_) <;> first | (exfalso; omega) | (conv => whnf)) | (refine wIn (by omega) ?_; conv => whnf) | (refine nI (by omega) ?_; conv => whnf)))
    refine iaI (by omega) (by omega) (getD_map iAV d.gs k hk) ?_
    (conv => whnf); (repeat' (first | (refine bT ?_; conv => whnf) | (refine bF ?_; conv => whnf) | (refine bN ?_) | (refine bD (fun hh => ?_) (fun hh => ?_) <;> first | (exfalso; omega) | (conv => whnf)) | (refine bEq (fun hh => ?_) (fun hh => ?_) <;> first | (exfalso; omega) | (conv => whnf)) | (refine bNe (fun hh => ?_) (fun hh => ?_) <;> first | (exfalso; omega) | (conv => whnf)) | (refine wIn (by omega) ?_; conv => whnf) | (refine nI (by omega) ?_; conv => whnf)))
    refine iaI (by omega) (by omega) hx1 ?_
    (conv => whnf); (repeat' (first | (refine bT ?_; conv => whnf) | (refine bF ?_; conv => whnf) | (refine bN ?_) | (refine bD (fun hh => ?_) (fun hh => ?_) <;> first | (exfalso; omega) | (conv => whnf)) | (refine bEq (fun hh => ?_) (fun hh => ?_) <;> first | (exfalso; omega) | (conv => whnf)) | (refine bNe (fun hh => ?_) (fun hh => ?_) <;> first | (exfalso; omega) | (conv => whnf)) | (refine (k47 (w - 2 * d.loss) x (by omega) (by omega)).callq rfl rfl (fun r (hr : r = _) => ?_); subst hr; conv => whnf) | (refine wIn (by omega) ?_; conv => whnf) | (refine nI (by omega) ?_; conv => whnf)))
    refine ⟨k + 1, ?_, by omega, by omega⟩
    rw [f1]
    exact (meets_id (by (repeat' apply And.intro) <;> first | rfl | exact True.intro | (intro hh; cases hh)))
  · have : k = d.gs.length := by omega
    subst this
    rw [List.take_length]
    (conv => whnf); (repeat' (first | (refine bT ?_; conv => whnf) | (refine bF ?_; conv => whnf) | (refine bN ?_) | (refine bD (fun hh => ?_) (fun hh => ?_) <;> first | (exfalso; omega) | (conv => whnf)) | (refine bEq (fun hh => ?_) (fun hh => ?_) <;> first | (exfalso; omega) | (conv => whnf)) | (refine bNe (fun hh => ?_) (fun hh => ?_) <;> first | (exfalso; omega) | (conv => whnf)) | (refine wIn (by omega) ?_; conv => whnf) | (refine nI (by omega) ?_; conv => whnf)))
    all_goals rfl

/-- these numbers are a truth -/
def Dome.isT (d : Dome) (t : List Int) : Prop := t.length = d.bs.length ∧ ∀ i (h1 : i < d.bs.length) (h2 : i < t.length), d.bs[i].can t[i] = true
noncomputable instance (d : Dome) (t : List Int) : Decidable (d.isT t) := Classical.propDecidable _
theorem k16 (d : Dome) (t : List Int) (hok : d.ok) : FnA Try.prog 16 [.agg d.cells, .isl (t.map iAV)] (· = .bool (decide (d.isT t))) := by
  have l2 : (d.bs.map Bolt.av).length = d.bs.length := by simp
  have l3 : (t.map iAV).length = t.length := by simp
  have hbl := hok.1.1
  refine fnA 1 ok16 (by simp) ?_
  by_cases hlen : t.length = d.bs.length
  case neg =>
    rw [decide_eq_false fun h : d.isT t => hlen h.1]
    (conv => whnf); (repeat' (first | (refine bT ?_; conv => whnf) | (refine bF ?_; conv => whnf) | (refine bN ?_) | (refine bD (fun hh => ?_) (fun hh => ?_) <;> first | (exfalso; omega) | (conv => whnf)) | (refine bEq (fun hh => ?_) (fun hh => ?_) <;> first | (exfalso; omega) | (conv => whnf)) | (refine bNe (fun hh => ?_) (fun hh => ?_) <;> first | (exfalso; omega) | (conv => whnf)) | (refine wIn (by omega) ?_; conv => whnf) | (refine nI (by omega) ?_; conv => whnf)))
    all_goals rfl
  (conv => whnf); (repeat' (first | (refine bT ?_; conv => whnf) | (refine bF ?_; conv => whnf) | (refine bN ?_) | (refine bD (fun hh => ?_) (fun hh => ?_) <;> first | (exfalso; omega) | (conv => whnf)) | (refine bEq (fun hh => ?_) (fun hh => ?_) <;> first | (exfalso; omega) | (conv => whnf)) | (refine bNe (fun hh => ?_) (fun hh => ?_) <;> first | (exfalso; omega) | (conv => whnf)) | (refine wIn (by omega) ?_; conv => whnf) | (refine nI (by omega) ?_; conv => whnf)))
  refine loop_i (α := Nat) (fun k => [(5, .int .i64 k), (2, .own 0 0), (1, .isl (t.map iAV))]) (fun k => [.box false d.cells]) (fun k => k ≤ t.length ∧ ∀ i (h1 : i < d.bs.length) (h2 : i < t.length), i < k → d.bs[i].can t[i] = true) (fun k => t.length - k) 0 (meets_id (by (repeat' apply And.intro) <;> first | rfl | exact True.intro | (intro hh; cases hh))) ⟨by omega, by intro i _ _ h; omega⟩ ?_
  rintro k ⟨hk0, hin⟩
  conv => whnf
  refine bD (fun h4 => ?_) (fun h4 => ?_)
  · have hk : k < t.length := by omega
    have hkb : k < d.bs.length := by omega
    have e := k44 d.bs[k] t[k] (hok.2 _ (List.getElem_mem hkb))
    conv => whnf
    refine iaI (by omega) (by omega) (getD_map Bolt.av d.bs k hkb) ?_
    (conv => whnf); (repeat' (first | (refine bT ?_; conv => whnf) | (refine bF ?_; conv => whnf) | (refine bN ?_) | (refine bD (fun hh => ?_) (fun hh => ?_) <;> first | (exfalso; omega) | (conv => whnf)) | (refine bEq (fun hh => ?_) (fun hh => ?_) <;> first | (exfalso; omega) | (conv => whnf)) | (refine bNe (fun hh => ?_) (fun hh => ?_) <;> first | (exfalso; omega) | (conv => whnf)) | (refine wIn (by omega) ?_; conv => whnf) | (refine nI (by omega) ?_; conv => whnf)))
    refine iaI (by omega) (by omega) (getD_map iAV t k hk) ?_
    cases hc : d.bs[k].can t[k] with
    | false =>
      rw [hc] at e
      rw [decide_eq_false fun h : d.isT t => by rw [h.2 k hkb hk] at hc; cases hc]
      (conv => whnf); (repeat' (first | (refine bT ?_; conv => whnf) | (refine bF ?_; conv => whnf) | (refine bN ?_) | (refine bD (fun hh => ?_) (fun hh => ?_) <;> first | (exfalso; omega) | (conv => whnf)) | (refine bEq (fun hh => ?_) (fun hh => ?_) <;> first | (exfalso; omega) | (conv => whnf)) | (refine bNe (fun hh => ?_) (fun hh => ?_) <;> first | (exfalso; omega) | (conv => whnf)) | (refine (e).lendq rfl (fun r (hr : r = _) => ?_); subst hr; refine ⟨rfl, ?_⟩; conv => whnf) | (refine wIn (by omega) ?_; conv => whnf) | (refine nI (by omega) ?_; conv => whnf)))
      all_goals rfl
    | true =>
      rw [hc] at e
      (conv => whnf); (repeat' (first | (refine bT ?_; conv => whnf) | (refine bF ?_; conv => whnf) | (refine bN ?_) | (refine bD (fun hh => ?_) (fun hh => ?_) <;> first | (exfalso; omega) | (conv => whnf)) | (refine bEq (fun hh => ?_) (fun hh => ?_) <;> first | (exfalso; omega) | (conv => whnf)) | (refine bNe (fun hh => ?_) (fun hh => ?_) <;> first | (exfalso; omega) | (conv => whnf)) | (refine (e).lendq rfl (fun r (hr : r = _) => ?_); subst hr; refine ⟨rfl, ?_⟩; conv => whnf) | (refine wIn (by omega) ?_; conv => whnf) | (refine nI (by omega) ?_; conv => whnf)))
      refine ⟨k + 1, (meets_id (by (repeat' apply And.intro) <;> first | rfl | exact True.intro | (intro hh; cases hh))), ⟨by omega, fun i h1 h2 h3 => ?_⟩, by omega⟩
      by_cases e1 : i = k
      · subst e1; exact hc
      · exact hin i h1 h2 (by omega)
  · have : k = t.length := by omega
    subst this
    rw [decide_eq_true (show d.isT t from ⟨hlen, fun i h1 h2 => hin i h1 h2 h2⟩)]
    (conv => whnf); (repeat' (first | (refine bT ?_; conv => whnf) | (refine bF ?_; conv => whnf) | (refine bN ?_) | (refine bD (fun hh => ?_) (fun hh => ?_) <;> first | (exfalso; omega) | (conv => whnf)) | (refine bEq (fun hh => ?_) (fun hh => ?_) <;> first | (exfalso; omega) | (conv => whnf)) | (refine bNe (fun hh => ?_) (fun hh => ?_) <;> first | (exfalso; omega) | (conv => whnf)) | (refine wIn (by omega) ?_; conv => whnf) | (refine nI (by omega) ?_; conv => whnf)))
    all_goals rfl

/-- in how many of the truths a row is tight -/
def Dome.cnt (d : Dome) (s : Int × Int) (w : Int) (l : List (List Int)) : Nat := (l.filter fun t => inS s (d.by w t)).length
theorem cnt_yes {d : Dome} {s : Int × Int} {w : Int} {l : List (List Int)} {k : Nat} (hk : k < l.length) (h : inS s (d.by w l[k]) = true) : (d.cnt s w (l.take (k + 1)) : Int) = d.cnt s w (l.take k) + 1 := by
  unfold Dome.cnt
  rw [List.take_succ_eq_append_getElem hk, List.filter_append]; simp [h]
theorem cnt_no {d : Dome} {s : Int × Int} {w : Int} {l : List (List Int)} {k : Nat} (hk : k < l.length) (h : inS s (d.by w l[k]) = false) : (d.cnt s w (l.take (k + 1)) : Int) = d.cnt s w (l.take k) := by
  unfold Dome.cnt
  rw [List.take_succ_eq_append_getElem hk, List.filter_append]; simp [h]
theorem k58 (d : Dome) (l : List (List Int)) (r : Nat) (w : Int) (hok : d.ok) (hr : r < d.rs.length) (hw : -100000 ≤ w ∧ w ≤ 100000) (hl : l.length ≤ 1000000000) (ht : ∀ t ∈ l, fitT d t) : FnA Try.prog 58 [.agg d.cells, .isl (l.map rowAV), .int .i64 r, .int .i64 w] (· = .int .i64 (d.cnt d.rs[r] w l)) := by
  have l1 : (d.rs.map pairAV).length = d.rs.length := by simp
  have l3 : (l.map rowAV).length = l.length := by simp
  have hrl := hok.1.2.2.2.2.1.2
  have hg := getD_map pairAV d.rs r hr
  generalize d.rs[r] = s at *
  refine fnA 1 ok58 (by simp) ?_
  conv => whnf
  refine loop_i (α := Nat) (fun k => [(10, .int .i64 k), (9, .int .i64 (d.cnt s w (l.take k))), (4, .own 0 0), (3, .int .i64 w), (2, .int .i64 r), (1, .isl (l.map rowAV))]) (fun k => [.box false d.cells]) (fun k => k ≤ l.length) (fun k => l.length - k) 0 (meets_id (by (repeat' apply And.intro) <;> first | rfl | exact True.intro | (intro hh; cases hh))) (by omega) ?_
  intro k hk0
  have hcl : d.cnt s w (l.take k) ≤ l.length := by
    unfold Dome.cnt
    refine Nat.le_trans (List.length_filter_le _ _) ?_; rw [List.length_take]; omega
  conv => whnf
  refine bD (fun h4 => ?_) (fun h4 => ?_)
  · have hk : k < l.length := by omega
    have e := k20 d w l[k] hok hw (ht _ (List.getElem_mem hk))
    have e2 := k54 (d.by w l[k]) s.1 s.2
    conv => whnf
    refine iaI (by omega) (by omega) (getD_map rowAV l k hk) ?_
    (conv => whnf); (repeat' (first | (refine bT ?_; conv => whnf) | (refine bF ?_; conv => whnf) | (refine bN ?_) | (refine bD (fun hh => ?_) (fun hh => ?_) <;> first | (exfalso; omega) | (conv => whnf)) | (refine bEq (fun hh => ?_) (fun hh => ?_) <;> first | (exfalso; omega) | (conv => whnf)) | (refine bNe (fun hh => ?_) (fun hh => ?_) <;> first | (exfalso; omega) | (conv => whnf)) | (refine wIn (by omega) ?_; conv => whnf) | (refine nI (by omega) ?_; conv => whnf)))
    refine iaI (by omega) (by omega) hg ?_
    (conv => whnf); (repeat' (first | (refine bT ?_; conv => whnf) | (refine bF ?_; conv => whnf) | (refine bN ?_) | (refine bD (fun hh => ?_) (fun hh => ?_) <;> first | (exfalso; omega) | (conv => whnf)) | (refine bEq (fun hh => ?_) (fun hh => ?_) <;> first | (exfalso; omega) | (conv => whnf)) | (refine bNe (fun hh => ?_) (fun hh => ?_) <;> first | (exfalso; omega) | (conv => whnf)) | (refine wIn (by omega) ?_; conv => whnf) | (refine nI (by omega) ?_; conv => whnf)))
    refine iaI (by omega) (by omega) hg ?_
    cases hi : inS s (d.by w l[k]) with
    | true =>
      have hc := cnt_yes hk hi
      unfold inS at hi
      rw [hi] at e2
      (conv => whnf); (repeat' (first | (refine bT ?_; conv => whnf) | (refine bF ?_; conv => whnf) | (refine bN ?_) | (refine bD (fun hh => ?_) (fun hh => ?_) <;> first | (exfalso; omega) | (conv => whnf)) | (refine bEq (fun hh => ?_) (fun hh => ?_) <;> first | (exfalso; omega) | (conv => whnf)) | (refine bNe (fun hh => ?_) (fun hh => ?_) <;> first | (exfalso; omega) | (conv => whnf)) | (refine (e).lendq rfl (fun r (hr : r = _) => ?_); subst hr; refine ⟨rfl, ?_⟩; conv => whnf) | (refine (e2).callq rfl rfl (fun r (hr : r = _) => ?_); subst hr; conv => whnf) | (refine wIn (by omega) ?_; conv => whnf) | (refine nI (by omega) ?_; conv => whnf)))
      refine ⟨k + 1, ?_, by omega, by omega⟩
      rw [hc]
      exact (meets_id (by (repeat' apply And.intro) <;> first | rfl | exact True.intro | (intro hh; cases hh)))
    | false =>
      have hc := cnt_no hk hi
      unfold inS at hi
      rw [hi] at e2
      (conv => whnf); (repeat' (first | (refine bT ?_; conv => whnf) | (refine bF ?_; conv => whnf) | (refine bN ?_) | (refine bD (fun hh => ?_) (fun hh => ?_) <;> first | (exfalso; omega) | (conv => whnf)) | (refine bEq (fun hh => ?_) (fun hh => ?_) <;> first | (exfalso; omega) | (conv => whnf)) | (refine bNe (fun hh => ?_) (fun hh => ?_) <;> first | (exfalso; omega) | (conv => whnf)) | (refine (e).lendq rfl (fun r (hr : r = _) => ?_); subst hr; refine ⟨rfl, ?_⟩; conv => whnf) | (refine (e2).callq rfl rfl (fun r (hr : r = _) => ?_); subst hr; conv => whnf) | (refine wIn (by omega) ?_; conv => whnf) | (refine nI (by omega) ?_; conv => whnf)))
      refine ⟨k + 1, ?_, by omega, by omega⟩
      rw [hc]
      exact (meets_id (by (repeat' apply And.intro) <;> first | rfl | exact True.intro | (intro hh; cases hh)))
  · have : k = l.length := by omega
    subst this
    rw [List.take_length]
    (conv => whnf); (repeat' (first | (refine bT ?_; conv => whnf) | (refine bF ?_; conv => whnf) | (refine bN ?_) | (refine bD (fun hh => ?_) (fun hh => ?_) <;> first | (exfalso; omega) | (conv => whnf)) | (refine bEq (fun hh => ?_) (fun hh => ?_) <;> first | (exfalso; omega) | (conv => whnf)) | (refine bNe (fun hh => ?_) (fun hh => ?_) <;> first | (exfalso; omega) | (conv => whnf)) | (refine wIn (by omega) ?_; conv => whnf) | (refine nI (by omega) ?_; conv => whnf)))
    all_goals rfl

def Dome.T (d : Dome) : List (List Int) := tr d.bs []
theorem mem_tr : ∀ (bs : List Bolt) (f t : List Int), t ∈ tr bs f ↔ ∃ s, t = f ++ s ∧ s.length = bs.length ∧ ∀ i (h1 : i < bs.length) (h2 : i < s.length), s[i] ∈ bs[i].nums
  | [], f, t => by
    simp only [tr, List.mem_singleton]
    constructor
    · rintro rfl; exact ⟨[], by simp, rfl, by intro i h1; cases h1⟩
    · rintro ⟨s, rfl, h, _⟩
      rw [List.eq_nil_of_length_eq_zero h]; simp
  | b :: bs, f, t => by
    simp only [tr, List.mem_flatMap]
    constructor
    · rintro ⟨x, hx, ht⟩
      obtain ⟨s, rfl, h1, h2⟩ := (mem_tr bs _ t).1 ht
      refine ⟨x :: s, by simp, by simp [h1], fun i i1 i2 => ?_⟩
      cases i with
      | zero => exact hx
      | succ i => exact h2 i (by simpa using i1) (by simpa using i2)
    · rintro ⟨s, rfl, h1, h2⟩
      cases s with
      | nil => simp at h1
      | cons x s =>
        refine ⟨x, h2 0 (by simp) (by simp), (mem_tr bs _ _).2 ⟨s, by simp, by simpa using h1, fun i i1 i2 => ?_⟩⟩
        exact h2 (i + 1) (by simpa using i1) (by simpa using i2)
theorem mem_T {d : Dome} {t : List Int} : t ∈ d.T ↔ t.length = d.bs.length ∧ ∀ i (h1 : i < d.bs.length) (h2 : i < t.length), t[i] ∈ d.bs[i].nums := by
  unfold Dome.T
  rw [mem_tr]
  constructor
  · rintro ⟨s, rfl, h1, h2⟩; exact ⟨by simpa using h1, by simpa using h2⟩
  · rintro ⟨h1, h2⟩; exact ⟨t, by simp, h1, h2⟩
theorem fit_T {d : Dome} (hok : d.ok) {t : List Int} (h : t ∈ d.T) : fitT d t := by
  obtain ⟨h1, h2⟩ := mem_T.1 h
  refine ⟨h1, fun x hx => ?_⟩
  obtain ⟨i, hi, rfl⟩ := List.getElem_of_mem hx
  exact nums_in (hok.2 _ (List.getElem_mem (h1 ▸ hi))) _ (h2 i (by omega) hi)
theorem T_has {d : Dome} : d.T ≠ [] ↔ d.has = true := by
  unfold Dome.has
  rw [List.all_eq_true]
  constructor
  · intro h b hb
    obtain ⟨t, ht⟩ := List.exists_mem_of_ne_nil _ h
    obtain ⟨h1, h2⟩ := mem_T.1 ht
    obtain ⟨i, hi, rfl⟩ := List.getElem_of_mem hb
    have := h2 i hi (by omega)
    cases hn : d.bs[i].nums with
    | nil => rw [hn] at this; cases this
    | cons x xs => simp
  · intro h hn
    have : (d.bs.map fun b => b.nums.headD 0) ∈ d.T := by
      refine mem_T.2 ⟨by simp, fun i h1 h2 => ?_⟩
      have := h _ (List.getElem_mem h1)
      simp only [List.getElem_map]
      cases hq : d.bs[i].nums with
      | nil => rw [hq] at this; simp at this
      | cons x xs => simp
    rw [hn] at this; cases this
theorem T_len {d : Dome} (hok : d.ok) : d.T.length ≤ 100000000 := by
  have h1 := tr_le d.bs [] hok.2
  have h2 : (100 : Nat) ^ d.bs.length ≤ 100 ^ 4 := Nat.pow_le_pow_right (by omega) hok.1.1.2
  have h3 : (100 : Nat) ^ 4 = 100000000 := rfl
  unfold Dome.T; omega

/-- what a question is refused with, by the reference -/
def Dome.kE (d : Dome) (b r : Int) : Int := if d.ok then (if (0 ≤ b ∧ b < d.bs.length) ∧ (0 ≤ r ∧ r < d.rs.length) then (if d.has then 0 else 3) else 1) else d.chk
theorem k64 (d : Dome) (b r : Int) : FnA Try.prog 64 [.agg d.cells, .int .i64 b, .int .i64 r] (· = if d.kE b r = 0 then .tup [.isl (d.T.map rowAV), .int .i64 0] else .tup [.isl [], .int .i64 (d.kE b r)]) := by
  have l1 : (d.bs.map Bolt.av).length = d.bs.length := by simp
  have l2 : (d.rs.map pairAV).length = d.rs.length := by simp
  have l3 : (d.T.map rowAV).length = d.T.length := by simp
  have e := k28 d
  refine fnA 2 ok64 (by simp) ?_
  by_cases hok : d.ok
  case neg =>
    have hc := chk_pos hok
    have he : d.kE b r = d.chk := by unfold Dome.kE; rw [if_neg hok]
    rw [he, if_neg (by omega)]
    (conv => whnf); (repeat' (first | (refine bT ?_; conv => whnf) | (refine bF ?_; conv => whnf) | (refine bN ?_) | (refine bD (fun hh => ?_) (fun hh => ?_) <;> first | (exfalso; omega) | (conv => whnf)) | (refine bEq (fun hh => ?_) (fun hh => ?_) <;> first | (exfalso; omega) | (conv => whnf)) | (refine bNe (fun hh => ?_) (fun hh => ?_) <;> first | (exfalso; omega) | (conv => whnf)) | (refine (e).lendq rfl (fun r (hr : r = _) => ?_); subst hr; refine ⟨rfl, ?_⟩; conv => whnf) | (refine wIn (by omega) ?_; conv => whnf) | (refine nI (by omega) ?_; conv => whnf)))
    all_goals rfl
  rw [chk_ok hok] at e
  have hbl := hok.1.1
  have hrl := hok.1.2.2.2.2.1
  have e1 := k54 b 0 (↑(d.bs.map Bolt.av).length - 1)
  have e2 := k54 r 0 (↑(d.rs.map pairAV).length - 1)
  by_cases c1 : 0 ≤ b ∧ b ≤ (↑(d.bs.map Bolt.av).length - 1 : Int)
  case neg =>
    rw [decide_eq_false c1] at e1
    have he : d.kE b r = 1 := by unfold Dome.kE; rw [if_pos hok, if_neg (by omega)]
    rw [he, if_neg (by omega)]
    (conv => whnf); (repeat' (first | (refine bT ?_; conv => whnf) | (refine bF ?_; conv => whnf) | (refine bN ?_) | (refine bD (fun hh => ?_) (fun hh => ?_) <;> first | (exfalso; omega) | (conv => whnf)) | (refine bEq (fun hh => ?_) (fun hh => ?_) <;> first | (exfalso; omega) | (conv => whnf)) | (refine bNe (fun hh => ?_) (fun hh => ?_) <;> first | (exfalso; omega) | (conv => whnf)) | (refine (e).lendq rfl (fun r (hr : r = _) => ?_); subst hr; refine ⟨rfl, ?_⟩; conv => whnf) | (refine (e1).callq rfl rfl (fun r (hr : r = _) => ?_); subst hr; conv => whnf) | (refine wIn (by omega) ?_; conv => whnf) | (refine nI (by omega) ?_; conv => whnf)))
    all_goals rfl
  rw [decide_eq_true c1] at e1
  by_cases c2 : 0 ≤ r ∧ r ≤ (↑(d.rs.map pairAV).length - 1 : Int)
  case neg =>
    rw [decide_eq_false c2] at e2
    have he : d.kE b r = 1 := by unfold Dome.kE; rw [if_pos hok, if_neg (by omega)]
    rw [he, if_neg (by omega)]
    (conv => whnf); (repeat' (first | (refine bT ?_; conv => whnf) | (refine bF ?_; conv => whnf) | (refine bN ?_) | (refine bD (fun hh => ?_) (fun hh => ?_) <;> first | (exfalso; omega) | (conv => whnf)) | (refine bEq (fun hh => ?_) (fun hh => ?_) <;> first | (exfalso; omega) | (conv => whnf)) | (refine bNe (fun hh => ?_) (fun hh => ?_) <;> first | (exfalso; omega) | (conv => whnf)) | (refine (e).lendq rfl (fun r (hr : r = _) => ?_); subst hr; refine ⟨rfl, ?_⟩; conv => whnf) | (refine (e1).callq rfl rfl (fun r (hr : r = _) => ?_); subst hr; conv => whnf) | (refine (e2).callq rfl rfl (fun r (hr : r = _) => ?_); subst hr; conv => whnf) | (refine wIn (by omega) ?_; conv => whnf) | (refine nI (by omega) ?_; conv => whnf)))
    all_goals rfl
  rw [decide_eq_true c2] at e2
  have e3 : FnA Try.prog 57 [.agg d.cells, .isl []] (· = .isl (d.T.map rowAV)) := k57 d hok d.bs.length [] (by simp)
  have hTl := T_len hok
  cases hh : d.has with
  | true =>
    have he : d.kE b r = 0 := by unfold Dome.kE; rw [if_pos hok, if_pos (by omega), hh]; rfl
    rw [he, if_pos rfl]
    have hT : d.T.length ≠ 0 := fun h => T_has.2 hh (List.eq_nil_of_length_eq_zero h)
    (conv => whnf); (repeat' (first | (refine bT ?_; conv => whnf) | (refine bF ?_; conv => whnf) | (refine bN ?_) | (refine bD (fun hh => ?_) (fun hh => ?_) <;> first | (exfalso; omega) | (conv => whnf)) | (refine bEq (fun hh => ?_) (fun hh => ?_) <;> first | (exfalso; omega) | (conv => whnf)) | (refine bNe (fun hh => ?_) (fun hh => ?_) <;> first | (exfalso; omega) | (conv => whnf)) | (refine (e).lendq rfl (fun r (hr : r = _) => ?_); subst hr; refine ⟨rfl, ?_⟩; conv => whnf) | (refine (e1).callq rfl rfl (fun r (hr : r = _) => ?_); subst hr; conv => whnf) | (refine (e2).callq rfl rfl (fun r (hr : r = _) => ?_); subst hr; conv => whnf) | (refine (e3).callzq rfl rfl (fun r (hr : r = _) => ?_); subst hr; conv => whnf) | (refine wIn (by omega) ?_; conv => whnf) | (refine nI (by omega) ?_; conv => whnf)))
    all_goals rfl
  | false =>
    have he : d.kE b r = 3 := by unfold Dome.kE; rw [if_pos hok, if_pos (by omega), hh]; rfl
    rw [he, if_neg (by omega)]
    have hT : d.T.length = 0 := by
      cases hq : d.T with
      | nil => rfl
      | cons x xs => have := (T_has (d := d)).1 (by rw [hq]; simp); rw [hh] at this; cases this
    (conv => whnf); (repeat' (first | (refine bT ?_; conv => whnf) | (refine bF ?_; conv => whnf) | (refine bN ?_) | (refine bD (fun hh => ?_) (fun hh => ?_) <;> first | (exfalso; omega) | (conv => whnf)) | (refine bEq (fun hh => ?_) (fun hh => ?_) <;> first | (exfalso; omega) | (conv => whnf)) | (refine bNe (fun hh => ?_) (fun hh => ?_) <;> first | (exfalso; omega) | (conv => whnf)) | (refine (e).lendq rfl (fun r (hr : r = _) => ?_); subst hr; refine ⟨rfl, ?_⟩; conv => whnf) | (refine (e1).callq rfl rfl (fun r (hr : r = _) => ?_); subst hr; conv => whnf) | (refine (e2).callq rfl rfl (fun r (hr : r = _) => ?_); subst hr; conv => whnf) | (refine (e3).callzq rfl rfl (fun r (hr : r = _) => ?_); subst hr; conv => whnf) | (refine wIn (by omega) ?_; conv => whnf) | (refine nI (by omega) ?_; conv => whnf)))
    all_goals rfl
theorem kE_ok {d : Dome} {b r : Int} (h : d.kE b r = 0) : d.ok ∧ d.has = true ∧ (0 ≤ b ∧ b < d.bs.length) ∧ 0 ≤ r ∧ r < d.rs.length := by
  unfold Dome.kE at h
  by_cases hok : d.ok
  · rw [if_pos hok] at h
    by_cases c : (0 ≤ b ∧ b < d.bs.length) ∧ (0 ≤ r ∧ r < d.rs.length)
    · rw [if_pos c] at h
      cases hh : d.has with
      | true => exact ⟨hok, rfl, c⟩
      | false => rw [hh] at h; simp at h
    · rw [if_neg c] at h; omega
  · rw [if_neg hok] at h
    have := chk_pos hok; omega
theorem kE_R (d : Dome) (r : Int) : d.kE 0 r = d.eR r := by
  unfold Dome.kE Dome.eR Dome.noR
  by_cases hok : d.ok
  · have := hok.1.1
    simp only [if_pos hok]
    by_cases c : 0 ≤ r ∧ r < d.rs.length
    · rw [if_pos ⟨by omega, c⟩, if_pos c]; simp
    · rw [if_neg (fun h => c h.2), if_neg c]; simp
  · have := chk_pos hok
    simp only [if_neg hok]
    rw [if_neg (by omega)]
theorem kE_B (d : Dome) (b : Int) : d.kE b 0 = d.eB b := by
  unfold Dome.kE Dome.eB Dome.no
  by_cases hok : d.ok
  · have := hok.1.2.2.2.2.1
    simp only [if_pos hok]
    by_cases c : 0 ≤ b ∧ b < d.bs.length
    · rw [if_pos ⟨c, by omega⟩, if_pos c]; simp
    · rw [if_neg (fun h => c h.1), if_neg c]; simp
  · have := chk_pos hok
    simp only [if_neg hok]
    rw [if_neg (by omega)]
theorem kE_D (d : Dome) : d.kE 0 0 = d.eD := by
  unfold Dome.kE Dome.eD
  by_cases hok : d.ok
  · have := hok.1.2.2.2.2.1
    have := hok.1.1
    simp only [if_pos hok]
    rw [if_pos (by omega)]
  · simp only [if_neg hok]

theorem k35_no (d : Dome) (i : Int) (h : d.eB i ≠ 0) : FnA Try.prog 35 [.agg d.cells, .int .i64 i] (· = .tup [.isl [], .int .i64 (d.eB i)]) := by
  have e := k64 d i 0
  rw [kE_B, if_neg h] at e
  refine fnA 3 ok35 (by simp) ?_
  (conv => whnf); (repeat' (first | (refine bT ?_; conv => whnf) | (refine bF ?_; conv => whnf) | (refine bN ?_) | (refine bD (fun hh => ?_) (fun hh => ?_) <;> first | (exfalso; omega) | (conv => whnf)) | (refine bEq (fun hh => ?_) (fun hh => ?_) <;> first | (exfalso; omega) | (conv => whnf)) | (refine bNe (fun hh => ?_) (fun hh => ?_) <;> first | (exfalso; omega) | (conv => whnf)) | (refine (e).callzq rfl rfl (fun r (hr : r = _) => ?_); subst hr; conv => whnf) | (refine wIn (by omega) ?_; conv => whnf) | (refine nI (by omega) ?_; conv => whnf)))
  all_goals rfl
theorem k35 (d : Dome) (k : Nat) (h : d.eB k = 0) (hk : k < d.bs.length) : FnA Try.prog 35 [.agg d.cells, .int .i64 k] (· = .tup [.isl (d.bs[k].nums.map iAV), .int .i64 0]) := by
  have e := k64 d k 0
  rw [kE_B, if_pos h] at e
  obtain ⟨hok, hh, _⟩ := eB_ok h
  have l1 : (d.bs.map Bolt.av).length = d.bs.length := by simp
  have e2 := k65 d.bs[k] (hok.2 _ (List.getElem_mem hk))
  refine fnA 3 ok35 (by simp) ?_
  (conv => whnf); (repeat' (first | (refine bT ?_; conv => whnf) | (refine bF ?_; conv => whnf) | (refine bN ?_) | (refine bD (fun hh => ?_) (fun hh => ?_) <;> first | (exfalso; omega) | (conv => whnf)) | (refine bEq (fun hh => ?_) (fun hh => ?_) <;> first | (exfalso; omega) | (conv => whnf)) | (refine bNe (fun hh => ?_) (fun hh => ?_) <;> first | (exfalso; omega) | (conv => whnf)) | (refine (e).callzq rfl rfl (fun r (hr : r = _) => ?_); subst hr; conv => whnf) | (refine wIn (by omega) ?_; conv => whnf) | (refine nI (by omega) ?_; conv => whnf)))
  refine iaI (by omega) (by omega) (getD_map Bolt.av d.bs k hk) ?_
  (conv => whnf); (repeat' (first | (refine bT ?_; conv => whnf) | (refine bF ?_; conv => whnf) | (refine bN ?_) | (refine bD (fun hh => ?_) (fun hh => ?_) <;> first | (exfalso; omega) | (conv => whnf)) | (refine bEq (fun hh => ?_) (fun hh => ?_) <;> first | (exfalso; omega) | (conv => whnf)) | (refine bNe (fun hh => ?_) (fun hh => ?_) <;> first | (exfalso; omega) | (conv => whnf)) | (refine (e2).callzq rfl rfl (fun r (hr : r = _) => ?_); subst hr; conv => whnf) | (refine wIn (by omega) ?_; conv => whnf) | (refine nI (by omega) ?_; conv => whnf)))
  all_goals rfl

/-! the truths' rounds -/
theorem numsN_sorted (b : Bolt) : ∀ n, (b.numsN n).Pairwise (· < ·)
  | 0 => by simp [Bolt.numsN]
  | n + 1 => by
    rw [numsN_succ]
    split
    · rw [List.pairwise_append]
      refine ⟨numsN_sorted b n, by simp, fun x hx y hy => ?_⟩
      simp only [List.mem_singleton] at hy
      subst hy
      exact (numsN_in b n x hx).2.2
    · exact numsN_sorted b n
theorem sorted_ends {l : List Int} (h : l.Pairwise (· < ·)) {x : Int} (hx : x ∈ l) : l.getD 0 0 ≤ x ∧ x ≤ l.getD (l.length - 1) 0 := by
  obtain ⟨i, hi, rfl⟩ := List.getElem_of_mem hx
  rw [List.pairwise_iff_getElem] at h
  have e1 : l.getD 0 0 = l[0] := by simp [List.getD_eq_getElem?_getD, show 0 < l.length from by omega]
  have e2 : l.getD (l.length - 1) 0 = l[l.length - 1] := by simp [List.getD_eq_getElem?_getD, show l.length - 1 < l.length from by omega]
  rw [e1, e2]
  constructor
  · by_cases e : i = 0
    · subst e; omega
    · have := h 0 i (by omega) hi (by omega); omega
  · by_cases e : i = l.length - 1
    · subst e; omega
    · have := h i (l.length - 1) hi (by omega) (by omega); omega
theorem pulled_mono {n s s' : Int} (hn : 0 ≤ n) (hs : 0 ≤ s) (h : s ≤ s') : pulled n s ≤ pulled n s' := by
  unfold pulled
  have h1 : n * (1000 + s) ≤ n * (1000 + s') := Int.mul_le_mul_of_nonneg_left (by omega) hn
  have h0 : 0 ≤ n * (1000 + s) := Int.mul_nonneg hn (by omega)
  rw [Int.tdiv_eq_ediv_of_nonneg h0, Int.tdiv_eq_ediv_of_nonneg (by omega)]
  omega
theorem sumF_mono {f g : Int → Int} : ∀ {l : List Int}, (∀ x ∈ l, f x ≤ g x) → sumF f l ≤ sumF g l
  | [], _ => by simp [sumF]
  | a :: l, h => by
    have h1 := sumF_mono (l := l) fun x hx => h x (by simp [hx])
    have h2 := h a (by simp)
    simp only [sumF, List.map_cons, List.sum_cons] at h1 ⊢
    omega
theorem sumF_congr {f g : Int → Int} : ∀ {l : List Int}, (∀ x ∈ l, f x = g x) → sumF f l = sumF g l := fun {l} h => by
  unfold sumF; rw [List.map_congr_left h]
/-- the truth with all first, or last, numbers -/
def Dome.tLo (d : Dome) : List Int := d.bs.map fun b => b.nums.getD 0 0
def Dome.tHi (d : Dome) : List Int := d.bs.map fun b => b.nums.getD (b.nums.length - 1) 0
theorem nums_pos {d : Dome} (hh : d.has = true) {b : Bolt} (hb : b ∈ d.bs) : 0 < b.nums.length := by
  have := List.all_eq_true.1 hh b hb
  cases hq : b.nums with
  | nil => rw [hq] at this; simp at this
  | cons x xs => simp
theorem tLo_T {d : Dome} (hh : d.has = true) : d.tLo ∈ d.T := mem_T.2 ⟨by simp [Dome.tLo], fun i h1 h2 => by
  have := nums_pos hh (List.getElem_mem h1)
  simp only [Dome.tLo, List.getElem_map]
  simp [List.getD_eq_getElem?_getD, this]⟩
theorem tHi_T {d : Dome} (hh : d.has = true) : d.tHi ∈ d.T := mem_T.2 ⟨by simp [Dome.tHi], fun i h1 h2 => by
  have := nums_pos hh (List.getElem_mem h1)
  simp only [Dome.tHi, List.getElem_map]
  simp [List.getD_eq_getElem?_getD, show d.bs[i].nums.length - 1 < d.bs[i].nums.length from by omega]⟩
theorem st_get {d : Dome} {g : Int} (h : 0 ≤ g ∧ g < d.bs.length) : d.opn.st.getD g.toNat [] = (d.bs[g.toNat]'(by omega)).nums := by
  simp [Dome.opn, List.getD_eq_getElem?_getD, show g.toNat < d.bs.length from by omega]
theorem by_lo {d : Dome} (hok : d.ok) (w : Int) : d.by w d.tLo = (d.opn.round w).1 := by
  refine sumF_congr fun g hg => ?_
  have h1 := hok.1.2.2.1 g hg
  unfold Opn.loG Opn.gore
  rw [st_get h1]
  simp [Dome.tLo, Dome.opn, List.getD_eq_getElem?_getD, show g.toNat < d.bs.length from by omega]
theorem by_hi {d : Dome} (hok : d.ok) (w : Int) : d.by w d.tHi = (d.opn.round w).2 := by
  refine sumF_congr fun g hg => ?_
  have h1 := hok.1.2.2.1 g hg
  unfold Opn.hiG Opn.gore
  rw [st_get h1]
  simp [Dome.tHi, Dome.opn, List.getD_eq_getElem?_getD, show g.toNat < d.bs.length from by omega]
theorem by_between {d : Dome} (hok : d.ok) {w : Int} (hw : 2 * d.loss ≤ w) {t : List Int} (ht : t ∈ d.T) : (d.opn.round w).1 ≤ d.by w t ∧ d.by w t ≤ (d.opn.round w).2 := by
  obtain ⟨h1, h2⟩ := mem_T.1 ht
  have key : ∀ g ∈ d.gs, d.opn.loG w g ≤ pulled (w - 2 * d.loss) (t.getD g.toNat 0) ∧ pulled (w - 2 * d.loss) (t.getD g.toNat 0) ≤ d.opn.hiG w g := fun g hg => by
    have h3 := hok.1.2.2.1 g hg
    have hlt : g.toNat < d.bs.length := by omega
    have hm := h2 g.toNat hlt (by omega)
    have hb := hok.2 _ (List.getElem_mem hlt)
    have e : t.getD g.toNat 0 = t[g.toNat] := by simp [List.getD_eq_getElem?_getD, show g.toNat < t.length from by omega]
    have hs := sorted_ends (numsN_sorted _ _) hm
    have hp := nums_in hb _ hm
    unfold Opn.loG Opn.hiG Opn.gore
    rw [st_get h3, e]
    have hpos : 0 < d.bs[g.toNat].nums.length := List.length_pos_of_mem hm
    have q0 : 0 ≤ d.bs[g.toNat].nums.getD 0 0 := by
      have : d.bs[g.toNat].nums.getD 0 0 ∈ d.bs[g.toNat].nums := by simp [List.getD_eq_getElem?_getD, hpos]
      exact (nums_in hb _ this).1
    exact ⟨pulled_mono (by show 0 ≤ w - 2 * d.loss; omega) q0 hs.1, pulled_mono (by show 0 ≤ w - 2 * d.loss; omega) hp.1 hs.2⟩
  exact ⟨sumF_mono fun g hg => (key g hg).1, sumF_mono fun g hg => (key g hg).2⟩
/-- surely tight: tight in each truth -/
theorem sure_iff {d : Dome} (hok : d.ok) (hh : d.has = true) {w : Int} (hw : 2 * d.loss ≤ w) (s : Int × Int) : d.opn.sure s w = true ↔ ∀ t ∈ d.T, inS s (d.by w t) = true := by
  unfold Opn.sure
  constructor
  · intro h t ht
    have hb := by_between hok hw ht
    unfold inS at h ⊢
    simp only [Bool.and_eq_true, decide_eq_true_eq] at h ⊢
    omega
  · intro h
    have h1 := h _ (tLo_T hh)
    have h2 := h _ (tHi_T hh)
    rw [by_lo hok] at h1
    rw [by_hi hok] at h2
    rw [h1, h2]; rfl
theorem cnt_all {d : Dome} {s : Int × Int} {w : Int} {l : List (List Int)} : d.cnt s w l = l.length ↔ ∀ t ∈ l, inS s (d.by w t) = true := by
  unfold Dome.cnt
  rw [List.length_filter_eq_length_iff]
theorem cnt_none {d : Dome} {s : Int × Int} {w : Int} {l : List (List Int)} : d.cnt s w l = 0 ↔ ∀ t ∈ l, inS s (d.by w t) = false := by
  unfold Dome.cnt
  rw [List.length_eq_zero_iff, List.filter_eq_nil_iff]
  constructor
  · intro h t ht; simpa using h t ht
  · intro h t ht; simp [h t ht]

/-! rounds as sums, bolt by bolt -/
def sumK (f : Nat → Int) : Nat → Int
  | 0 => 0
  | n + 1 => sumK f n + f n
theorem sumK_congr {f g : Nat → Int} : ∀ {n : Nat}, (∀ k, k < n → f k = g k) → sumK f n = sumK g n
  | 0, _ => rfl
  | n + 1, h => by simp only [sumK]; rw [sumK_congr fun k hk => h k (by omega), h n (by omega)]
theorem sumK_add (f g : Nat → Int) : ∀ n, sumK (fun k => f k + g k) n = sumK f n + sumK g n
  | 0 => rfl
  | n + 1 => by simp only [sumK, sumK_add f g n]; omega
theorem sumK_one (c : Int) (j : Nat) : ∀ n, sumK (fun k => if k = j then c else 0) n = if j < n then c else 0
  | 0 => by simp [sumK]
  | n + 1 => by
    simp only [sumK, sumK_one c j n]
    by_cases h : n = j
    · subst h; simp
    · by_cases h2 : j < n
      · simp [h, h2, show j < n + 1 from by omega]
      · simp [h, h2, show ¬ j < n + 1 from by omega]
/-- gore by gore, or bolt by bolt -/
theorem sum_bolts (h : Nat → Int) (n : Nat) : ∀ (gs : List Int), (∀ g ∈ gs, 0 ≤ g ∧ g < n) → sumF (fun g => h g.toNat) gs = sumK (fun k => ((gs.filter fun g => g == (k : Int)).length : Int) * h k) n
  | [], _ => by
    have : sumK (fun k => (((([] : List Int).filter fun g => g == (k : Int)).length : Nat) : Int) * h k) n = sumK (fun _ => 0) n := sumK_congr fun k _ => by simp
    rw [this]
    have z : ∀ n, sumK (fun _ => 0) n = 0 := fun n => by
      induction n with
      | zero => rfl
      | succ n ih => simp only [sumK, ih]; rfl
    rw [z]; simp [sumF]
  | a :: gs, hg => by
    have ih := sum_bolts h n gs fun g hg' => hg g (by simp [hg'])
    have ha := hg a (by simp)
    have e : sumF (fun g => h g.toNat) (a :: gs) = h a.toNat + sumF (fun g => h g.toNat) gs := by simp [sumF]
    rw [e, ih]
    have e2 : sumK (fun k => (((a :: gs).filter fun g => g == (k : Int)).length : Int) * h k) n = sumK (fun k => (if k = a.toNat then h a.toNat else 0) + ((gs.filter fun g => g == (k : Int)).length : Int) * h k) n := sumK_congr fun k _ => by
      by_cases hk : a = (k : Int)
      · have : k = a.toNat := by omega
        rw [if_pos this, List.filter_cons, if_pos (by simp [hk])]
        simp only [List.length_cons]
        rw [← this]
        push_cast
        rw [Int.add_mul]; omega
      · have : k ≠ a.toNat := by omega
        rw [if_neg this, List.filter_cons, if_neg (by simp [hk])]
        omega
    rw [e2, sumK_add, sumK_one, if_pos (by omega)]
theorem sumsP_iff (o : Opn) (w : Int) : ∀ (n : Nat) (x : Int), o.sumsP w n x ↔ ∃ t : List Int, t.length = n ∧ (∀ i (h : i < t.length), t[i] ∈ o.st.getD i []) ∧ x = sumK (fun k => o.many k * o.gore w (t.getD k 0)) n
  | 0, x => by
    simp only [Opn.sumsP, sumK]
    constructor
    · rintro rfl; exact ⟨[], rfl, fun i h => absurd h (by simp), rfl⟩
    · rintro ⟨_, _, _, h⟩; exact h
  | n + 1, x => by
    simp only [Opn.sumsP]
    constructor
    · rintro ⟨y, hy, s, hs, rfl⟩
      obtain ⟨t, h1, h2, h3⟩ := (sumsP_iff o w n y).1 hy
      refine ⟨t ++ [s], by simp [h1], fun i hi => ?_, ?_⟩
      · by_cases e : i < t.length
        · rw [List.getElem_append_left e]; exact h2 i e
        · have : i = t.length := by simp at hi; omega
          subst this
          rw [List.getElem_append_right (Nat.le_refl _)]
          simp only [Nat.sub_self, List.getElem_cons_zero]
          rw [h1]; exact hs
      · simp only [sumK]
        rw [h3]
        congr 1
        · exact sumK_congr fun k hk => by
            rw [List.getD_eq_getElem?_getD, List.getD_eq_getElem?_getD, List.getElem?_append_left (by omega)]
        · rw [List.getD_eq_getElem?_getD, List.getElem?_append_right (by omega), h1]
          simp
    · rintro ⟨t, h1, h2, rfl⟩
      have hn : n < t.length := by omega
      refine ⟨_, (sumsP_iff o w n _).2 ⟨t.take n, by rw [List.length_take]; omega, fun i hi => ?_, rfl⟩, t[n], h2 n hn, ?_⟩
      · rw [List.length_take] at hi
        rw [List.getElem_take]; exact h2 i (by omega)
      · simp only [sumK]
        congr 1
        · exact sumK_congr fun k hk => by
            rw [List.getD_eq_getElem?_getD, List.getD_eq_getElem?_getD, List.getElem?_take_of_lt hk]
        · simp [List.getD_eq_getElem?_getD, hn]
theorem sums_T {d : Dome} (hok : d.ok) (w x : Int) : d.opn.sumsP w d.opn.st.length x ↔ ∃ t ∈ d.T, d.by w t = x := by
  have hl : d.opn.st.length = d.bs.length := by simp [Dome.opn]
  have hby : ∀ t, d.by w t = sumK (fun k => d.opn.many k * d.opn.gore w (t.getD k 0)) d.bs.length := fun t =>
    sum_bolts (fun k => pulled (w - 2 * d.loss) (t.getD k 0)) d.bs.length d.gs hok.1.2.2.1
  have hst : ∀ i (h : i < d.bs.length), d.opn.st.getD i [] = d.bs[i].nums := fun i h => by
    simp [Dome.opn, List.getD_eq_getElem?_getD, h]
  rw [hl, sumsP_iff]
  constructor
  · rintro ⟨t, h1, h2, rfl⟩
    refine ⟨t, mem_T.2 ⟨h1, fun i i1 i2 => ?_⟩, hby t⟩
    rw [← hst i i1]; exact h2 i i2
  · rintro ⟨t, ht, rfl⟩
    obtain ⟨h1, h2⟩ := mem_T.1 ht
    exact ⟨t, h1, fun i hi => by rw [hst i (by omega)]; exact h2 i (by omega) hi, hby t⟩

theorem T_pos {d : Dome} (hh : d.has = true) : 0 < d.T.length := List.length_pos_iff.2 (T_has.2 hh)
/-- the least and the greatest of the first k -/
def minL (m : Int) (l : List Int) : Int := l.foldl min m
def maxL (m : Int) (l : List Int) : Int := l.foldl max m
theorem minL_snoc (m x : Int) (l : List Int) : minL m (l ++ [x]) = min (minL m l) x := by simp [minL]
theorem maxL_snoc (m x : Int) (l : List Int) : maxL m (l ++ [x]) = max (maxL m l) x := by simp [maxL]
theorem minL_le : ∀ (l : List Int) (m : Int), minL m l ≤ m ∧ (∀ x ∈ l, minL m l ≤ x)
  | [], m => ⟨Int.le_refl _, fun x hx => by cases hx⟩
  | a :: l, m => by
    obtain ⟨h1, h2⟩ := minL_le l (min m a)
    have e : minL m (a :: l) = minL (min m a) l := rfl
    rw [e]
    refine ⟨by omega, fun x hx => ?_⟩
    rcases List.mem_cons.1 hx with rfl | hx
    · omega
    · exact h2 x hx
theorem minL_ge {b : Int} : ∀ (l : List Int) (m : Int), b ≤ m → (∀ x ∈ l, b ≤ x) → b ≤ minL m l
  | [], m, h, _ => h
  | a :: l, m, h, hl => minL_ge l (min m a) (by have := hl a (by simp); omega) fun x hx => hl x (by simp [hx])
theorem maxL_ge : ∀ (l : List Int) (m : Int), m ≤ maxL m l ∧ (∀ x ∈ l, x ≤ maxL m l)
  | [], m => ⟨Int.le_refl _, fun x hx => by cases hx⟩
  | a :: l, m => by
    obtain ⟨h1, h2⟩ := maxL_ge l (max m a)
    have e : maxL m (a :: l) = maxL (max m a) l := rfl
    rw [e]
    refine ⟨by omega, fun x hx => ?_⟩
    rcases List.mem_cons.1 hx with rfl | hx
    · omega
    · exact h2 x hx
theorem maxL_le {b : Int} : ∀ (l : List Int) (m : Int), m ≤ b → (∀ x ∈ l, x ≤ b) → maxL m l ≤ b
  | [], m, h, _ => h
  | a :: l, m, h, hl => maxL_le l (max m a) (by have := hl a (by simp); omega) fun x hx => hl x (by simp [hx])
theorem k38_no (d : Dome) (i : Int) (h : d.eR i ≠ 0) : FnA Try.prog 38 [.agg d.cells, .int .i64 i] (· = .tup [.agg [.int .i64 0, .int .i64 0], .int .i64 (d.eR i)]) := by
  have e := k64 d 0 i
  rw [kE_R, if_neg h] at e
  refine fnA 4 ok38 (by simp) ?_
  (conv => whnf); (repeat' (first | (refine bT ?_; conv => whnf) | (refine bF ?_; conv => whnf) | (refine bN ?_) | (refine bD (fun hh => ?_) (fun hh => ?_) <;> first | (exfalso; omega) | (conv => whnf)) | (refine bEq (fun hh => ?_) (fun hh => ?_) <;> first | (exfalso; omega) | (conv => whnf)) | (refine bNe (fun hh => ?_) (fun hh => ?_) <;> first | (exfalso; omega) | (conv => whnf)) | (refine (e).callzq rfl rfl (fun r (hr : r = _) => ?_); subst hr; conv => whnf) | (refine wIn (by omega) ?_; conv => whnf) | (refine nI (by omega) ?_; conv => whnf)))
  all_goals rfl
theorem k38 (d : Dome) (k : Nat) (h : d.eR k = 0) (hk : k < d.ws.length) : FnA Try.prog 38 [.agg d.cells, .int .i64 k] (· = .tup [.agg [.int .i64 (d.opn.round d.ws[k]).1, .int .i64 (d.opn.round d.ws[k]).2], .int .i64 0]) := by
  have e := k64 d 0 k
  rw [kE_R, if_pos h] at e
  obtain ⟨hok, hh, _⟩ := eR_ok h
  have l1 : (d.ws.map iAV).length = d.ws.length := by simp
  have l2 : (d.T.map rowAV).length = d.T.length := by simp
  have hw := hok.1.2.2.2.2.2.2.2.1 _ (List.getElem_mem hk)
  have hll := hok.1.2.2.2.1
  have hg := getD_map iAV d.ws k hk
  generalize d.ws[k] = w at *
  have hTp := T_pos hh
  have hTl := T_len hok
  have ht0 : d.T[0] ∈ d.T := List.getElem_mem hTp
  have e0 := k20 d w d.T[0] hok (by omega) (fit_T hok ht0)
  have hmin : minL (d.by w d.T[0]) (d.T.map (d.by w)) = (d.opn.round w).1 := by
    apply Int.le_antisymm
    · rw [← by_lo hok]
      exact (minL_le _ _).2 _ (List.mem_map_of_mem (tLo_T hh))
    · refine minL_ge _ _ (by_between hok (by omega) ht0).1 fun x hx => ?_
      obtain ⟨t, ht, rfl⟩ := List.mem_map.1 hx
      exact (by_between hok (by omega) ht).1
  have hmax : maxL (d.by w d.T[0]) (d.T.map (d.by w)) = (d.opn.round w).2 := by
    apply Int.le_antisymm
    · refine maxL_le _ _ (by_between hok (by omega) ht0).2 fun x hx => ?_
      obtain ⟨t, ht, rfl⟩ := List.mem_map.1 hx
      exact (by_between hok (by omega) ht).2
    · rw [← by_hi hok]
      exact (maxL_ge _ _).2 _ (List.mem_map_of_mem (tHi_T hh))
  refine fnA 4 ok38 (by simp) ?_
  (conv => whnf); (repeat' (first | (refine bT ?_; conv => whnf) | (refine bF ?_; conv => whnf) | (refine bN ?_) | (refine bD (fun hh => ?_) (fun hh => ?_) <;> first | (exfalso; omega) | (conv => whnf)) | (refine bEq (fun hh => ?_) (fun hh => ?_) <;> first | (exfalso; omega) | (conv => whnf)) | (refine bNe (fun hh => ?_) (fun hh => ?_) <;> first | (exfalso; omega) | (conv => whnf)) | (refine (e).callzq rfl rfl (fun r (hr : r = _) => ?_); subst hr; conv => whnf) | (refine wIn (by omega) ?_; conv => whnf) | (refine nI (by omega) ?_; conv => whnf)))
  refine iaI (by omega) (by omega) hg ?_
  (conv => whnf); (repeat' (first | (refine bT ?_; conv => whnf) | (refine bF ?_; conv => whnf) | (refine bN ?_) | (refine bD (fun hh => ?_) (fun hh => ?_) <;> first | (exfalso; omega) | (conv => whnf)) | (refine bEq (fun hh => ?_) (fun hh => ?_) <;> first | (exfalso; omega) | (conv => whnf)) | (refine bNe (fun hh => ?_) (fun hh => ?_) <;> first | (exfalso; omega) | (conv => whnf)) | (refine wIn (by omega) ?_; conv => whnf) | (refine nI (by omega) ?_; conv => whnf)))
  refine iaI (by omega) (by omega) (getD_map rowAV d.T 0 hTp) ?_
  (conv => whnf); (repeat' (first | (refine bT ?_; conv => whnf) | (refine bF ?_; conv => whnf) | (refine bN ?_) | (refine bD (fun hh => ?_) (fun hh => ?_) <;> first | (exfalso; omega) | (conv => whnf)) | (refine bEq (fun hh => ?_) (fun hh => ?_) <;> first | (exfalso; omega) | (conv => whnf)) | (refine bNe (fun hh => ?_) (fun hh => ?_) <;> first | (exfalso; omega) | (conv => whnf)) | (refine (e0).lendq rfl (fun r (hr : r = _) => ?_); subst hr; refine ⟨rfl, ?_⟩; conv => whnf) | (refine wIn (by omega) ?_; conv => whnf) | (refine nI (by omega) ?_; conv => whnf)))
  refine loop_i (α := Nat × Int) (fun q => [(10, .int .i64 q.1), (9, .own 3 0), (8, .int .i64 q.2), (6, .isl (d.T.map rowAV)), (4, .own 1 0), (2, .own 0 0), (1, .int .i64 k)]) (fun q => [.box false d.cells, .box false [.int .i64 0, .int .i64 0], .fresh, .box false [.int .i64 (minL (d.by w d.T[0]) ((d.T.take q.1).map (d.by w))), .int .i64 (maxL (d.by w d.T[0]) ((d.T.take q.1).map (d.by w)))]]) (fun q => q.1 ≤ d.T.length) (fun q => d.T.length - q.1) (0, d.by w d.T[0]) (meets_id (by (repeat' apply And.intro) <;> first | rfl | exact True.intro | (intro hh; cases hh))) (by simp) ?_
  rintro ⟨j, u⟩ hj0
  dsimp only at hj0 ⊢
  conv => whnf
  refine bD (fun h4 => ?_) (fun h4 => ?_)
  · have hj : j < d.T.length := by omega
    have ej := k20 d w d.T[j] hok (by omega) (fit_T hok (List.getElem_mem hj))
    have ht : (d.T.take (j + 1)).map (d.by w) = (d.T.take j).map (d.by w) ++ [d.by w d.T[j]] := by
      rw [List.take_succ_eq_append_getElem hj, List.map_append]; rfl
    conv => whnf
    refine iaI (by omega) (by omega) hg ?_
    (conv => whnf); (repeat' (first | (refine bT ?_; conv => whnf) | (refine bF ?_; conv => whnf) | (refine bN ?_) | (refine bD (fun hh => ?_) (fun hh => ?_) <;> first | (exfalso; omega) | (conv => whnf)) | (refine bEq (fun hh => ?_) (fun hh => ?_) <;> first | (exfalso; omega) | (conv => whnf)) | (refine bNe (fun hh => ?_) (fun hh => ?_) <;> first | (exfalso; omega) | (conv => whnf)) | (refine wIn (by omega) ?_; conv => whnf) | (refine nI (by omega) ?_; conv => whnf)))
    refine iaI (by omega) (by omega) (getD_map rowAV d.T j hj) ?_
    (conv => whnf); (repeat' (first | (refine bT ?_; conv => whnf) | (refine bF ?_; conv => whnf) | (refine bN ?_) | (refine bD (fun hh => ?_) (fun hh => ?_) <;> first | (exfalso; omega) | (conv => whnf)) | (refine bEq (fun hh => ?_) (fun hh => ?_) <;> first | (exfalso; omega) | (conv => whnf)) | (refine bNe (fun hh => ?_) (fun hh => ?_) <;> first | (exfalso; omega) | (conv => whnf)) | (refine (ej).lendq rfl (fun r (hr : r = _) => ?_); subst hr; refine ⟨rfl, ?_⟩; conv => whnf) | (refine wIn (by omega) ?_; conv => whnf) | (refine nI (by omega) ?_; conv => whnf)))
    refine ⟨(j + 1, d.by w d.T[j]), ?_, by dsimp only; omega, by dsimp only; omega⟩
    dsimp only
    rw [ht, minL_snoc, maxL_snoc]
    exact (meets_id (by (repeat' apply And.intro) <;> first | rfl | exact True.intro | (intro hh; cases hh)))
  · have : j = d.T.length := by omega
    subst this
    rw [List.take_length, hmin, hmax]
    (conv => whnf); (repeat' (first | (refine bT ?_; conv => whnf) | (refine bF ?_; conv => whnf) | (refine bN ?_) | (refine bD (fun hh => ?_) (fun hh => ?_) <;> first | (exfalso; omega) | (conv => whnf)) | (refine bEq (fun hh => ?_) (fun hh => ?_) <;> first | (exfalso; omega) | (conv => whnf)) | (refine bNe (fun hh => ?_) (fun hh => ?_) <;> first | (exfalso; omega) | (conv => whnf)) | (refine wIn (by omega) ?_; conv => whnf) | (refine nI (by omega) ?_; conv => whnf)))
    all_goals rfl
theorem k39_no (d : Dome) (i : Int) (h : d.eR i ≠ 0) : FnA Try.prog 39 [.agg d.cells, .int .i64 i] (· = .tup [.int .i64 0, .int .i64 (d.eR i)]) := by
  have e := k64 d 0 i
  rw [kE_R, if_neg h] at e
  refine fnA 2 ok39 (by simp) ?_
  (conv => whnf); (repeat' (first | (refine bT ?_; conv => whnf) | (refine bF ?_; conv => whnf) | (refine bN ?_) | (refine bD (fun hh => ?_) (fun hh => ?_) <;> first | (exfalso; omega) | (conv => whnf)) | (refine bEq (fun hh => ?_) (fun hh => ?_) <;> first | (exfalso; omega) | (conv => whnf)) | (refine bNe (fun hh => ?_) (fun hh => ?_) <;> first | (exfalso; omega) | (conv => whnf)) | (refine (e).callzq rfl rfl (fun r (hr : r = _) => ?_); subst hr; conv => whnf) | (refine wIn (by omega) ?_; conv => whnf) | (refine nI (by omega) ?_; conv => whnf)))
  all_goals rfl
theorem tv_cnt {d : Dome} (hok : d.ok) (hh : d.has = true) {w : Int} (hw : 2 * d.loss ≤ w) (s : Int × Int) : d.opn.tv s w = if d.cnt s w d.T = d.T.length then 1 else if d.cnt s w d.T = 0 then 2 else 3 := by
  unfold Opn.tv
  by_cases h1 : d.opn.sure s w = true
  · rw [if_pos h1, if_pos (cnt_all.2 ((sure_iff hok hh hw s).1 h1))]
  · rw [if_neg h1, if_neg fun h => h1 ((sure_iff hok hh hw s).2 (cnt_all.1 h))]
    by_cases h2 : d.cnt s w d.T = 0
    · rw [if_pos h2, if_neg]
      rintro ⟨x, hx, hi⟩
      obtain ⟨t, ht, rfl⟩ := (sums_T hok w x).1 hx
      rw [cnt_none.1 h2 t ht] at hi; cases hi
    · rw [if_neg h2, if_pos]
      apply Classical.byContradiction
      intro hn
      refine h2 (cnt_none.2 fun t ht => ?_)
      cases hi : inS s (d.by w t) with
      | false => rfl
      | true => exact absurd ⟨_, (sums_T hok w _).2 ⟨t, ht, rfl⟩, hi⟩ hn
theorem k39 (d : Dome) (k : Nat) (h : d.eR k = 0) (hk : k < d.rs.length) (hkw : k < d.ws.length) : FnA Try.prog 39 [.agg d.cells, .int .i64 k] (· = .tup [.int .i64 (d.opn.tv d.rs[k] d.ws[k]), .int .i64 0]) := by
  have e := k64 d 0 k
  rw [kE_R, if_pos h] at e
  obtain ⟨hok, hh, _⟩ := eR_ok h
  have l1 : (d.ws.map iAV).length = d.ws.length := by simp
  have l2 : (d.T.map rowAV).length = d.T.length := by simp
  have hw := hok.1.2.2.2.2.2.2.2.1 _ (List.getElem_mem hkw)
  have hll := hok.1.2.2.2.1
  have hg := getD_map iAV d.ws k hkw
  have hTp := T_pos hh
  have hTl := T_len hok
  have e2 := k58 d d.T k d.ws[k] hok hk (by omega) (by omega) fun t ht => fit_T hok ht
  rw [tv_cnt hok hh hw.1]
  generalize d.ws[k] = w at *
  generalize d.rs[k] = s at *
  have hcl : d.cnt s w d.T ≤ d.T.length := List.length_filter_le _ _
  refine fnA 2 ok39 (by simp) ?_
  by_cases c1 : d.cnt s w d.T = d.T.length
  · rw [if_pos c1]
    (conv => whnf); (repeat' (first | (refine bT ?_; conv => whnf) | (refine bF ?_; conv => whnf) | (refine bN ?_) | (refine bD (fun hh => ?_) (fun hh => ?_) <;> first | (exfalso; omega) | (conv => whnf)) | (refine bEq (fun hh => ?_) (fun hh => ?_) <;> first | (exfalso; omega) | (conv => whnf)) | (refine bNe (fun hh => ?_) (fun hh => ?_) <;> first | (exfalso; omega) | (conv => whnf)) | (refine (e).callzq rfl rfl (fun r (hr : r = _) => ?_); subst hr; conv => whnf) | (refine wIn (by omega) ?_; conv => whnf) | (refine nI (by omega) ?_; conv => whnf)))
    refine iaI (by omega) (by omega) hg ?_
    (conv => whnf); (repeat' (first | (refine bT ?_; conv => whnf) | (refine bF ?_; conv => whnf) | (refine bN ?_) | (refine bD (fun hh => ?_) (fun hh => ?_) <;> first | (exfalso; omega) | (conv => whnf)) | (refine bEq (fun hh => ?_) (fun hh => ?_) <;> first | (exfalso; omega) | (conv => whnf)) | (refine bNe (fun hh => ?_) (fun hh => ?_) <;> first | (exfalso; omega) | (conv => whnf)) | (refine (e2).lendq rfl (fun r (hr : r = _) => ?_); subst hr; refine ⟨rfl, ?_⟩; conv => whnf) | (refine wIn (by omega) ?_; conv => whnf) | (refine nI (by omega) ?_; conv => whnf)))
    all_goals rfl
  · rw [if_neg c1]
    by_cases c2 : d.cnt s w d.T = 0
    · rw [if_pos c2]
      (conv => whnf); (repeat' (first | (refine bT ?_; conv => whnf) | (refine bF ?_; conv => whnf) | (refine bN ?_) | (refine bD (fun hh => ?_) (fun hh => ?_) <;> first | (exfalso; omega) | (conv => whnf)) | (refine bEq (fun hh => ?_) (fun hh => ?_) <;> first | (exfalso; omega) | (conv => whnf)) | (refine bNe (fun hh => ?_) (fun hh => ?_) <;> first | (exfalso; omega) | (conv => whnf)) | (refine (e).callzq rfl rfl (fun r (hr : r = _) => ?_); subst hr; conv => whnf) | (refine wIn (by omega) ?_; conv => whnf) | (refine nI (by omega) ?_; conv => whnf)))
      refine iaI (by omega) (by omega) hg ?_
      (conv => whnf); (repeat' (first | (refine bT ?_; conv => whnf) | (refine bF ?_; conv => whnf) | (refine bN ?_) | (refine bD (fun hh => ?_) (fun hh => ?_) <;> first | (exfalso; omega) | (conv => whnf)) | (refine bEq (fun hh => ?_) (fun hh => ?_) <;> first | (exfalso; omega) | (conv => whnf)) | (refine bNe (fun hh => ?_) (fun hh => ?_) <;> first | (exfalso; omega) | (conv => whnf)) | (refine (e2).lendq rfl (fun r (hr : r = _) => ?_); subst hr; refine ⟨rfl, ?_⟩; conv => whnf) | (refine wIn (by omega) ?_; conv => whnf) | (refine nI (by omega) ?_; conv => whnf)))
      all_goals rfl
    · rw [if_neg c2]
      (conv => whnf); (repeat' (first | (refine bT ?_; conv => whnf) | (refine bF ?_; conv => whnf) | (refine bN ?_) | (refine bD (fun hh => ?_) (fun hh => ?_) <;> first | (exfalso; omega) | (conv => whnf)) | (refine bEq (fun hh => ?_) (fun hh => ?_) <;> first | (exfalso; omega) | (conv => whnf)) | (refine bNe (fun hh => ?_) (fun hh => ?_) <;> first | (exfalso; omega) | (conv => whnf)) | (refine (e).callzq rfl rfl (fun r (hr : r = _) => ?_); subst hr; conv => whnf) | (refine wIn (by omega) ?_; conv => whnf) | (refine nI (by omega) ?_; conv => whnf)))
      refine iaI (by omega) (by omega) hg ?_
      (conv => whnf); (repeat' (first | (refine bT ?_; conv => whnf) | (refine bF ?_; conv => whnf) | (refine bN ?_) | (refine bD (fun hh => ?_) (fun hh => ?_) <;> first | (exfalso; omega) | (conv => whnf)) | (refine bEq (fun hh => ?_) (fun hh => ?_) <;> first | (exfalso; omega) | (conv => whnf)) | (refine bNe (fun hh => ?_) (fun hh => ?_) <;> first | (exfalso; omega) | (conv => whnf)) | (refine (e2).lendq rfl (fun r (hr : r = _) => ?_); subst hr; refine ⟨rfl, ?_⟩; conv => whnf) | (refine wIn (by omega) ?_; conv => whnf) | (refine nI (by omega) ?_; conv => whnf)))
      all_goals rfl

theorem eD_eR {d : Dome} (h : d.eD = 0) {k : Nat} (hk : k < d.rs.length) : d.eR k = 0 := by
  obtain ⟨hok, hh⟩ := eD_ok h
  unfold Dome.eR Dome.noR
  rw [if_pos hok, if_pos (show 0 ≤ (k : Int) ∧ (k : Int) < d.rs.length by omega), if_pos rfl, hh]; rfl
theorem k40_no (d : Dome) (h : d.eD ≠ 0) : FnA Try.prog 40 [.agg d.cells] (· = .tup [.isl [], .int .i64 d.eD]) := by
  have e := k64 d 0 0
  rw [kE_D, if_neg h] at e
  refine fnA 4 ok40 (by simp) ?_
  (conv => whnf); (repeat' (first | (refine bT ?_; conv => whnf) | (refine bF ?_; conv => whnf) | (refine bN ?_) | (refine bD (fun hh => ?_) (fun hh => ?_) <;> first | (exfalso; omega) | (conv => whnf)) | (refine bEq (fun hh => ?_) (fun hh => ?_) <;> first | (exfalso; omega) | (conv => whnf)) | (refine bNe (fun hh => ?_) (fun hh => ?_) <;> first | (exfalso; omega) | (conv => whnf)) | (refine (e).callzq rfl rfl (fun r (hr : r = _) => ?_); subst hr; conv => whnf) | (refine wIn (by omega) ?_; conv => whnf) | (refine nI (by omega) ?_; conv => whnf)))
  all_goals rfl
theorem tv_one (o : Opn) (s : Int × Int) (w : Int) : o.tv s w = 1 ↔ o.sure s w = true := by
  unfold Opn.tv
  constructor
  · intro h
    split at h
    · assumption
    · split at h <;> omega
  · intro h; rw [if_pos h]
theorem tv_in (o : Opn) (s : Int × Int) (w : Int) : o.tv s w = 1 ∨ o.tv s w = 2 ∨ o.tv s w = 3 := by
  unfold Opn.tv
  split
  · exact .inl rfl
  · split
    · exact .inr (.inr rfl)
    · exact .inr (.inl rfl)
theorem k40 (d : Dome) (h : d.eD = 0) : FnA Try.prog 40 [.agg d.cells] (· = .tup [.isl (d.opn.loose.map iAV), .int .i64 0]) := by
  have e := k64 d 0 0
  rw [kE_D, if_pos h] at e
  obtain ⟨hok, hh⟩ := eD_ok h
  have hrl := hok.1.2.2.2.2.1
  have hwl := hok.1.2.2.2.2.2.2.1
  have hl1 : (d.rs.map pairAV).length = d.rs.length := by simp
  refine fnA 5 ok40 (by simp) ?_
  (conv => whnf); (repeat' (first | (refine bT ?_; conv => whnf) | (refine bF ?_; conv => whnf) | (refine bN ?_) | (refine bD (fun hh => ?_) (fun hh => ?_) <;> first | (exfalso; omega) | (conv => whnf)) | (refine bEq (fun hh => ?_) (fun hh => ?_) <;> first | (exfalso; omega) | (conv => whnf)) | (refine bNe (fun hh => ?_) (fun hh => ?_) <;> first | (exfalso; omega) | (conv => whnf)) | (refine (e).callzq rfl rfl (fun r (hr : r = _) => ?_); subst hr; conv => whnf) | (refine wIn (by omega) ?_; conv => whnf) | (refine nI (by omega) ?_; conv => whnf)))
  refine loop_i (α := Nat) (fun k => [(7, .int .i64 k), (6, .row 4), (1, .own 0 0)]) (fun k => [.box false d.cells, .fresh, .fresh, .fresh, .row false 3 1 ((d.opn.looseN k).map iAV)]) (fun k => k ≤ d.rs.length) (fun k => d.rs.length - k) 0 (meets_nil 4 (by (repeat' apply And.intro) <;> first | rfl | exact True.intro | (intro hh; cases hh))) (by omega) ?_
  intro k hk0
  conv => whnf
  refine bD (fun h4 => ?_) (fun h4 => ?_)
  · have hk : k < d.rs.length := by omega
    have hkw : k < d.ws.length := by omega
    have e2 := k39 d k (eD_eR h hk) hk hkw
    have hs := looseN_succ d.opn k
    rw [show d.opn.d.rs.getD k (0, 0) = d.rs[k] from by simp [Dome.opn, List.getD_eq_getElem?_getD, hk], show d.opn.d.ws.getD k 0 = d.ws[k] from by simp [Dome.opn, List.getD_eq_getElem?_getD, hkw]] at hs
    have hle := looseN_le d.opn k
    have ho := tv_one d.opn d.rs[k] d.ws[k]
    have hi := tv_in d.opn d.rs[k] d.ws[k]
    generalize d.opn.tv d.rs[k] d.ws[k] = v at *
    cases hq : d.opn.sure d.rs[k] d.ws[k] with
    | true =>
      rw [hq] at hs
      rw [if_neg (by simp)] at hs
      have hv := ho.2 hq
      (conv => whnf); (repeat' (first | (refine bT ?_; conv => whnf) | (refine bF ?_; conv => whnf) | (refine bN ?_) | (refine bD (fun hh => ?_) (fun hh => ?_) <;> first | (exfalso; omega) | (conv => whnf)) | (refine bEq (fun hh => ?_) (fun hh => ?_) <;> first | (exfalso; omega) | (conv => whnf)) | (refine bNe (fun hh => ?_) (fun hh => ?_) <;> first | (exfalso; omega) | (conv => whnf)) | (refine (e2).lendq rfl (fun r (hr : r = _) => ?_); subst hr; refine ⟨rfl, ?_⟩; conv => whnf) | (refine wIn (by omega) ?_; conv => whnf) | (refine nI (by omega) ?_; conv => whnf)))
      refine ⟨k + 1, ?_, by omega, by omega⟩
      rw [hs]
      exact (meets_id (by (repeat' apply And.intro) <;> first | rfl | exact True.intro | (intro hh; cases hh)))
    | false =>
      rw [hq] at hs
      rw [if_pos (by simp)] at hs
      have hv : v ≠ 1 := fun h => by rw [ho.1 h] at hq; cases hq
      (conv => whnf); (repeat' (first | (refine bT ?_; conv => whnf) | (refine bF ?_; conv => whnf) | (refine bN ?_) | (refine bD (fun hh => ?_) (fun hh => ?_) <;> first | (exfalso; omega) | (conv => whnf)) | (refine bEq (fun hh => ?_) (fun hh => ?_) <;> first | (exfalso; omega) | (conv => whnf)) | (refine bNe (fun hh => ?_) (fun hh => ?_) <;> first | (exfalso; omega) | (conv => whnf)) | (refine (e2).lendq rfl (fun r (hr : r = _) => ?_); subst hr; refine ⟨rfl, ?_⟩; conv => whnf) | (refine wIn (by omega) ?_; conv => whnf) | (refine nI (by omega) ?_; conv => whnf)))
      refine apI (by simp [AV.one]) (by simp; omega) ?_
      (conv => whnf); (repeat' (first | (refine bT ?_; conv => whnf) | (refine bF ?_; conv => whnf) | (refine bN ?_) | (refine bD (fun hh => ?_) (fun hh => ?_) <;> first | (exfalso; omega) | (conv => whnf)) | (refine bEq (fun hh => ?_) (fun hh => ?_) <;> first | (exfalso; omega) | (conv => whnf)) | (refine bNe (fun hh => ?_) (fun hh => ?_) <;> first | (exfalso; omega) | (conv => whnf)) | (refine wIn (by omega) ?_; conv => whnf) | (refine nI (by omega) ?_; conv => whnf)))
      refine ⟨k + 1, ?_, by omega, by omega⟩
      have e3 : (d.opn.looseN (k + 1)).map iAV = (d.opn.looseN k).map iAV ++ [[.int .i64 (k : Int)]] := by rw [hs]; simp [iAV]
      rw [e3]
      exact (meets_ren 4 3 (by (repeat' apply And.intro) <;> first | rfl | exact True.intro | (intro hh; cases hh)))
  · have : k = d.rs.length := by omega
    subst this
    (conv => whnf); (repeat' (first | (refine bT ?_; conv => whnf) | (refine bF ?_; conv => whnf) | (refine bN ?_) | (refine bD (fun hh => ?_) (fun hh => ?_) <;> first | (exfalso; omega) | (conv => whnf)) | (refine bEq (fun hh => ?_) (fun hh => ?_) <;> first | (exfalso; omega) | (conv => whnf)) | (refine bNe (fun hh => ?_) (fun hh => ?_) <;> first | (exfalso; omega) | (conv => whnf)) | (refine wIn (by omega) ?_; conv => whnf) | (refine nI (by omega) ?_; conv => whnf)))
    all_goals rfl
def cut2AV : Option (Int × Int) → AV
  | none => .tup [.agg [.int .i64 0, .int .i64 0], .bool false]
  | some c => .tup [.agg [.int .i64 c.1, .int .i64 c.2], .bool true]
theorem k67 (d : Dome) (k : Nat) (hok : d.ok) (hh : d.has = true) (hk : k < d.rs.length) : FnA Try.prog 67 [.agg d.cells, .isl (d.T.map rowAV), .int .i64 k] (· = cut2AV (d.opn.cut d.rs[k])) := by
  have hl := hok.1.2.2.2.1
  have hrl := hok.1.2.2.2.2.1.2
  have hn : (d.opn.nw : Int) = 2001 - 2 * d.loss := by unfold Opn.nw Dome.opn; simp only; omega
  have l2 : (d.T.map rowAV).length = d.T.length := by simp
  have hTp := T_pos hh
  have hTl := T_len hok
  have hd : d.opn.d.loss = d.loss := rfl
  have e58 := fun w hw => k58 d d.T k w hok hk hw (by omega) fun t ht => fit_T hok ht
  generalize hs : d.rs[k] = s at *
  unfold Opn.cut
  rw [hd]
  refine fnA 3 ok67 (by simp) ?_
  (conv => whnf); (repeat' (first | (refine bT ?_; conv => whnf) | (refine bF ?_; conv => whnf) | (refine bN ?_) | (refine bD (fun hh => ?_) (fun hh => ?_) <;> first | (exfalso; omega) | (conv => whnf)) | (refine bEq (fun hh => ?_) (fun hh => ?_) <;> first | (exfalso; omega) | (conv => whnf)) | (refine bNe (fun hh => ?_) (fun hh => ?_) <;> first | (exfalso; omega) | (conv => whnf)) | (refine wIn (by omega) ?_; conv => whnf) | (refine nI (by omega) ?_; conv => whnf)))
  refine loop_i (α := Nat) (fun n => [(10, .int .i64 (2 * d.loss + n)), (9, .bool (endsN (d.opn.sure s) (2 * d.loss) n).isSome), (8, .own 2 0), (6, .own 1 0), (3, .own 0 0), (2, .int .i64 k), (1, .isl (d.T.map rowAV))]) (fun n => [.box false d.cells, .box false [.int .i64 0, .int .i64 0], .box false [.int .i64 ((endsN (d.opn.sure s) (2 * d.loss) n).getD (0, 0)).1, .int .i64 ((endsN (d.opn.sure s) (2 * d.loss) n).getD (0, 0)).2]]) (fun n => n ≤ d.opn.nw) (fun n => d.opn.nw - n) 0 ?_ (by omega) ?_
  · simp only [Int.natCast_zero, Int.add_zero, endsN, Option.isSome, Option.getD]
    exact (meets_id (by (repeat' apply And.intro) <;> first | rfl | exact True.intro | (intro hh; cases hh)))
  intro n hn0
  dsimp only
  by_cases hlt : n < d.opn.nw
  · have hw : -100000 ≤ 2 * d.loss + (n : Int) ∧ 2 * d.loss + (n : Int) ≤ 100000 := by omega
    have e := e58 _ hw
    have hiff := sure_iff hok hh (w := 2 * d.loss + (n : Int)) (by omega) s
    have hcl : d.cnt s (2 * d.loss + (n : Int)) d.T ≤ d.T.length := List.length_filter_le _ _
    by_cases hp : d.opn.sure s (2 * d.loss + (n : Nat)) = true
    · have hc1 := (cnt_all (d := d) (s := s) (w := 2 * d.loss + (n : Int)) (l := d.T)).2 (hiff.1 hp)
      cases hc : endsN (d.opn.sure s) (2 * d.loss) n with
      | none =>
        have e1 : endsN (d.opn.sure s) (2 * d.loss) (n + 1) = some (2 * d.loss + (n : Nat), 2 * d.loss + (n : Nat)) := by simp [endsN, hp, hc]
        simp only [Option.isSome, Option.getD]
        (conv => whnf); (repeat' (first | (refine bT ?_; conv => whnf) | (refine bF ?_; conv => whnf) | (refine bN ?_) | (refine bD (fun hh => ?_) (fun hh => ?_) <;> first | (exfalso; omega) | (conv => whnf)) | (refine bEq (fun hh => ?_) (fun hh => ?_) <;> first | (exfalso; omega) | (conv => whnf)) | (refine bNe (fun hh => ?_) (fun hh => ?_) <;> first | (exfalso; omega) | (conv => whnf)) | (refine (e).lendq rfl (fun r (hr : r = _) => ?_); subst hr; refine ⟨rfl, ?_⟩; conv => whnf) | (refine wIn (by omega) ?_; conv => whnf) | (refine nI (by omega) ?_; conv => whnf)))
        refine ⟨n + 1, ?_, by omega, by omega⟩
        simp only [e1, Option.isSome, Option.getD, Int.natCast_add, Int.natCast_one, ← Int.add_assoc]
        exact (meets_id (by (repeat' apply And.intro) <;> first | rfl | exact True.intro | (intro hh; cases hh)))
      | some c =>
        have e1 : endsN (d.opn.sure s) (2 * d.loss) (n + 1) = some (c.1, 2 * d.loss + (n : Nat)) := by simp [endsN, hp, hc]
        simp only [Option.isSome, Option.getD]
        (conv => whnf); (repeat' (first | (refine bT ?_; conv => whnf) | (refine bF ?_; conv => whnf) | (refine bN ?_) | (refine bD (fun hh => ?_) (fun hh => ?_) <;> first | (exfalso; omega) | (conv => whnf)) | (refine bEq (fun hh => ?_) (fun hh => ?_) <;> first | (exfalso; omega) | (conv => whnf)) | (refine bNe (fun hh => ?_) (fun hh => ?_) <;> first | (exfalso; omega) | (conv => whnf)) | (refine (e).lendq rfl (fun r (hr : r = _) => ?_); subst hr; refine ⟨rfl, ?_⟩; conv => whnf) | (refine wIn (by omega) ?_; conv => whnf) | (refine nI (by omega) ?_; conv => whnf)))
        refine ⟨n + 1, ?_, by omega, by omega⟩
        simp only [e1, Option.isSome, Option.getD, Int.natCast_add, Int.natCast_one, ← Int.add_assoc]
        exact (meets_id (by (repeat' apply And.intro) <;> first | rfl | exact True.intro | (intro hh; cases hh)))
    · have hc1 : d.cnt s (2 * d.loss + (n : Int)) d.T ≠ d.T.length := fun h => hp (hiff.2 (cnt_all.1 h))
      have hp' : d.opn.sure s (2 * d.loss + (n : Nat)) = false := by simpa using hp
      have e1 : endsN (d.opn.sure s) (2 * d.loss) (n + 1) = endsN (d.opn.sure s) (2 * d.loss) n := by simp [endsN, hp']
      (conv => whnf); (repeat' (first | (refine bT ?_; conv => whnf) | (refine bF ?_; conv => whnf) | (refine bN ?_) | (refine bD (fun hh => ?_) (fun hh => ?_) <;> first | (exfalso; omega) | (conv => whnf)) | (refine bEq (fun hh => ?_) (fun hh => ?_) <;> first | (exfalso; omega) | (conv => whnf)) | (refine bNe (fun hh => ?_) (fun hh => ?_) <;> first | (exfalso; omega) | (conv => whnf)) | (refine (e).lendq rfl (fun r (hr : r = _) => ?_); subst hr; refine ⟨rfl, ?_⟩; conv => whnf) | (refine wIn (by omega) ?_; conv => whnf) | (refine nI (by omega) ?_; conv => whnf)))
      refine ⟨n + 1, ?_, by omega, by omega⟩
      simp only [e1, Int.natCast_add, Int.natCast_one, ← Int.add_assoc]
      exact (meets_id (by (repeat' apply And.intro) <;> first | rfl | exact True.intro | (intro hh; cases hh)))
  · have : n = d.opn.nw := by omega
    subst this
    cases hc : endsN (d.opn.sure s) (2 * d.loss) d.opn.nw with
    | none =>
      simp only [Option.isSome, Option.getD]
      (conv => whnf); (repeat' (first | (refine bT ?_; conv => whnf) | (refine bF ?_; conv => whnf) | (refine bN ?_) | (refine bD (fun hh => ?_) (fun hh => ?_) <;> first | (exfalso; omega) | (conv => whnf)) | (refine bEq (fun hh => ?_) (fun hh => ?_) <;> first | (exfalso; omega) | (conv => whnf)) | (refine bNe (fun hh => ?_) (fun hh => ?_) <;> first | (exfalso; omega) | (conv => whnf)) | (refine wIn (by omega) ?_; conv => whnf) | (refine nI (by omega) ?_; conv => whnf)))
      all_goals rfl
    | some c =>
      simp only [Option.isSome, Option.getD]
      (conv => whnf); (repeat' (first | (refine bT ?_; conv => whnf) | (refine bF ?_; conv => whnf) | (refine bN ?_) | (refine bD (fun hh => ?_) (fun hh => ?_) <;> first | (exfalso; omega) | (conv => whnf)) | (refine bEq (fun hh => ?_) (fun hh => ?_) <;> first | (exfalso; omega) | (conv => whnf)) | (refine bNe (fun hh => ?_) (fun hh => ?_) <;> first | (exfalso; omega) | (conv => whnf)) | (refine wIn (by omega) ?_; conv => whnf) | (refine nI (by omega) ?_; conv => whnf)))
      all_goals rfl
theorem k41_no (d : Dome) (i : Int) (h : d.eR i ≠ 0) : FnA Try.prog 41 [.agg d.cells, .int .i64 i] (· = .tup [.agg [.int .i64 0, .int .i64 0], .int .i64 (d.eR i)]) := by
  have e := k64 d 0 i
  rw [kE_R, if_neg h] at e
  refine fnA 4 ok41 (by simp) ?_
  (conv => whnf); (repeat' (first | (refine bT ?_; conv => whnf) | (refine bF ?_; conv => whnf) | (refine bN ?_) | (refine bD (fun hh => ?_) (fun hh => ?_) <;> first | (exfalso; omega) | (conv => whnf)) | (refine bEq (fun hh => ?_) (fun hh => ?_) <;> first | (exfalso; omega) | (conv => whnf)) | (refine bNe (fun hh => ?_) (fun hh => ?_) <;> first | (exfalso; omega) | (conv => whnf)) | (refine (e).callzq rfl rfl (fun r (hr : r = _) => ?_); subst hr; conv => whnf) | (refine wIn (by omega) ?_; conv => whnf) | (refine nI (by omega) ?_; conv => whnf)))
  all_goals rfl
theorem k41 (d : Dome) (k : Nat) (h : d.eR k = 0) (hk : k < d.rs.length) : FnA Try.prog 41 [.agg d.cells, .int .i64 k] (· = cutAV (d.opn.cut d.rs[k])) := by
  have e := k64 d 0 k
  rw [kE_R, if_pos h] at e
  obtain ⟨hok, hh, _⟩ := eR_ok h
  have e2 := k67 d k hok hh hk
  cases hc : d.opn.cut d.rs[k] with
  | none =>
    rw [hc] at e2
    simp only [cutAV, cut2AV] at e2 ⊢
    refine fnA 4 ok41 (by simp) ?_
    (conv => whnf); (repeat' (first | (refine bT ?_; conv => whnf) | (refine bF ?_; conv => whnf) | (refine bN ?_) | (refine bD (fun hh => ?_) (fun hh => ?_) <;> first | (exfalso; omega) | (conv => whnf)) | (refine bEq (fun hh => ?_) (fun hh => ?_) <;> first | (exfalso; omega) | (conv => whnf)) | (refine bNe (fun hh => ?_) (fun hh => ?_) <;> first | (exfalso; omega) | (conv => whnf)) | (refine (e).callzq rfl rfl (fun r (hr : r = _) => ?_); subst hr; conv => whnf) | (refine (e2).lendq rfl (fun r (hr : r = _) => ?_); subst hr; refine ⟨rfl, ?_⟩; conv => whnf) | (refine wIn (by omega) ?_; conv => whnf) | (refine nI (by omega) ?_; conv => whnf)))
    all_goals rfl
  | some c =>
    rw [hc] at e2
    simp only [cutAV, cut2AV] at e2 ⊢
    refine fnA 4 ok41 (by simp) ?_
    (conv => whnf); (repeat' (first | (refine bT ?_; conv => whnf) | (refine bF ?_; conv => whnf) | (refine bN ?_) | (refine bD (fun hh => ?_) (fun hh => ?_) <;> first | (exfalso; omega) | (conv => whnf)) | (refine bEq (fun hh => ?_) (fun hh => ?_) <;> first | (exfalso; omega) | (conv => whnf)) | (refine bNe (fun hh => ?_) (fun hh => ?_) <;> first | (exfalso; omega) | (conv => whnf)) | (refine (e).callzq rfl rfl (fun r (hr : r = _) => ?_); subst hr; conv => whnf) | (refine (e2).lendq rfl (fun r (hr : r = _) => ?_); subst hr; refine ⟨rfl, ?_⟩; conv => whnf) | (refine wIn (by omega) ?_; conv => whnf) | (refine nI (by omega) ?_; conv => whnf)))
    all_goals rfl

/-! the laws' own functions -/
theorem k29 (a b : List Int) (ha : a.length ≤ 1000000) : FnA Try.prog 29 [.isl (a.map iAV), .isl (b.map iAV)] (· = .bool (decide (a = b))) := by
  have l1 : (a.map iAV).length = a.length := by simp
  have l2 : (b.map iAV).length = b.length := by simp
  refine fnA 0 ok29 (by simp) ?_
  by_cases hl : a.length = b.length
  case neg =>
    rw [decide_eq_false fun h : a = b => hl (by rw [h])]
    (conv => whnf); (repeat' (first | (refine bT ?_; conv => whnf) | (refine bF ?_; conv => whnf) | (refine bN ?_) | (refine bD (fun hh => ?_) (fun hh => ?_) <;> first | (exfalso; omega) | (conv => whnf)) | (refine bEq (fun hh => ?_) (fun hh => ?_) <;> first | (exfalso; omega) | (conv => whnf)) | (refine bNe (fun hh => ?_) (fun hh => ?_) <;> first | (exfalso; omega) | (conv => whnf)) | (refine wIn (by omega) ?_; conv => whnf) | (refine nI (by omega) ?_; conv => whnf)))
    all_goals rfl
  (conv => whnf); (repeat' (first | (refine bT ?_; conv => whnf) | (refine bF ?_; conv => whnf) | (refine bN ?_) | (refine bD (fun hh => ?_) (fun hh => ?_) <;> first | (exfalso; omega) | (conv => whnf)) | (refine bEq (fun hh => ?_) (fun hh => ?_) <;> first | (exfalso; omega) | (conv => whnf)) | (refine bNe (fun hh => ?_) (fun hh => ?_) <;> first | (exfalso; omega) | (conv => whnf)) | (refine wIn (by omega) ?_; conv => whnf) | (refine nI (by omega) ?_; conv => whnf)))
  refine loop_i (α := Nat) (fun k => [(5, .int .i64 k), (1, .isl (b.map iAV)), (0, .isl (a.map iAV))]) (fun k => []) (fun k => k ≤ a.length ∧ a.take k = b.take k) (fun k => a.length - k) 0 (meets_id (by (repeat' apply And.intro) <;> first | rfl | exact True.intro | (intro hh; cases hh))) ⟨by omega, by simp⟩ ?_
  rintro k ⟨hk0, hin⟩
  conv => whnf
  refine bD (fun h4 => ?_) (fun h4 => ?_)
  · have hk : k < a.length := by omega
    have hkb : k < b.length := by omega
    conv => whnf
    refine iaI (by omega) (by omega) (getD_map iAV a k hk) ?_
    (conv => whnf); (repeat' (first | (refine bT ?_; conv => whnf) | (refine bF ?_; conv => whnf) | (refine bN ?_) | (refine bD (fun hh => ?_) (fun hh => ?_) <;> first | (exfalso; omega) | (conv => whnf)) | (refine bEq (fun hh => ?_) (fun hh => ?_) <;> first | (exfalso; omega) | (conv => whnf)) | (refine bNe (fun hh => ?_) (fun hh => ?_) <;> first | (exfalso; omega) | (conv => whnf)) | (refine wIn (by omega) ?_; conv => whnf) | (refine nI (by omega) ?_; conv => whnf)))
    refine iaI (by omega) (by omega) (getD_map iAV b k hkb) ?_
    by_cases he : a[k] = b[k]
    · (conv => whnf); (repeat' (first | (refine bT ?_; conv => whnf) | (refine bF ?_; conv => whnf) | (refine bN ?_) | (refine bD (fun hh => ?_) (fun hh => ?_) <;> first | (exfalso; omega) | (conv => whnf)) | (refine bEq (fun hh => ?_) (fun hh => ?_) <;> first | (exfalso; omega) | (conv => whnf)) | (refine bNe (fun hh => ?_) (fun hh => ?_) <;> first | (exfalso; omega) | (conv => whnf)) | (refine wIn (by omega) ?_; conv => whnf) | (refine nI (by omega) ?_; conv => whnf)))
      refine ⟨k + 1, (meets_id (by (repeat' apply And.intro) <;> first | rfl | exact True.intro | (intro hh; cases hh))), ⟨by omega, ?_⟩, by omega⟩
      rw [List.take_succ_eq_append_getElem hk, List.take_succ_eq_append_getElem hkb, hin, he]
    · rw [decide_eq_false fun h : a = b => he (by subst h; rfl)]
      (conv => whnf); (repeat' (first | (refine bT ?_; conv => whnf) | (refine bF ?_; conv => whnf) | (refine bN ?_) | (refine bD (fun hh => ?_) (fun hh => ?_) <;> first | (exfalso; omega) | (conv => whnf)) | (refine bEq (fun hh => ?_) (fun hh => ?_) <;> first | (exfalso; omega) | (conv => whnf)) | (refine bNe (fun hh => ?_) (fun hh => ?_) <;> first | (exfalso; omega) | (conv => whnf)) | (refine wIn (by omega) ?_; conv => whnf) | (refine nI (by omega) ?_; conv => whnf)))
      all_goals rfl
  · have : k = a.length := by omega
    rw [this, List.take_length, List.take_of_length_le (by omega)] at hin
    rw [decide_eq_true hin]
    (conv => whnf); (repeat' (first | (refine bT ?_; conv => whnf) | (refine bF ?_; conv => whnf) | (refine bN ?_) | (refine bD (fun hh => ?_) (fun hh => ?_) <;> first | (exfalso; omega) | (conv => whnf)) | (refine bEq (fun hh => ?_) (fun hh => ?_) <;> first | (exfalso; omega) | (conv => whnf)) | (refine bNe (fun hh => ?_) (fun hh => ?_) <;> first | (exfalso; omega) | (conv => whnf)) | (refine wIn (by omega) ?_; conv => whnf) | (refine nI (by omega) ?_; conv => whnf)))
    all_goals rfl
theorem k19 (a : List Int) (x : Int) (ha : a.length ≤ 1000000) : FnA Try.prog 19 [.isl (a.map iAV), .int .i64 x] (· = .bool (decide (x ∈ a))) := by
  have l1 : (a.map iAV).length = a.length := by simp
  refine fnA 0 ok19 (by simp) ?_
  (conv => whnf); (repeat' (first | (refine bT ?_; conv => whnf) | (refine bF ?_; conv => whnf) | (refine bN ?_) | (refine bD (fun hh => ?_) (fun hh => ?_) <;> first | (exfalso; omega) | (conv => whnf)) | (refine bEq (fun hh => ?_) (fun hh => ?_) <;> first | (exfalso; omega) | (conv => whnf)) | (refine bNe (fun hh => ?_) (fun hh => ?_) <;> first | (exfalso; omega) | (conv => whnf)) | (refine wIn (by omega) ?_; conv => whnf) | (refine nI (by omega) ?_; conv => whnf)))
  refine loop_i (α := Nat) (fun k => [(5, .int .i64 k), (1, .int .i64 x), (0, .isl (a.map iAV))]) (fun k => []) (fun k => k ≤ a.length ∧ x ∉ a.take k) (fun k => a.length - k) 0 (meets_id (by (repeat' apply And.intro) <;> first | rfl | exact True.intro | (intro hh; cases hh))) ⟨by omega, by simp⟩ ?_
  rintro k ⟨hk0, hin⟩
  conv => whnf
  refine bD (fun h4 => ?_) (fun h4 => ?_)
  · have hk : k < a.length := by omega
    conv => whnf
    refine iaI (by omega) (by omega) (getD_map iAV a k hk) ?_
    by_cases he : a[k] = x
    · rw [decide_eq_true (show x ∈ a from he ▸ List.getElem_mem hk)]
      (conv => whnf); (repeat' (first | (refine bT ?_; conv => whnf) | (refine bF ?_; conv => whnf) | (refine bN ?_) | (refine bD (fun hh => ?_) (fun hh => ?_) <;> first | (exfalso; omega) | (conv => whnf)) | (refine bEq (fun hh => ?_) (fun hh => ?_) <;> first | (exfalso; omega) | (conv => whnf)) | (refine bNe (fun hh => ?_) (fun hh => ?_) <;> first | (exfalso; omega) | (conv => whnf)) | (refine wIn (by omega) ?_; conv => whnf) | (refine nI (by omega) ?_; conv => whnf)))
      all_goals rfl
    · (conv => whnf); (repeat' (first | (refine bT ?_; conv => whnf) | (refine bF ?_; conv => whnf) | (refine bN ?_) | (refine bD (fun hh => ?_) (fun hh => ?_) <;> first | (exfalso; omega) | (conv => whnf)) | (refine bEq (fun hh => ?_) (fun hh => ?_) <;> first | (exfalso; omega) | (conv => whnf)) | (refine bNe (fun hh => ?_) (fun hh => ?_) <;> first | (exfalso; omega) | (conv => whnf)) | (refine wIn (by omega) ?_; conv => whnf) | (refine nI (by omega) ?_; conv => whnf)))
      refine ⟨k + 1, (meets_id (by (repeat' apply And.intro) <;> first | rfl | exact True.intro | (intro hh; cases hh))), ⟨by omega, fun hm => ?_⟩, by omega⟩
      rw [List.take_succ_eq_append_getElem hk] at hm
      rcases List.mem_append.1 hm with hm | hm
      · exact hin hm
      · simp only [List.mem_singleton] at hm; exact he hm.symm
  · have : k = a.length := by omega
    subst this
    rw [List.take_length] at hin
    rw [decide_eq_false hin]
    (conv => whnf); (repeat' (first | (refine bT ?_; conv => whnf) | (refine bF ?_; conv => whnf) | (refine bN ?_) | (refine bD (fun hh => ?_) (fun hh => ?_) <;> first | (exfalso; omega) | (conv => whnf)) | (refine bEq (fun hh => ?_) (fun hh => ?_) <;> first | (exfalso; omega) | (conv => whnf)) | (refine bNe (fun hh => ?_) (fun hh => ?_) <;> first | (exfalso; omega) | (conv => whnf)) | (refine wIn (by omega) ?_; conv => whnf) | (refine nI (by omega) ?_; conv => whnf)))
    all_goals rfl
theorem k24 (a b n : Int) : FnA Try.prog 24 [.agg [.int .i64 a, .int .i64 b], .int .i64 n] (· = .bool (decide (a ≤ n ∧ n ≤ b))) := by
  refine fnA 1 ok24 (by simp) ?_
  (conv => whnf); (repeat' (first | (refine bT ?_; conv => whnf) | (refine bF ?_; conv => whnf) | (refine bN ?_) | (refine bD (fun hh => ?_) (fun hh => ?_) <;> first | (exfalso; omega) | (conv => whnf)) | (refine bEq (fun hh => ?_) (fun hh => ?_) <;> first | (exfalso; omega) | (conv => whnf)) | (refine bNe (fun hh => ?_) (fun hh => ?_) <;> first | (exfalso; omega) | (conv => whnf)) | (refine wIn (by omega) ?_; conv => whnf) | (refine nI (by omega) ?_; conv => whnf)))
  all_goals first | rfl | exact congrArg AV.bool (decide_eq_decide.2 (by omega)) | exact congrArg AV.bool (decide_eq_true (by omega)).symm | exact congrArg AV.bool (decide_eq_false (by omega)).symm
/-- a dome that is not far too much of something -/
def Dome.small (d : Dome) : Prop := d.bs.length ≤ 20 ∧ d.gs.length ≤ 60 ∧ d.rs.length ≤ 60 ∧ d.ws.length ≤ 60 ∧ ∀ b ∈ d.bs, b.ss.length ≤ 60
theorem k33 (d : Dome) : FnA Try.prog 33 [.agg d.cells] (fun r => ∃ b : Bool, r = .bool b ∧ (b = false → d.small)) := by
  have l1 : (d.bs.map Bolt.av).length = d.bs.length := by simp
  have l2 : (d.gs.map iAV).length = d.gs.length := by simp
  have l3 : (d.rs.map pairAV).length = d.rs.length := by simp
  have l4 : (d.ws.map iAV).length = d.ws.length := by simp
  refine fnA 1 ok33 (by simp) ?_
  by_cases c : d.bs.length ≤ 20 ∧ d.gs.length ≤ 60 ∧ d.rs.length ≤ 60 ∧ d.ws.length ≤ 60
  case neg =>
    (conv => whnf); (repeat' (first | (refine bT ?_; conv => whnf) | (refine bF ?_; conv => whnf) | (refine bN ?_) | (refine bD (fun hh => ?_) (fun hh => ?_) <;> first | (exfalso; omega) | (conv => whnf)) | (refine bEq (fun hh => ?_) (fun hh => ?_) <;> first | (exfalso; omega) | (conv => whnf)) | (refine bNe (fun hh => ?_) (fun hh => ?_) <;> first | (exfalso; omega) | (conv => whnf)) | (refine wIn (by omega) ?_; conv => whnf) | (refine nI (by omega) ?_; conv => whnf)))
    all_goals first | exact ⟨_, rfl, fun h => by cases h⟩ | omega
  obtain ⟨c1, c2, c3, c4⟩ := c
  (conv => whnf); (repeat' (first | (refine bT ?_; conv => whnf) | (refine bF ?_; conv => whnf) | (refine bN ?_) | (refine bD (fun hh => ?_) (fun hh => ?_) <;> first | (exfalso; omega) | (conv => whnf)) | (refine bEq (fun hh => ?_) (fun hh => ?_) <;> first | (exfalso; omega) | (conv => whnf)) | (refine bNe (fun hh => ?_) (fun hh => ?_) <;> first | (exfalso; omega) | (conv => whnf)) | (refine wIn (by omega) ?_; conv => whnf) | (refine nI (by omega) ?_; conv => whnf)))
  refine loop_i (α := Nat) (fun k => [(3, .int .i64 k), (1, .own 0 0)]) (fun k => [.box false d.cells]) (fun k => k ≤ d.bs.length ∧ ∀ b ∈ d.bs.take k, b.ss.length ≤ 60) (fun k => d.bs.length - k) 0 (meets_id (by (repeat' apply And.intro) <;> first | rfl | exact True.intro | (intro hh; cases hh))) ⟨by omega, by simp⟩ ?_
  rintro k ⟨hk0, hin⟩
  conv => whnf
  refine bD (fun h4 => ?_) (fun h4 => ?_)
  · have hk : k < d.bs.length := by omega
    have l5 : (d.bs[k].ss.map Strip.av).length = d.bs[k].ss.length := by simp
    conv => whnf
    refine iaI (by omega) (by omega) (getD_map Bolt.av d.bs k hk) ?_
    conv => whnf
    refine bD (fun h5 => ?_) (fun h5 => ?_)
    · (conv => whnf); (repeat' (first | (refine bT ?_; conv => whnf) | (refine bF ?_; conv => whnf) | (refine bN ?_) | (refine bD (fun hh => ?_) (fun hh => ?_) <;> first | (exfalso; omega) | (conv => whnf)) | (refine bEq (fun hh => ?_) (fun hh => ?_) <;> first | (exfalso; omega) | (conv => whnf)) | (refine bNe (fun hh => ?_) (fun hh => ?_) <;> first | (exfalso; omega) | (conv => whnf)) | (refine wIn (by omega) ?_; conv => whnf) | (refine nI (by omega) ?_; conv => whnf)))
      all_goals exact ⟨_, rfl, fun h => by cases h⟩
    · (conv => whnf); (repeat' (first | (refine bT ?_; conv => whnf) | (refine bF ?_; conv => whnf) | (refine bN ?_) | (refine bD (fun hh => ?_) (fun hh => ?_) <;> first | (exfalso; omega) | (conv => whnf)) | (refine bEq (fun hh => ?_) (fun hh => ?_) <;> first | (exfalso; omega) | (conv => whnf)) | (refine bNe (fun hh => ?_) (fun hh => ?_) <;> first | (exfalso; omega) | (conv => whnf)) | (refine wIn (by omega) ?_; conv => whnf) | (refine nI (by omega) ?_; conv => whnf)))
      exact ⟨k + 1, (meets_id (by (repeat' apply And.intro) <;> first | rfl | exact True.intro | (intro hh; cases hh))), ⟨by omega, all_take hk hin (by omega)⟩, by omega⟩
  have hkl : k = d.bs.length := by omega
  subst hkl
  rw [List.take_length] at hin
  have hsm : d.small := ⟨c1, c2, c3, c4, hin⟩
  have e := k28 d
  by_cases hok : d.ok
  case neg =>
    have hc := chk_pos hok
    (conv => whnf); (repeat' (first | (refine bT ?_; conv => whnf) | (refine bF ?_; conv => whnf) | (refine bN ?_) | (refine bD (fun hh => ?_) (fun hh => ?_) <;> first | (exfalso; omega) | (conv => whnf)) | (refine bEq (fun hh => ?_) (fun hh => ?_) <;> first | (exfalso; omega) | (conv => whnf)) | (refine bNe (fun hh => ?_) (fun hh => ?_) <;> first | (exfalso; omega) | (conv => whnf)) | (refine (e).lendq rfl (fun r (hr : r = _) => ?_); subst hr; refine ⟨rfl, ?_⟩; conv => whnf) | (refine wIn (by omega) ?_; conv => whnf) | (refine nI (by omega) ?_; conv => whnf)))
    all_goals exact ⟨_, rfl, fun _ => hsm⟩
  rw [chk_ok hok] at e
  have hbl := hok.1.1
  (conv => whnf); (repeat' (first | (refine bT ?_; conv => whnf) | (refine bF ?_; conv => whnf) | (refine bN ?_) | (refine bD (fun hh => ?_) (fun hh => ?_) <;> first | (exfalso; omega) | (conv => whnf)) | (refine bEq (fun hh => ?_) (fun hh => ?_) <;> first | (exfalso; omega) | (conv => whnf)) | (refine bNe (fun hh => ?_) (fun hh => ?_) <;> first | (exfalso; omega) | (conv => whnf)) | (refine (e).lendq rfl (fun r (hr : r = _) => ?_); subst hr; refine ⟨rfl, ?_⟩; conv => whnf) | (refine wIn (by omega) ?_; conv => whnf) | (refine nI (by omega) ?_; conv => whnf)))
  refine loop_i (α := Nat × Int) (fun q => [(5, .int .i64 q.1), (4, .int .i64 q.2), (1, .own 0 0)]) (fun k => [.box false d.cells]) (fun q => q.1 ≤ d.bs.length ∧ 0 ≤ q.2 ∧ q.2 ≤ (100 ^ q.1 : Nat)) (fun q => d.bs.length - q.1) (0, 1) (meets_id (by (repeat' apply And.intro) <;> first | rfl | exact True.intro | (intro hh; cases hh))) ⟨by simp, by simp, by simp⟩ ?_
  rintro ⟨k, m⟩ ⟨hk0, hm0, hm1⟩
  dsimp only at hk0 hm0 hm1 ⊢
  conv => whnf
  refine bD (fun h4 => ?_) (fun h4 => ?_)
  · have hk : k < d.bs.length := by omega
    have hb := hok.2 _ (List.getElem_mem hk)
    have hg := getD_map Bolt.av d.bs k hk
    generalize d.bs[k] = b at *
    have h1 := hb.1
    unfold okSpan at h1
    have hn : (b.nt : Int) = b.hi + 1 - b.lo := by unfold Bolt.nt; omega
    have hp3 : (100 : Nat) ^ k ≤ 100 ^ 3 := Nat.pow_le_pow_right (by omega) (by omega)
    have h3 : (100 : Nat) ^ 3 = 1000000 := rfl
    have hps : (100 : Nat) ^ (k + 1) = 100 ^ k * 100 := Nat.pow_succ _ _
    conv => whnf
    refine iaI (by omega) (by omega) hg ?_
    (conv => whnf); (repeat' (first | (refine bT ?_; conv => whnf) | (refine bF ?_; conv => whnf) | (refine bN ?_) | (refine bD (fun hh => ?_) (fun hh => ?_) <;> first | (exfalso; omega) | (conv => whnf)) | (refine bEq (fun hh => ?_) (fun hh => ?_) <;> first | (exfalso; omega) | (conv => whnf)) | (refine bNe (fun hh => ?_) (fun hh => ?_) <;> first | (exfalso; omega) | (conv => whnf)) | (refine wIn (by omega) ?_; conv => whnf) | (refine nI (by omega) ?_; conv => whnf)))
    refine loop_i (α := Nat × Int) (fun q => [(7, .int .i64 (b.lo + q.1)), (6, .int .i64 q.2), (5, .int .i64 k), (4, .int .i64 m), (1, .own 0 0)]) (fun k => [.box false d.cells]) (fun q => q.1 ≤ b.nt ∧ 0 ≤ q.2 ∧ q.2 ≤ q.1) (fun q => b.nt - q.1) (0, 0) ?_ ⟨by simp, by simp, by simp⟩ ?_
    · simp only [Int.natCast_zero, Int.add_zero]; exact (meets_id (by (repeat' apply And.intro) <;> first | rfl | exact True.intro | (intro hh; cases hh)))
    rintro ⟨j, n⟩ ⟨hj0, hn0, hn1⟩
    dsimp only at hj0 hn0 hn1 ⊢
    conv => whnf
    refine iaI (by omega) (by omega) hg ?_
    conv => whnf
    refine bD (fun h5 => ?_) (fun h5 => ?_)
    · have e4 := k44 b (b.lo + j) hb
      (conv => whnf); (repeat' (first | (refine bT ?_; conv => whnf) | (refine bF ?_; conv => whnf) | (refine bN ?_) | (refine bD (fun hh => ?_) (fun hh => ?_) <;> first | (exfalso; omega) | (conv => whnf)) | (refine bEq (fun hh => ?_) (fun hh => ?_) <;> first | (exfalso; omega) | (conv => whnf)) | (refine bNe (fun hh => ?_) (fun hh => ?_) <;> first | (exfalso; omega) | (conv => whnf)) | (refine wIn (by omega) ?_; conv => whnf) | (refine nI (by omega) ?_; conv => whnf)))
      refine iaI (by omega) (by omega) hg ?_
      cases hc : b.can (b.lo + j) with
      | true =>
        rw [hc] at e4
        (conv => whnf); (repeat' (first | (refine bT ?_; conv => whnf) | (refine bF ?_; conv => whnf) | (refine bN ?_) | (refine bD (fun hh => ?_) (fun hh => ?_) <;> first | (exfalso; omega) | (conv => whnf)) | (refine bEq (fun hh => ?_) (fun hh => ?_) <;> first | (exfalso; omega) | (conv => whnf)) | (refine bNe (fun hh => ?_) (fun hh => ?_) <;> first | (exfalso; omega) | (conv => whnf)) | (refine (e4).lendq rfl (fun r (hr : r = _) => ?_); subst hr; refine ⟨rfl, ?_⟩; conv => whnf) | (refine wIn (by omega) ?_; conv => whnf) | (refine nI (by omega) ?_; conv => whnf)))
        refine ⟨(j + 1, n + 1), ?_, ⟨by dsimp only; omega, by dsimp only; omega, by dsimp only; omega⟩, by dsimp only; omega⟩
        simp only [Int.natCast_add, Int.natCast_one, ← Int.add_assoc]
        exact (meets_id (by (repeat' apply And.intro) <;> first | rfl | exact True.intro | (intro hh; cases hh)))
      | false =>
        rw [hc] at e4
        (conv => whnf); (repeat' (first | (refine bT ?_; conv => whnf) | (refine bF ?_; conv => whnf) | (refine bN ?_) | (refine bD (fun hh => ?_) (fun hh => ?_) <;> first | (exfalso; omega) | (conv => whnf)) | (refine bEq (fun hh => ?_) (fun hh => ?_) <;> first | (exfalso; omega) | (conv => whnf)) | (refine bNe (fun hh => ?_) (fun hh => ?_) <;> first | (exfalso; omega) | (conv => whnf)) | (refine (e4).lendq rfl (fun r (hr : r = _) => ?_); subst hr; refine ⟨rfl, ?_⟩; conv => whnf) | (refine wIn (by omega) ?_; conv => whnf) | (refine nI (by omega) ?_; conv => whnf)))
        refine ⟨(j + 1, n), ?_, ⟨by dsimp only; omega, by dsimp only; omega, by dsimp only; omega⟩, by dsimp only; omega⟩
        simp only [Int.natCast_add, Int.natCast_one, ← Int.add_assoc]
        exact (meets_id (by (repeat' apply And.intro) <;> first | rfl | exact True.intro | (intro hh; cases hh)))
    · have hmn : 0 ≤ m * n := Int.mul_nonneg hm0 hn0
      have hmn2 : m * n ≤ ((100 ^ k : Nat) : Int) * 100 := Int.mul_le_mul hm1 (by omega) hn0 (by omega)
      (conv => whnf); (repeat' (first | (refine bT ?_; conv => whnf) | (refine bF ?_; conv => whnf) | (refine bN ?_) | (refine bD (fun hh => ?_) (fun hh => ?_) <;> first | (exfalso; omega) | (conv => whnf)) | (refine bEq (fun hh => ?_) (fun hh => ?_) <;> first | (exfalso; omega) | (conv => whnf)) | (refine bNe (fun hh => ?_) (fun hh => ?_) <;> first | (exfalso; omega) | (conv => whnf)) | (refine wIn (by omega) ?_; conv => whnf) | (refine nI (by omega) ?_; conv => whnf)))
      refine ⟨(k + 1, m * n), (meets_id (by (repeat' apply And.intro) <;> first | rfl | exact True.intro | (intro hh; cases hh))), ⟨by dsimp only; omega, hmn, ?_⟩, by dsimp only; omega⟩
      dsimp only
      rw [hps]; push_cast at hmn2 ⊢; omega
  · (conv => whnf); (repeat' (first | (refine bT ?_; conv => whnf) | (refine bF ?_; conv => whnf) | (refine bN ?_) | (refine bD (fun hh => ?_) (fun hh => ?_) <;> first | (exfalso; omega) | (conv => whnf)) | (refine bEq (fun hh => ?_) (fun hh => ?_) <;> first | (exfalso; omega) | (conv => whnf)) | (refine bNe (fun hh => ?_) (fun hh => ?_) <;> first | (exfalso; omega) | (conv => whnf)) | (refine wIn (by omega) ?_; conv => whnf) | (refine nI (by omega) ?_; conv => whnf)))
    all_goals exact ⟨_, rfl, fun _ => hsm⟩

theorem bKT {A B : Prop} {b : Bool} (hb : b = true) (hA : A) : BrB b A B := bS (fun _ => hA) (fun h => absurd h (by simp [hb]))
theorem bKF {A B : Prop} {b : Bool} (hb : b = false) (hB : B) : BrB b A B := bS (fun h => absurd h (by simp [hb])) (fun _ => hB)
theorem k37 (d : Dome) (hs : d.small) : FnA Try.prog 37 [.agg d.cells, .agg d.cells] (· = .bool true) := by
  have l1 : (d.bs.map Bolt.av).length = d.bs.length := by simp
  have l2 : (d.gs.map iAV).length = d.gs.length := by simp
  have l3 : (d.rs.map pairAV).length = d.rs.length := by simp
  have l4 : (d.ws.map iAV).length = d.ws.length := by simp
  obtain ⟨c1, c2, c3, c4, c5⟩ := hs
  have e1 := k29 d.gs d.gs (by omega)
  rw [decide_eq_true rfl] at e1
  have e2 := k29 d.ws d.ws (by omega)
  rw [decide_eq_true rfl] at e2
  refine fnA 4 ok37 (by simp) ?_
  (conv => whnf); (repeat' (first | (refine bT ?_; conv => whnf) | (refine bF ?_; conv => whnf) | (refine bN ?_) | (refine bD (fun hh => ?_) (fun hh => ?_) <;> first | (exfalso; omega) | (conv => whnf)) | (refine bEq (fun hh => ?_) (fun hh => ?_) <;> first | (exfalso; omega) | (conv => whnf)) | (refine bNe (fun hh => ?_) (fun hh => ?_) <;> first | (exfalso; omega) | (conv => whnf)) | (refine (e1).callq rfl rfl (fun r (hr : r = _) => ?_); subst hr; conv => whnf) | (refine (e2).callq rfl rfl (fun r (hr : r = _) => ?_); subst hr; conv => whnf) | (refine bKT ?_ ?_; (focus (simp; done)); conv => whnf) | (refine bKF ?_ ?_; (focus (simp; done)); conv => whnf) | (refine wIn (by omega) ?_; conv => whnf) | (refine nI (by omega) ?_; conv => whnf)))
  refine loop_i (α := Nat) (fun k => [(5, .int .i64 k), (3, .own 1 0), (2, .own 0 0)]) (fun k => [.box false d.cells, .box false d.cells, .fresh, .fresh]) (fun k => k ≤ d.rs.length) (fun k => d.rs.length - k) 0 (meets_id (by (repeat' apply And.intro) <;> first | rfl | exact True.intro | (intro hh; cases hh))) (by omega) ?_
  intro k hk0
  conv => whnf
  refine bD (fun h4 => ?_) (fun h4 => ?_)
  · have hk : k < d.rs.length := by omega
    have hg := getD_map pairAV d.rs k hk
    conv => whnf
    refine iaI (by omega) (by omega) hg ?_
    (conv => whnf); (repeat' (first | (refine bT ?_; conv => whnf) | (refine bF ?_; conv => whnf) | (refine bN ?_) | (refine bD (fun hh => ?_) (fun hh => ?_) <;> first | (exfalso; omega) | (conv => whnf)) | (refine bEq (fun hh => ?_) (fun hh => ?_) <;> first | (exfalso; omega) | (conv => whnf)) | (refine bNe (fun hh => ?_) (fun hh => ?_) <;> first | (exfalso; omega) | (conv => whnf)) | (refine wIn (by omega) ?_; conv => whnf) | (refine nI (by omega) ?_; conv => whnf)))
    refine iaI (by omega) (by omega) hg ?_
    (conv => whnf); (repeat' (first | (refine bT ?_; conv => whnf) | (refine bF ?_; conv => whnf) | (refine bN ?_) | (refine bD (fun hh => ?_) (fun hh => ?_) <;> first | (exfalso; omega) | (conv => whnf)) | (refine bEq (fun hh => ?_) (fun hh => ?_) <;> first | (exfalso; omega) | (conv => whnf)) | (refine bNe (fun hh => ?_) (fun hh => ?_) <;> first | (exfalso; omega) | (conv => whnf)) | (refine bKT ?_ ?_; (focus (simp; done)); conv => whnf) | (refine bKF ?_ ?_; (focus (simp; done)); conv => whnf) | (refine wIn (by omega) ?_; conv => whnf) | (refine nI (by omega) ?_; conv => whnf)))
    exact ⟨k + 1, (meets_id (by (repeat' apply And.intro) <;> first | rfl | exact True.intro | (intro hh; cases hh))), by omega, by omega⟩
  (conv => whnf); (repeat' (first | (refine bT ?_; conv => whnf) | (refine bF ?_; conv => whnf) | (refine bN ?_) | (refine bD (fun hh => ?_) (fun hh => ?_) <;> first | (exfalso; omega) | (conv => whnf)) | (refine bEq (fun hh => ?_) (fun hh => ?_) <;> first | (exfalso; omega) | (conv => whnf)) | (refine bNe (fun hh => ?_) (fun hh => ?_) <;> first | (exfalso; omega) | (conv => whnf)) | (refine wIn (by omega) ?_; conv => whnf) | (refine nI (by omega) ?_; conv => whnf)))
  refine loop_i (α := Nat) (fun k => [(6, .int .i64 k), (3, .own 1 0), (2, .own 0 0)]) (fun k => [.box false d.cells, .box false d.cells, .fresh, .fresh]) (fun k => k ≤ d.bs.length) (fun k => d.bs.length - k) 0 (meets_id (by (repeat' apply And.intro) <;> first | rfl | exact True.intro | (intro hh; cases hh))) (by omega) ?_
  intro k hk0
  conv => whnf
  refine bD (fun h4 => ?_) (fun h4 => ?_)
  · have hk : k < d.bs.length := by omega
    have hg := getD_map Bolt.av d.bs k hk
    have h60 := c5 _ (List.getElem_mem hk)
    generalize d.bs[k] = b at *
    have l5 : (b.ss.map Strip.av).length = b.ss.length := by simp
    conv => whnf
    refine iaI (by omega) (by omega) hg ?_
    (conv => whnf); (repeat' (first | (refine bT ?_; conv => whnf) | (refine bF ?_; conv => whnf) | (refine bN ?_) | (refine bD (fun hh => ?_) (fun hh => ?_) <;> first | (exfalso; omega) | (conv => whnf)) | (refine bEq (fun hh => ?_) (fun hh => ?_) <;> first | (exfalso; omega) | (conv => whnf)) | (refine bNe (fun hh => ?_) (fun hh => ?_) <;> first | (exfalso; omega) | (conv => whnf)) | (refine wIn (by omega) ?_; conv => whnf) | (refine nI (by omega) ?_; conv => whnf)))
    refine iaI (by omega) (by omega) hg ?_
    (conv => whnf); (repeat' (first | (refine bT ?_; conv => whnf) | (refine bF ?_; conv => whnf) | (refine bN ?_) | (refine bD (fun hh => ?_) (fun hh => ?_) <;> first | (exfalso; omega) | (conv => whnf)) | (refine bEq (fun hh => ?_) (fun hh => ?_) <;> first | (exfalso; omega) | (conv => whnf)) | (refine bNe (fun hh => ?_) (fun hh => ?_) <;> first | (exfalso; omega) | (conv => whnf)) | (refine bKT ?_ ?_; (focus (simp; done)); conv => whnf) | (refine bKF ?_ ?_; (focus (simp; done)); conv => whnf) | (refine wIn (by omega) ?_; conv => whnf) | (refine nI (by omega) ?_; conv => whnf)))
    refine loop_i (α := Nat) (fun j => [(9, .int .i64 j), (8, .own 3 0), (7, .own 2 0), (6, .int .i64 k), (3, .own 1 0), (2, .own 0 0)]) (fun j => [.box false d.cells, .box false d.cells, .box false b.av, .box false b.av]) (fun j => j ≤ b.ss.length) (fun j => b.ss.length - j) 0 (meets_id (by (repeat' apply And.intro) <;> first | rfl | exact True.intro | (intro hh; cases hh))) (by omega) ?_
    intro j hj0
    conv => whnf
    refine bD (fun h5 => ?_) (fun h5 => ?_)
    · have hj : j < b.ss.length := by omega
      have hg2 := getD_map Strip.av b.ss j hj
      conv => whnf
      refine iaI (by omega) (by omega) hg2 ?_
      (conv => whnf); (repeat' (first | (refine bT ?_; conv => whnf) | (refine bF ?_; conv => whnf) | (refine bN ?_) | (refine bD (fun hh => ?_) (fun hh => ?_) <;> first | (exfalso; omega) | (conv => whnf)) | (refine bEq (fun hh => ?_) (fun hh => ?_) <;> first | (exfalso; omega) | (conv => whnf)) | (refine bNe (fun hh => ?_) (fun hh => ?_) <;> first | (exfalso; omega) | (conv => whnf)) | (refine wIn (by omega) ?_; conv => whnf) | (refine nI (by omega) ?_; conv => whnf)))
      refine iaI (by omega) (by omega) hg2 ?_
      (conv => whnf); (repeat' (first | (refine bT ?_; conv => whnf) | (refine bF ?_; conv => whnf) | (refine bN ?_) | (refine bD (fun hh => ?_) (fun hh => ?_) <;> first | (exfalso; omega) | (conv => whnf)) | (refine bEq (fun hh => ?_) (fun hh => ?_) <;> first | (exfalso; omega) | (conv => whnf)) | (refine bNe (fun hh => ?_) (fun hh => ?_) <;> first | (exfalso; omega) | (conv => whnf)) | (refine bKT ?_ ?_; (focus (simp; done)); conv => whnf) | (refine bKF ?_ ?_; (focus (simp; done)); conv => whnf) | (refine wIn (by omega) ?_; conv => whnf) | (refine nI (by omega) ?_; conv => whnf)))
      exact ⟨j + 1, (meets_id (by (repeat' apply And.intro) <;> first | rfl | exact True.intro | (intro hh; cases hh))), by omega, by omega⟩
    · (conv => whnf); (repeat' (first | (refine bT ?_; conv => whnf) | (refine bF ?_; conv => whnf) | (refine bN ?_) | (refine bD (fun hh => ?_) (fun hh => ?_) <;> first | (exfalso; omega) | (conv => whnf)) | (refine bEq (fun hh => ?_) (fun hh => ?_) <;> first | (exfalso; omega) | (conv => whnf)) | (refine bNe (fun hh => ?_) (fun hh => ?_) <;> first | (exfalso; omega) | (conv => whnf)) | (refine wIn (by omega) ?_; conv => whnf) | (refine nI (by omega) ?_; conv => whnf)))
      exact ⟨k + 1, (meets_id (by (repeat' apply And.intro) <;> first | rfl | exact True.intro | (intro hh; cases hh))), by omega, by omega⟩
  · (conv => whnf); (repeat' (first | (refine bT ?_; conv => whnf) | (refine bF ?_; conv => whnf) | (refine bN ?_) | (refine bD (fun hh => ?_) (fun hh => ?_) <;> first | (exfalso; omega) | (conv => whnf)) | (refine bEq (fun hh => ?_) (fun hh => ?_) <;> first | (exfalso; omega) | (conv => whnf)) | (refine bNe (fun hh => ?_) (fun hh => ?_) <;> first | (exfalso; omega) | (conv => whnf)) | (refine wIn (by omega) ?_; conv => whnf) | (refine nI (by omega) ?_; conv => whnf)))
    all_goals rfl
theorem one_av {α : Type} (f : α → List AV) (n : Nat) (h : ∀ x, (f x).length = n ∧ (f x).all AV.one = true) (l : List α) : ∀ e ∈ l.map f, e.length = n ∧ e.all AV.one = true := fun e he => by
  obtain ⟨x, _, rfl⟩ := List.mem_map.1 he; exact h x
theorem k27 (d : Dome) (hs : d.small) : FnA Try.prog 27 [.agg d.cells] (· = .agg d.cells) := by
  have l1 : (d.bs.map Bolt.av).length = d.bs.length := by simp
  have l2 : (d.gs.map iAV).length = d.gs.length := by simp
  have l3 : (d.rs.map pairAV).length = d.rs.length := by simp
  have l4 : (d.ws.map iAV).length = d.ws.length := by simp
  obtain ⟨c1, c2, c3, c4, c5⟩ := hs
  refine fnA 13 ok27 (by simp) ?_
  (conv => whnf); (repeat' (first | (refine bT ?_; conv => whnf) | (refine bF ?_; conv => whnf) | (refine bN ?_) | (refine bD (fun hh => ?_) (fun hh => ?_) <;> first | (exfalso; omega) | (conv => whnf)) | (refine bEq (fun hh => ?_) (fun hh => ?_) <;> first | (exfalso; omega) | (conv => whnf)) | (refine bNe (fun hh => ?_) (fun hh => ?_) <;> first | (exfalso; omega) | (conv => whnf)) | (refine wIn (by omega) ?_; conv => whnf) | (refine nI (by omega) ?_; conv => whnf)))
  refine apI (one_av Bolt.av 4 (fun x => ⟨rfl, rfl⟩) _) (by simp only [l1, List.length_nil]; omega) ?_
  (conv => whnf); (repeat' (first | (refine bT ?_; conv => whnf) | (refine bF ?_; conv => whnf) | (refine bN ?_) | (refine bD (fun hh => ?_) (fun hh => ?_) <;> first | (exfalso; omega) | (conv => whnf)) | (refine bEq (fun hh => ?_) (fun hh => ?_) <;> first | (exfalso; omega) | (conv => whnf)) | (refine bNe (fun hh => ?_) (fun hh => ?_) <;> first | (exfalso; omega) | (conv => whnf)) | (refine wIn (by omega) ?_; conv => whnf) | (refine nI (by omega) ?_; conv => whnf)))
  have e0 : ([] : List (List AV)) ++ d.bs.map Bolt.av = d.bs.map Bolt.av := rfl
  rw [e0]
  refine loop_i (α := Nat) (fun k => [(4, .int .i64 k), (3, .own 2 0), (2, .own 1 0), (1, .own 0 0)]) (fun k => [.box false d.cells, .box false [.nils, .nils, .int .i64 0, .nils, .nils, .int .i64 0], .box false [.row 4, .isl (d.gs.map iAV), .int .i64 d.loss, .isl (d.rs.map pairAV), .isl (d.ws.map iAV), .int .i64 d.slope], .fresh, .row false 52 4 (d.bs.map Bolt.av), .fresh, .fresh, .fresh, .fresh, .fresh, .fresh, .fresh, .fresh]) (fun k => k ≤ d.bs.length) (fun k => d.bs.length - k) 0 (meets_id (by (repeat' apply And.intro) <;> first | rfl | exact True.intro | (intro hh; cases hh))) (by omega) ?_
  intro k hk0
  conv => whnf
  refine bD (fun h4 => ?_) (fun h4 => ?_)
  · have hk : k < d.bs.length := by omega
    have hg := getD_map Bolt.av d.bs k hk
    have h60 := c5 _ (List.getElem_mem hk)
    have hset : (d.bs.map Bolt.av).set k (d.bs[k]).av = d.bs.map Bolt.av := by
      apply List.ext_getElem (by simp)
      intro n h1 h2
      rw [List.getElem_set]
      split
      · rename_i e; subst e; simp
      · rfl
    generalize d.bs[k] = b at *
    have l5 : (b.ss.map Strip.av).length = b.ss.length := by simp
    conv => whnf
    refine iaI (by omega) (by omega) hg ?_
    (conv => whnf); (repeat' (first | (refine bT ?_; conv => whnf) | (refine bF ?_; conv => whnf) | (refine bN ?_) | (refine bD (fun hh => ?_) (fun hh => ?_) <;> first | (exfalso; omega) | (conv => whnf)) | (refine bEq (fun hh => ?_) (fun hh => ?_) <;> first | (exfalso; omega) | (conv => whnf)) | (refine bNe (fun hh => ?_) (fun hh => ?_) <;> first | (exfalso; omega) | (conv => whnf)) | (refine wIn (by omega) ?_; conv => whnf) | (refine nI (by omega) ?_; conv => whnf)))
    refine apI (one_av Strip.av 3 (fun x => ⟨rfl, rfl⟩) _) (by simp only [l5, List.length_nil]; omega) ?_
    (conv => whnf); (repeat' (first | (refine bT ?_; conv => whnf) | (refine bF ?_; conv => whnf) | (refine bN ?_) | (refine bD (fun hh => ?_) (fun hh => ?_) <;> first | (exfalso; omega) | (conv => whnf)) | (refine bEq (fun hh => ?_) (fun hh => ?_) <;> first | (exfalso; omega) | (conv => whnf)) | (refine bNe (fun hh => ?_) (fun hh => ?_) <;> first | (exfalso; omega) | (conv => whnf)) | (refine wIn (by omega) ?_; conv => whnf) | (refine nI (by omega) ?_; conv => whnf)))
    refine iaI (by omega) (by omega) hg ?_
    (conv => whnf); (repeat' (first | (refine bT ?_; conv => whnf) | (refine bF ?_; conv => whnf) | (refine bN ?_) | (refine bD (fun hh => ?_) (fun hh => ?_) <;> first | (exfalso; omega) | (conv => whnf)) | (refine bEq (fun hh => ?_) (fun hh => ?_) <;> first | (exfalso; omega) | (conv => whnf)) | (refine bNe (fun hh => ?_) (fun hh => ?_) <;> first | (exfalso; omega) | (conv => whnf)) | (refine wIn (by omega) ?_; conv => whnf) | (refine nI (by omega) ?_; conv => whnf)))
    refine ⟨k + 1, ?_, by omega, by omega⟩
    have hset2 : (((d.bs.map Bolt.av).set k b.av).map id) = d.bs.map Bolt.av := by rw [hset]; simp
    have hset3 : (d.bs.map Bolt.av).set (k : Int).toNat [AV.int .i64 b.lo, AV.int .i64 b.hi, AV.isl ([] ++ b.ss.map Strip.av), AV.int .i64 b.wrong] = d.bs.map Bolt.av := by
      rw [Int.toNat_natCast, List.nil_append]; exact hset
    rw [hset3]
    exact (meets_id (by (repeat' apply And.intro) <;> first | rfl | exact True.intro | (intro hh; cases hh)))
  · (conv => whnf); (repeat' (first | (refine bT ?_; conv => whnf) | (refine bF ?_; conv => whnf) | (refine bN ?_) | (refine bD (fun hh => ?_) (fun hh => ?_) <;> first | (exfalso; omega) | (conv => whnf)) | (refine bEq (fun hh => ?_) (fun hh => ?_) <;> first | (exfalso; omega) | (conv => whnf)) | (refine bNe (fun hh => ?_) (fun hh => ?_) <;> first | (exfalso; omega) | (conv => whnf)) | (refine wIn (by omega) ?_; conv => whnf) | (refine nI (by omega) ?_; conv => whnf)))
    refine apI (one_iAV _) (by simp only [l2, List.length_nil]; omega) ?_
    (conv => whnf); (repeat' (first | (refine bT ?_; conv => whnf) | (refine bF ?_; conv => whnf) | (refine bN ?_) | (refine bD (fun hh => ?_) (fun hh => ?_) <;> first | (exfalso; omega) | (conv => whnf)) | (refine bEq (fun hh => ?_) (fun hh => ?_) <;> first | (exfalso; omega) | (conv => whnf)) | (refine bNe (fun hh => ?_) (fun hh => ?_) <;> first | (exfalso; omega) | (conv => whnf)) | (refine wIn (by omega) ?_; conv => whnf) | (refine nI (by omega) ?_; conv => whnf)))
    refine apI (one_av pairAV 2 (fun x => ⟨rfl, rfl⟩) _) (by simp only [l3, List.length_nil]; omega) ?_
    (conv => whnf); (repeat' (first | (refine bT ?_; conv => whnf) | (refine bF ?_; conv => whnf) | (refine bN ?_) | (refine bD (fun hh => ?_) (fun hh => ?_) <;> first | (exfalso; omega) | (conv => whnf)) | (refine bEq (fun hh => ?_) (fun hh => ?_) <;> first | (exfalso; omega) | (conv => whnf)) | (refine bNe (fun hh => ?_) (fun hh => ?_) <;> first | (exfalso; omega) | (conv => whnf)) | (refine wIn (by omega) ?_; conv => whnf) | (refine nI (by omega) ?_; conv => whnf)))
    refine apI (one_iAV _) (by simp only [l4, List.length_nil]; omega) ?_
    (conv => whnf); (repeat' (first | (refine bT ?_; conv => whnf) | (refine bF ?_; conv => whnf) | (refine bN ?_) | (refine bD (fun hh => ?_) (fun hh => ?_) <;> first | (exfalso; omega) | (conv => whnf)) | (refine bEq (fun hh => ?_) (fun hh => ?_) <;> first | (exfalso; omega) | (conv => whnf)) | (refine bNe (fun hh => ?_) (fun hh => ?_) <;> first | (exfalso; omega) | (conv => whnf)) | (refine wIn (by omega) ?_; conv => whnf) | (refine nI (by omega) ?_; conv => whnf)))
    all_goals rfl

theorem k23o (d : Dome) (h : d.eD = 0) : FnO Try.prog 23 [.agg d.cells] (fun r rows => r = .tup [.row 9, .int .i64 0] ∧ rows = [(9, .row false 3 1 (d.opn.loose.map iAV))]) := by
  have e := k51' d
  unfold opnAV at e
  rw [if_pos h] at e
  obtain ⟨hok, hh⟩ := eD_ok h
  have hoo := opn_ok hok hh
  have hrl := hok.1.2.2.2.2.1
  have hwl := hok.1.2.2.2.2.2.2.1
  have hl1 : (d.ws.map iAV).length = d.ws.length := by simp
  have hll := hok.1.2.2.2.1
  refine fnO 10 ok23 (by simp) ?_
  (conv => whnf); (repeat' (first | (refine bT ?_; conv => whnf) | (refine bF ?_; conv => whnf) | (refine bN ?_) | (refine bD (fun hh => ?_) (fun hh => ?_) <;> first | (exfalso; omega) | (conv => whnf)) | (refine bEq (fun hh => ?_) (fun hh => ?_) <;> first | (exfalso; omega) | (conv => whnf)) | (refine bNe (fun hh => ?_) (fun hh => ?_) <;> first | (exfalso; omega) | (conv => whnf)) | (refine (e).callzq rfl rfl (fun r (hr : r = _) => ?_); subst hr; conv => whnf) | (refine wIn (by omega) ?_; conv => whnf) | (refine nI (by omega) ?_; conv => whnf)))
  refine loop_i (α := Nat) (fun k => [(21, .int .i64 k), (20, .int .i64 ↑(d.ws.map iAV).length), (19, .isl (d.ws.map iAV)), (6, .row 9), (4, .own 6 0)]) (fun k => [.fresh, .fresh, .fresh, .fresh, .fresh, .fresh, .box false d.opn.cells, .fresh, .fresh, .row false 3 1 ((d.opn.looseN k).map iAV)]) (fun k => k ≤ d.ws.length) (fun k => d.ws.length - k) 0 (meets_nil 9 (by (repeat' apply And.intro) <;> first | rfl | exact True.intro | (intro hh; cases hh))) (by omega) ?_
  intro k hk0
  conv => whnf
  refine bD (fun h4 => ?_) (fun h4 => ?_)
  · have hk : k < d.ws.length := by omega
    have hkr : k < d.rs.length := by omega
    have hw := hok.1.2.2.2.2.2.2.2.1 _ (List.getElem_mem hk)
    have e2 : FnA Try.prog 52 [.agg d.opn.cells, .int .i64 k, .int .i64 d.ws[k]] (· = .bool (d.opn.sure d.rs[k] d.ws[k])) := k52 d.opn k d.ws[k] hoo hkr (by omega)
    have hs := looseN_succ d.opn k
    rw [show d.opn.d.rs.getD k (0, 0) = d.rs[k] from by simp [Dome.opn, List.getD_eq_getElem?_getD, hkr], show d.opn.d.ws.getD k 0 = d.ws[k] from by simp [Dome.opn, List.getD_eq_getElem?_getD, hk]] at hs
    have hle := looseN_le d.opn k
    conv => whnf
    refine iaI (by omega) (by omega) (getD_map iAV d.ws k hk) ?_
    cases hq : d.opn.sure d.rs[k] d.ws[k] with
    | true =>
      rw [hq] at e2 hs
      rw [if_neg (by simp)] at hs
      (conv => whnf); (repeat' (first | (refine bT ?_; conv => whnf) | (refine bF ?_; conv => whnf) | (refine bN ?_) | (refine bD (fun hh => ?_) (fun hh => ?_) <;> first | (exfalso; omega) | (conv => whnf)) | (refine bEq (fun hh => ?_) (fun hh => ?_) <;> first | (exfalso; omega) | (conv => whnf)) | (refine bNe (fun hh => ?_) (fun hh => ?_) <;> first | (exfalso; omega) | (conv => whnf)) | (refine (e2).lendq rfl (fun r (hr : r = _) => ?_); subst hr; refine ⟨rfl, ?_⟩; conv => whnf) | (refine wIn (by omega) ?_; conv => whnf) | (refine nI (by omega) ?_; conv => whnf)))
      refine ⟨k + 1, ?_, by omega, by omega⟩
      rw [hs]
      exact (meets_id (by (repeat' apply And.intro) <;> first | rfl | exact True.intro | (intro hh; cases hh)))
    | false =>
      rw [hq] at e2 hs
      rw [if_pos (by simp)] at hs
      (conv => whnf); (repeat' (first | (refine bT ?_; conv => whnf) | (refine bF ?_; conv => whnf) | (refine bN ?_) | (refine bD (fun hh => ?_) (fun hh => ?_) <;> first | (exfalso; omega) | (conv => whnf)) | (refine bEq (fun hh => ?_) (fun hh => ?_) <;> first | (exfalso; omega) | (conv => whnf)) | (refine bNe (fun hh => ?_) (fun hh => ?_) <;> first | (exfalso; omega) | (conv => whnf)) | (refine (e2).lendq rfl (fun r (hr : r = _) => ?_); subst hr; refine ⟨rfl, ?_⟩; conv => whnf) | (refine wIn (by omega) ?_; conv => whnf) | (refine nI (by omega) ?_; conv => whnf)))
      refine apI (by simp [AV.one]) (by simp; omega) ?_
      (conv => whnf); (repeat' (first | (refine bT ?_; conv => whnf) | (refine bF ?_; conv => whnf) | (refine bN ?_) | (refine bD (fun hh => ?_) (fun hh => ?_) <;> first | (exfalso; omega) | (conv => whnf)) | (refine bEq (fun hh => ?_) (fun hh => ?_) <;> first | (exfalso; omega) | (conv => whnf)) | (refine bNe (fun hh => ?_) (fun hh => ?_) <;> first | (exfalso; omega) | (conv => whnf)) | (refine wIn (by omega) ?_; conv => whnf) | (refine nI (by omega) ?_; conv => whnf)))
      refine ⟨k + 1, ?_, by omega, by omega⟩
      have e3 : (d.opn.looseN (k + 1)).map iAV = (d.opn.looseN k).map iAV ++ [[.int .i64 (k : Int)]] := by rw [hs]; simp [iAV]
      rw [e3]
      exact (meets_ren 9 8 (by (repeat' apply And.intro) <;> first | rfl | exact True.intro | (intro hh; cases hh)))
  · have : k = d.rs.length := by omega
    subst this
    (conv => whnf); (repeat' (first | (refine bT ?_; conv => whnf) | (refine bF ?_; conv => whnf) | (refine bN ?_) | (refine bD (fun hh => ?_) (fun hh => ?_) <;> first | (exfalso; omega) | (conv => whnf)) | (refine bEq (fun hh => ?_) (fun hh => ?_) <;> first | (exfalso; omega) | (conv => whnf)) | (refine bNe (fun hh => ?_) (fun hh => ?_) <;> first | (exfalso; omega) | (conv => whnf)) | (refine wIn (by omega) ?_; conv => whnf) | (refine nI (by omega) ?_; conv => whnf)))
    all_goals exact ⟨rfl, rfl⟩

def exD : Dome := ⟨[⟨0, 20, [⟨1000, 1005, 1010⟩], 0⟩, ⟨0, 10, [], 0⟩], [0, 0, 1, 1], 5, [(400, 404), (600, 650), (803, 806)], [110, 165, 210], 50⟩
def exE : Dome := ⟨[⟨0, 20, [⟨1000, 1005, 1010⟩], 0⟩, ⟨0, 10, [], 0⟩], [0, 0, 1, 1], 5, [(400, 404), (600, 650), (800, 808)], [110, 165, 210], 50⟩
theorem k45 : FnO Try.prog 45 [] (fun r rows => r = .agg [.row 2, .row 3, .int .i64 5, .row 4, .row 5, .int .i64 50] ∧ rows = [(2, .row false 52 4 (exD.bs.map Bolt.av)), (3, .row false 3 1 (exD.gs.map iAV)), (4, .row false 36 2 (exD.rs.map pairAV)), (5, .row false 3 1 (exD.ws.map iAV))]) := by
  refine fnO 6 ok45 (by simp) ?_
  (conv => whnf); (repeat' (first | (refine bT ?_; conv => whnf) | (refine bF ?_; conv => whnf) | (refine bN ?_) | (refine bD (fun hh => ?_) (fun hh => ?_) <;> first | (exfalso; omega) | (conv => whnf)) | (refine bEq (fun hh => ?_) (fun hh => ?_) <;> first | (exfalso; omega) | (conv => whnf)) | (refine bNe (fun hh => ?_) (fun hh => ?_) <;> first | (exfalso; omega) | (conv => whnf)) | (refine wIn (by omega) ?_; conv => whnf) | (refine nI (by omega) ?_; conv => whnf)))
  all_goals exact ⟨rfl, rfl⟩
theorem exD_ok : exD.ok := by
  constructor
  · unfold Dome.ok1; decide
  · unfold Dome.okB; decide
theorem exE_ok : exE.ok := by
  constructor
  · unfold Dome.ok1; decide
  · unfold Dome.okB; decide
theorem exD_has : exD.has = true := by kernel_rfl
theorem exE_has : exE.has = true := by kernel_rfl
theorem exD_eD : exD.eD = 0 := by unfold Dome.eD; rw [if_pos exD_ok, exD_has]; rfl
theorem exE_eD : exE.eD = 0 := by unfold Dome.eD; rw [if_pos exE_ok, exE_has]; rfl
theorem exD_round : exD.opn.round 210 = (802, 808) := by kernel_rfl
theorem exD_sure : exD.opn.sure (600, 650) 165 = true := by kernel_rfl
theorem exD_cut : exD.opn.cut (600, 650) = some (160, 171) := by kernel_rfl
theorem exD_loose : exD.opn.loose = [2] := by kernel_rfl
theorem exE_cuts : exE.opn.cuts = some [(110, 110), (160, 171), (210, 210)] := by kernel_rfl

theorem exE_curve : exE.opn.curve = some [110, 160, 210] := by
  unfold Opn.curve
  rw [exE_cuts]
  exact if_pos (by decide)
theorem k17 : FnA Try.prog 17 [] (· = .bool true) := by
  have eR : ∀ k, k < exD.rs.length → exD.eR k = 0 := fun k hk => eD_eR exD_eD hk
  have e1 := k21 exD 2 (eR 2 (by decide)) (by decide)
  rw [show exD.ws[2]'(by decide) = 210 from rfl, exD_round] at e1
  have e2 := k22 exD 1 (eR 1 (by decide)) (by decide) (by decide)
  rw [show exD.ws[1]'(by decide) = 165 from rfl, show exD.rs[1]'(by decide) = (600, 650) from rfl, (tv_one _ _ _).2 exD_sure] at e2
  have e3 := k26 exD 1 (eR 1 (by decide)) (by decide)
  rw [show exD.rs[1]'(by decide) = (600, 650) from rfl, exD_cut] at e3
  simp only [cutAV] at e3
  have e4 := k23o exD exD_eD
  rw [exD_loose] at e4
  have e5 := k30 exE exE_eD
  rw [exE_curve] at e5
  have e5' : FnA Try.prog 30 [.agg exE.cells] (· = .tup [.int .i64 480, .int .i64 0]) := e5
  have e6 := k29 [2] [2] (by decide)
  rw [decide_eq_true rfl] at e6
  have hrl : (exD.rs.map pairAV).length = 3 := by decide
  refine fnA 9 ok17 (by simp) ?_
  conv => whnf
  refine k45.callzq rfl rfl (fun r rows (hr : r = _ ∧ rows = _) => ?_); obtain ⟨hr1, hr2⟩ := hr; subst hr1; subst hr2; refine ⟨rfl, ?_⟩
  (conv => whnf); (repeat' (first | (refine bT ?_; conv => whnf) | (refine bF ?_; conv => whnf) | (refine bN ?_) | (refine bD (fun hh => ?_) (fun hh => ?_) <;> first | (exfalso; omega) | (conv => whnf)) | (refine bEq (fun hh => ?_) (fun hh => ?_) <;> first | (exfalso; omega) | (conv => whnf)) | (refine bNe (fun hh => ?_) (fun hh => ?_) <;> first | (exfalso; omega) | (conv => whnf)) | (refine (e1).lendq rfl (fun r (hr : r = _) => ?_); subst hr; refine ⟨rfl, ?_⟩; conv => whnf) | (refine (e2).lendq rfl (fun r (hr : r = _) => ?_); subst hr; refine ⟨rfl, ?_⟩; conv => whnf) | (refine (e3).lendq rfl (fun r (hr : r = _) => ?_); subst hr; refine ⟨rfl, ?_⟩; conv => whnf) | (refine wIn (by omega) ?_; conv => whnf) | (refine nI (by omega) ?_; conv => whnf)))
  refine e4.calllq rfl rfl (fun r rows (hr : r = _ ∧ rows = _) => ?_); obtain ⟨hr1, hr2⟩ := hr; subst hr1; subst hr2; refine ⟨rfl, rfl, rfl, ?_⟩
  (conv => whnf); (repeat' (first | (refine bT ?_; conv => whnf) | (refine bF ?_; conv => whnf) | (refine bN ?_) | (refine bD (fun hh => ?_) (fun hh => ?_) <;> first | (exfalso; omega) | (conv => whnf)) | (refine bEq (fun hh => ?_) (fun hh => ?_) <;> first | (exfalso; omega) | (conv => whnf)) | (refine bNe (fun hh => ?_) (fun hh => ?_) <;> first | (exfalso; omega) | (conv => whnf)) | (refine wIn (by omega) ?_; conv => whnf) | (refine nI (by omega) ?_; conv => whnf)))
  refine iaI (by omega) (by omega) (show _ = pairAV (803, 806) from rfl) ?_
  (conv => whnf); (repeat' (first | (refine bT ?_; conv => whnf) | (refine bF ?_; conv => whnf) | (refine bN ?_) | (refine bD (fun hh => ?_) (fun hh => ?_) <;> first | (exfalso; omega) | (conv => whnf)) | (refine bEq (fun hh => ?_) (fun hh => ?_) <;> first | (exfalso; omega) | (conv => whnf)) | (refine bNe (fun hh => ?_) (fun hh => ?_) <;> first | (exfalso; omega) | (conv => whnf)) | (refine (e5').lendq rfl (fun r (hr : r = _) => ?_); subst hr; refine ⟨rfl, ?_⟩; conv => whnf) | (refine (e6).lendq rfl (fun r (hr : r = _) => ?_); subst hr; refine ⟨rfl, ?_⟩; conv => whnf) | (refine wIn (by omega) ?_; conv => whnf) | (refine nI (by omega) ?_; conv => whnf)))
  all_goals rfl
end Go.Proofs
