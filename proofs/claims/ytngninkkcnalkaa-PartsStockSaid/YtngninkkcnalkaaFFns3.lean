/- What each function of this program answers, proved by walking its body: the contracts that the law rests on, part 3. -/
import Derived.Test.YtngninkkcnalkaaFFns2
set_option linter.unusedSimpArgs false
set_option linter.unusedVariables false
set_option linter.unusedSectionVars false
namespace Go.Proofs
open Go.Eng
attribute [local irreducible] Go.Eng.brB Go.Eng.need Go.Eng.wrE Go.Eng.iaE Go.Eng.slE Go.Eng.apE Go.Eng.CallZ Go.Eng.CallE Go.Eng.VCallE Go.Eng.YldE Go.Eng.GoC Go.Eng.MeetsE Go.Eng.FnA Go.Eng.FnV Go.Eng.ItA Go.Eng.ItM
set_option maxRecDepth 100000
structure Big (w : Shop) : Prop where
  s : w.sps.length ≤ 1000000
  m : w.mks.length ≤ 1000000
  t : w.tb.length ≤ 1000000
  sl : ∀ x ∈ w.mks, x.length ≤ 1000000 ∧ ∀ y ∈ x, y.ss.length ≤ 1000000
theorem p47 (w : Shop) (i : Int) (hw : w.sps.length ≤ 1000000) : FnA Try.prog 47 [.agg w.cells, .int .i64 i] (· = .bool (w.isSp i)) := by
  have hL : (w.sps.map Spare.av).length = w.sps.length := by simp
  have e1 := p90 i 0 (↑(w.sps.map Spare.av).length - 1)
  unfold Shop.isSp
  refine fnA 1 ok47 (by simp) ?_
  (conv => whnf); (repeat' ((first | refine bT ?_ | refine bF ?_ | refine bN ?_ | ((first | refine bD ?_ ?_ | refine bEq ?_ ?_ | refine bNe ?_ ?_) <;> intro hh <;> try (exfalso; omega)) | (refine (e1).callq rfl rfl fun _ h => ?_; subst h) | refine wIn (by omega) ?_ | refine nI (by omega) ?_) <;> conv => whnf))
  all_goals first | rfl | exact congrArg AV.bool (decide_eq_decide.2 (by omega)) | exact congrArg AV.bool (decide_eq_true (by omega)).symm | exact congrArg AV.bool (decide_eq_false (by omega)).symm
theorem p80 (w : Shop) (i : Int) (hw : w.mks.length ≤ 1000000) : FnA Try.prog 80 [.agg w.cells, .int .i64 i] (· = .bool (w.isMk i)) := by
  have hL : (w.mks.map mkAV).length = w.mks.length := by simp
  have e1 := p90 i 0 (↑(w.mks.map mkAV).length - 1)
  unfold Shop.isMk
  refine fnA 1 ok80 (by simp) ?_
  (conv => whnf); (repeat' ((first | refine bT ?_ | refine bF ?_ | refine bN ?_ | ((first | refine bD ?_ ?_ | refine bEq ?_ ?_ | refine bNe ?_ ?_) <;> intro hh <;> try (exfalso; omega)) | (refine (e1).callq rfl rfl fun _ h => ?_; subst h) | refine wIn (by omega) ?_ | refine nI (by omega) ?_) <;> conv => whnf))
  all_goals first | rfl | exact congrArg AV.bool (decide_eq_decide.2 (by omega)) | exact congrArg AV.bool (decide_eq_true (by omega)).symm | exact congrArg AV.bool (decide_eq_false (by omega)).symm
theorem p53 (w : Shop) (m k : Int) (hw : w.mks.length ≤ 1000000) (hm : ∀ x ∈ w.mks, x.length ≤ 1000000) : FnA Try.prog 53 [.agg w.cells, .int .i64 m, .int .i64 k] (· = .bool (w.isSl m k)) := by
  have hL : (w.mks.map mkAV).length = w.mks.length := by simp
  have e1 := p80 w m hw
  unfold Shop.isSl
  refine fnA 1 ok53 (by simp) ?_
  cases h1 : w.isMk m with
  | false =>
    rw [h1] at e1
    (conv => whnf); (repeat' ((first | refine bT ?_ | refine bF ?_ | refine bN ?_ | ((first | refine bD ?_ ?_ | refine bEq ?_ ?_ | refine bNe ?_ ?_) <;> intro hh <;> try (exfalso; omega)) | (refine (e1).callq rfl rfl fun _ h => ?_; subst h) | refine wIn (by omega) ?_ | refine nI (by omega) ?_) <;> conv => whnf))
    all_goals rfl
  | true =>
    rw [h1] at e1
    have h2 := isMk_iff.1 h1
    have hL2 : ((w.slots m).map Slot.av).length = (w.slots m).length := by simp
    have hS : (w.slots m).length ≤ 1000000 := hm _ (slots_mem h1)
    have e2 := p90 k 0 (↑((w.slots m).map Slot.av).length - 1)
    (conv => whnf); (repeat' ((first | refine bT ?_ | refine bF ?_ | refine bN ?_ | ((first | refine bD ?_ ?_ | refine bEq ?_ ?_ | refine bNe ?_ ?_) <;> intro hh <;> try (exfalso; omega)) | (refine (e1).callq rfl rfl fun _ h => ?_; subst h) | (refine (e2).callq rfl rfl fun _ h => ?_; subst h) | (refine iaI (by omega) (by omega) (mkget h1) ?_) | refine wIn (by omega) ?_ | refine nI (by omega) ?_) <;> conv => whnf))
    all_goals (refine congrArg AV.bool ?_; rw [Bool.true_and]; exact decide_eq_decide.2 (by omega))
theorem p51 (l : List Int) (x : Int) (hl : l.length ≤ 1000000) : FnA Try.prog 51 [.isl (l.map jAV), .int .i64 x] (· = .bool (decide (x ∈ l))) := by
  have hL : (l.map jAV).length = l.length := by simp
  refine fnA 0 ok51 (by simp) ?_
  (conv => whnf); (repeat' ((first | refine bT ?_ | refine bF ?_ | refine bN ?_ | ((first | refine bD ?_ ?_ | refine bEq ?_ ?_ | refine bNe ?_ ?_) <;> intro hh <;> try (exfalso; omega)) | refine wIn (by omega) ?_ | refine nI (by omega) ?_) <;> conv => whnf))
  refine loop_i (α := Nat) (fun k => [(5, .int .i64 k), (1, .int .i64 x), (0, .isl (l.map jAV))]) (fun k => []) (fun k => k ≤ l.length ∧ ∀ b ∈ l.take k, decide (b = x) = false) (fun k => l.length - k) 0 (meets_id (by (repeat' apply And.intro) <;> first | rfl | exact True.intro | (intro hh; cases hh))) ⟨by omega, by simp⟩ ?_
  rintro k ⟨h1, h2⟩
  conv => whnf
  refine bD (fun h3 => ?_) (fun h3 => ?_)
  · have hk : k < l.length := by omega
    by_cases hx : l[k] = x
    · rw [decide_eq_true (show x ∈ l by rw [← hx]; exact List.getElem_mem hk)]
      conv => whnf
      refine iaI (by omega) (by omega) (getM jAV l k hk) ?_
      (conv => whnf); (repeat' ((first | refine bT ?_ | refine bF ?_ | refine bN ?_ | ((first | refine bD ?_ ?_ | refine bEq ?_ ?_ | refine bNe ?_ ?_) <;> intro hh <;> try (exfalso; omega)) | refine wIn (by omega) ?_ | refine nI (by omega) ?_) <;> conv => whnf))
      all_goals rfl
    · conv => whnf
      refine iaI (by omega) (by omega) (getM jAV l k hk) ?_
      (conv => whnf); (repeat' ((first | refine bT ?_ | refine bF ?_ | refine bN ?_ | ((first | refine bD ?_ ?_ | refine bEq ?_ ?_ | refine bNe ?_ ?_) <;> intro hh <;> try (exfalso; omega)) | refine wIn (by omega) ?_ | refine nI (by omega) ?_) <;> conv => whnf))
      exact ⟨k + 1, (meets_id (by (repeat' apply And.intro) <;> first | rfl | exact True.intro | (intro hh; cases hh))), ⟨by omega, take_none hk h2 (decide_eq_false hx)⟩, by omega⟩
  · have : k = l.length := by omega
    subst this
    rw [List.take_length] at h2
    rw [decide_eq_false (fun h => by have := h2 x h; simp at this)]
    (conv => whnf); (repeat' ((first | refine bT ?_ | refine bF ?_ | refine bN ?_ | ((first | refine bD ?_ ?_ | refine bEq ?_ ?_ | refine bNe ?_ ?_) <;> intro hh <;> try (exfalso; omega)) | refine wIn (by omega) ?_ | refine nI (by omega) ?_) <;> conv => whnf))
    all_goals rfl
theorem p121 (x : Slot) (hl : x.ss.length ≤ 1000000) : FnA Try.prog 121 [.agg x.av] (· = .bool (okSl x)) := by
  have hL : (x.ss.map jAV).length = x.ss.length := by simp
  refine fnA 1 ok121 (by simp) ?_
  (conv => whnf); (repeat' ((first | refine bT ?_ | refine bF ?_ | refine bN ?_ | ((first | refine bD ?_ ?_ | refine bEq ?_ ?_ | refine bNe ?_ ?_) <;> intro hh <;> try (exfalso; omega)) | refine wIn (by omega) ?_ | refine nI (by omega) ?_) <;> conv => whnf))
  refine loop_i (α := Nat) (fun k => [(3, .int .i64 k), (1, .own 0 0)]) (fun k => [.box false x.av]) (fun k => k ≤ x.ss.length ∧ ∀ n ∈ x.ss.take k, decide (0 ≤ n ∧ n ≤ 9) = true) (fun k => x.ss.length - k) 0 (meets_id (by (repeat' apply And.intro) <;> first | rfl | exact True.intro | (intro hh; cases hh))) ⟨by omega, by simp⟩ ?_
  rintro k ⟨h1, h2⟩
  conv => whnf
  refine bD (fun h3 => ?_) (fun h3 => ?_)
  · have hk : k < x.ss.length := by omega
    have g1 := getM jAV x.ss k hk
    have e1 := p90 x.ss[k] 0 9
    cases hx : decide (0 ≤ x.ss[k] ∧ x.ss[k] ≤ 9) with
    | true =>
      rw [hx] at e1
      (conv => whnf); (repeat' ((first | refine bT ?_ | refine bF ?_ | refine bN ?_ | ((first | refine bD ?_ ?_ | refine bEq ?_ ?_ | refine bNe ?_ ?_) <;> intro hh <;> try (exfalso; omega)) | (refine iaI (by omega) (by omega) g1 ?_) | (refine (e1).callq rfl rfl fun _ h => ?_; subst h) | refine wIn (by omega) ?_ | refine nI (by omega) ?_) <;> conv => whnf))
      exact ⟨k + 1, (meets_id (by (repeat' apply And.intro) <;> first | rfl | exact True.intro | (intro hh; cases hh))), ⟨by omega, take_all (p := fun n => decide (0 ≤ n ∧ n ≤ 9)) hk h2 hx⟩, by omega⟩
    | false =>
      rw [hx] at e1
      have h0 : okSl x = false := by unfold okSl; rw [all_not (p := fun n => decide (0 ≤ n ∧ n ≤ 9)) hk hx]; simp
      rw [h0]
      (conv => whnf); (repeat' ((first | refine bT ?_ | refine bF ?_ | refine bN ?_ | ((first | refine bD ?_ ?_ | refine bEq ?_ ?_ | refine bNe ?_ ?_) <;> intro hh <;> try (exfalso; omega)) | (refine iaI (by omega) (by omega) g1 ?_) | (refine (e1).callq rfl rfl fun _ h => ?_; subst h) | refine wIn (by omega) ?_ | refine nI (by omega) ?_) <;> conv => whnf))
      all_goals rfl
  · have : k = x.ss.length := by omega
    subst this
    rw [List.take_length] at h2
    have ha := all_yes (p := fun n => decide (0 ≤ n ∧ n ≤ 9)) h2
    have e1 := p90 x.k 0 9
    have e2 := p50 x.ss hl
    have e3 := p120 x.lo x.hi
    have h0 : okSl x = (decide (0 ≤ x.k ∧ x.k ≤ 9) && decide (x.ss.length ≤ 4) && ascB x.ss && okLen x.lo x.hi) := by unfold okSl; rw [ha]; simp
    rw [h0]
    generalize ascB x.ss = b3 at *
    cases h5 : decide (0 ≤ x.k ∧ x.k ≤ 9) with
    | false =>
      rw [h5] at e1
      (conv => whnf); (repeat' ((first | refine bT ?_ | refine bF ?_ | refine bN ?_ | ((first | refine bD ?_ ?_ | refine bEq ?_ ?_ | refine bNe ?_ ?_) <;> intro hh <;> try (exfalso; omega)) | (refine (e1).callq rfl rfl fun _ h => ?_; subst h) | refine wIn (by omega) ?_ | refine nI (by omega) ?_) <;> conv => whnf))
      all_goals rfl
    | true =>
      rw [h5] at e1
      by_cases h6 : x.ss.length ≤ 4
      · rw [decide_eq_true h6]
        cases b3
        all_goals
          (conv => whnf); (repeat' ((first | refine bT ?_ | refine bF ?_ | refine bN ?_ | ((first | refine bD ?_ ?_ | refine bEq ?_ ?_ | refine bNe ?_ ?_) <;> intro hh <;> try (exfalso; omega)) | (refine (e1).callq rfl rfl fun _ h => ?_; subst h) | (refine (e2).callq rfl rfl fun _ h => ?_; subst h) | (refine (e3).callq rfl rfl fun _ h => ?_; subst h) | refine wIn (by omega) ?_ | refine nI (by omega) ?_) <;> conv => whnf))
          all_goals rfl
      · rw [decide_eq_false h6]
        (conv => whnf); (repeat' ((first | refine bT ?_ | refine bF ?_ | refine bN ?_ | ((first | refine bD ?_ ?_ | refine bEq ?_ ?_ | refine bNe ?_ ?_) <;> intro hh <;> try (exfalso; omega)) | (refine (e1).callq rfl rfl fun _ h => ?_; subst h) | refine wIn (by omega) ?_ | refine nI (by omega) ?_) <;> conv => whnf))
        all_goals rfl
theorem p68 (w : Shop) (hB : Big w) : FnA Try.prog 68 [.agg w.cells] (· = .bool (okW w)) := by
  have l1 : (w.sps.map Spare.av).length = w.sps.length := by simp
  have l2 : (w.mks.map mkAV).length = w.mks.length := by simp
  have l3 : (w.tb.map Trial.av).length = w.tb.length := by simp
  have hBs := hB.s
  have hBm := hB.m
  have hBt := hB.t
  have e3 := p90 w.cut 0 99
  by_cases h1 : w.sps.length ≤ 10
  case neg =>
    have h0 : okW w = false := by unfold okW; rw [decide_eq_false h1]; simp
    rw [h0]
    refine fnA 3 ok68 (by simp) ?_
    (conv => whnf); (repeat' ((first | refine bT ?_ | refine bF ?_ | refine bN ?_ | ((first | refine bD ?_ ?_ | refine bEq ?_ ?_ | refine bNe ?_ ?_) <;> intro hh <;> try (exfalso; omega)) | refine wIn (by omega) ?_ | refine nI (by omega) ?_) <;> conv => whnf))
    all_goals rfl
  by_cases h3 : w.mks.length ≤ 6
  case neg =>
    have h0 : okW w = false := by unfold okW; rw [decide_eq_false h3]; simp
    rw [h0]
    refine fnA 3 ok68 (by simp) ?_
    (conv => whnf); (repeat' ((first | refine bT ?_ | refine bF ?_ | refine bN ?_ | ((first | refine bD ?_ ?_ | refine bEq ?_ ?_ | refine bNe ?_ ?_) <;> intro hh <;> try (exfalso; omega)) | refine wIn (by omega) ?_ | refine nI (by omega) ?_) <;> conv => whnf))
    all_goals rfl
  by_cases h5 : 0 ≤ w.cut ∧ w.cut ≤ 99
  case neg =>
    have h0 : okW w = false := by unfold okW; rw [decide_eq_false h5]; simp
    rw [h0]
    rw [decide_eq_false h5] at e3
    refine fnA 3 ok68 (by simp) ?_
    (conv => whnf); (repeat' ((first | refine bT ?_ | refine bF ?_ | refine bN ?_ | ((first | refine bD ?_ ?_ | refine bEq ?_ ?_ | refine bNe ?_ ?_) <;> intro hh <;> try (exfalso; omega)) | (refine (e3).callq rfl rfl fun _ h => ?_; subst h) | refine wIn (by omega) ?_ | refine nI (by omega) ?_) <;> conv => whnf))
    all_goals rfl
  rw [decide_eq_true h5] at e3
  by_cases h6 : w.tb.length ≤ 30
  case neg =>
    have h0 : okW w = false := by unfold okW; rw [decide_eq_false h6]; simp
    rw [h0]
    refine fnA 3 ok68 (by simp) ?_
    (conv => whnf); (repeat' ((first | refine bT ?_ | refine bF ?_ | refine bN ?_ | ((first | refine bD ?_ ?_ | refine bEq ?_ ?_ | refine bNe ?_ ?_) <;> intro hh <;> try (exfalso; omega)) | (refine (e3).callq rfl rfl fun _ h => ?_; subst h) | refine wIn (by omega) ?_ | refine nI (by omega) ?_) <;> conv => whnf))
    all_goals rfl
  have h0 : okW w = (w.sps.all okSp && w.mks.all okMk && w.tb.all (okTr w)) := by unfold okW; rw [decide_eq_true h1, decide_eq_true h3, decide_eq_true h5, decide_eq_true h6]; simp
  rw [h0]
  refine fnA 3 ok68 (by simp) ?_
  (conv => whnf); (repeat' ((first | refine bT ?_ | refine bF ?_ | refine bN ?_ | ((first | refine bD ?_ ?_ | refine bEq ?_ ?_ | refine bNe ?_ ?_) <;> intro hh <;> try (exfalso; omega)) | (refine (e3).callq rfl rfl fun _ h => ?_; subst h) | refine wIn (by omega) ?_ | refine nI (by omega) ?_) <;> conv => whnf))
  refine loop_i (α := Nat) (fun k => [(3, .int .i64 k), (1, .own 0 0)]) (fun k => [.box false w.cells, .fresh, .fresh]) (fun k => k ≤ w.sps.length ∧ ∀ n ∈ w.sps.take k, okSp n = true) (fun k => w.sps.length - k) 0 (meets_id (by (repeat' apply And.intro) <;> first | rfl | exact True.intro | (intro hh; cases hh))) ⟨by omega, by simp⟩ ?_
  rintro k ⟨k1, k2⟩
  conv => whnf
  refine bD (fun h7 => ?_) (fun h7 => ?_)
  · have hk : k < w.sps.length := by omega
    have g1 := getM Spare.av w.sps k hk
    have f1 := p90 w.sps[k].k 0 9
    have f2 := p90 w.sps[k].s 0 9
    have f3 := p120 w.sps[k].lo w.sps[k].hi
    have ho : okSp w.sps[k] = (decide (0 ≤ w.sps[k].k ∧ w.sps[k].k ≤ 9) && decide (0 ≤ w.sps[k].s ∧ w.sps[k].s ≤ 9) && okLen w.sps[k].lo w.sps[k].hi) := rfl
    have hno : okSp w.sps[k] = false → (w.sps.all okSp && w.mks.all okMk && w.tb.all (okTr w)) = false := fun h => by rw [all_not hk h]; simp
    have hyes : okSp w.sps[k] = true → ∀ n ∈ w.sps.take (k + 1), okSp n = true := fun h => take_all hk k2 h
    generalize decide (0 ≤ w.sps[k].k ∧ w.sps[k].k ≤ 9) = b1 at *
    generalize decide (0 ≤ w.sps[k].s ∧ w.sps[k].s ≤ 9) = b2 at *
    generalize okLen w.sps[k].lo w.sps[k].hi = b3 at *
    cases b1 <;> cases b2 <;> cases b3
    case true.true.true =>
      (conv => whnf); (repeat' ((first | refine bT ?_ | refine bF ?_ | refine bN ?_ | ((first | refine bD ?_ ?_ | refine bEq ?_ ?_ | refine bNe ?_ ?_) <;> intro hh <;> try (exfalso; omega)) | (refine iaI (by omega) (by omega) g1 ?_) | (refine (f1).callq rfl rfl fun _ h => ?_; subst h) | (refine (f2).callq rfl rfl fun _ h => ?_; subst h) | (refine (f3).callq rfl rfl fun _ h => ?_; subst h) | refine wIn (by omega) ?_ | refine nI (by omega) ?_) <;> conv => whnf))
      exact ⟨k + 1, (meets_id (by (repeat' apply And.intro) <;> first | rfl | exact True.intro | (intro hh; cases hh))), ⟨by omega, hyes ho⟩, by omega⟩
    all_goals
      rw [hno ho]
      (conv => whnf); (repeat' ((first | refine bT ?_ | refine bF ?_ | refine bN ?_ | ((first | refine bD ?_ ?_ | refine bEq ?_ ?_ | refine bNe ?_ ?_) <;> intro hh <;> try (exfalso; omega)) | (refine iaI (by omega) (by omega) g1 ?_) | (refine (f1).callq rfl rfl fun _ h => ?_; subst h) | (refine (f2).callq rfl rfl fun _ h => ?_; subst h) | (refine (f3).callq rfl rfl fun _ h => ?_; subst h) | refine wIn (by omega) ?_ | refine nI (by omega) ?_) <;> conv => whnf))
      all_goals rfl
  · have : k = w.sps.length := by omega
    subst this
    rw [List.take_length] at k2
    rw [all_yes k2, Bool.true_and]
    (conv => whnf); (repeat' ((first | refine bT ?_ | refine bF ?_ | refine bN ?_ | ((first | refine bD ?_ ?_ | refine bEq ?_ ?_ | refine bNe ?_ ?_) <;> intro hh <;> try (exfalso; omega)) | refine wIn (by omega) ?_ | refine nI (by omega) ?_) <;> conv => whnf))
    refine loop_i (α := Nat) (fun k => [(5, .int .i64 k), (1, .own 0 0)]) (fun k => [.box false w.cells, .fresh, .fresh]) (fun k => k ≤ w.mks.length ∧ ∀ n ∈ w.mks.take k, okMk n = true) (fun k => w.mks.length - k) 0 (meets_id (by (repeat' apply And.intro) <;> first | rfl | exact True.intro | (intro hh; cases hh))) ⟨by omega, by simp⟩ ?_
    rintro m ⟨m1, m2⟩
    conv => whnf
    refine bD (fun h8 => ?_) (fun h8 => ?_)
    · have hm : m < w.mks.length := by omega
      have g1 := getM mkAV w.mks m hm
      have hbs := hB.sl _ (List.getElem_mem hm)
      have l4 : (w.mks[m].map Slot.av).length = w.mks[m].length := by simp
      have hno : okMk w.mks[m] = false → (w.mks.all okMk && w.tb.all (okTr w)) = false := fun h => by rw [all_not hm h]; simp
      have hyes : okMk w.mks[m] = true → ∀ n ∈ w.mks.take (m + 1), okMk n = true := fun h => take_all hm m2 h
      by_cases h9 : w.mks[m].length ≤ 4
      · (conv => whnf); (repeat' ((first | refine bT ?_ | refine bF ?_ | refine bN ?_ | ((first | refine bD ?_ ?_ | refine bEq ?_ ?_ | refine bNe ?_ ?_) <;> intro hh <;> try (exfalso; omega)) | (refine iaI (by omega) (by omega) g1 ?_) | refine wIn (by omega) ?_ | refine nI (by omega) ?_) <;> conv => whnf))
        refine loop_i (α := Nat) (fun k => [(6, .int .i64 k), (5, .int .i64 m), (1, .own 0 0)]) (fun k => [.box false w.cells, .fresh, .fresh]) (fun k => k ≤ w.mks[m].length ∧ ∀ n ∈ w.mks[m].take k, okSl n = true) (fun k => w.mks[m].length - k) 0 (meets_id (by (repeat' apply And.intro) <;> first | rfl | exact True.intro | (intro hh; cases hh))) ⟨by omega, by simp⟩ ?_
        rintro s ⟨s1, s2⟩
        conv => whnf
        refine iaI (by omega) (by omega) g1 ?_
        conv => whnf
        refine bD (fun h10 => ?_) (fun h10 => ?_)
        · have hs : s < w.mks[m].length := by omega
          have g2 := getM Slot.av w.mks[m] s hs
          have f1 := p121 w.mks[m][s] (hbs.2 _ (List.getElem_mem hs))
          cases hx : okSl w.mks[m][s] with
          | true =>
            rw [hx] at f1
            (conv => whnf); (repeat' ((first | refine bT ?_ | refine bF ?_ | refine bN ?_ | ((first | refine bD ?_ ?_ | refine bEq ?_ ?_ | refine bNe ?_ ?_) <;> intro hh <;> try (exfalso; omega)) | (refine iaI (by omega) (by omega) g1 ?_) | (refine iaI (by omega) (by omega) g2 ?_) | (refine (f1).callq rfl rfl fun _ h => ?_; subst h) | refine wIn (by omega) ?_ | refine nI (by omega) ?_) <;> conv => whnf))
            exact ⟨s + 1, (meets_id (by (repeat' apply And.intro) <;> first | rfl | exact True.intro | (intro hh; cases hh))), ⟨by omega, take_all hs s2 hx⟩, by omega⟩
          | false =>
            rw [hx] at f1
            rw [hno (by unfold okMk; rw [all_not hs hx]; simp)]
            (conv => whnf); (repeat' ((first | refine bT ?_ | refine bF ?_ | refine bN ?_ | ((first | refine bD ?_ ?_ | refine bEq ?_ ?_ | refine bNe ?_ ?_) <;> intro hh <;> try (exfalso; omega)) | (refine iaI (by omega) (by omega) g1 ?_) | (refine iaI (by omega) (by omega) g2 ?_) | (refine (f1).callq rfl rfl fun _ h => ?_; subst h) | refine wIn (by omega) ?_ | refine nI (by omega) ?_) <;> conv => whnf))
            all_goals rfl
        · have : s = w.mks[m].length := by omega
          subst this
          rw [List.take_length] at s2
          (conv => whnf); (repeat' ((first | refine bT ?_ | refine bF ?_ | refine bN ?_ | ((first | refine bD ?_ ?_ | refine bEq ?_ ?_ | refine bNe ?_ ?_) <;> intro hh <;> try (exfalso; omega)) | refine wIn (by omega) ?_ | refine nI (by omega) ?_) <;> conv => whnf))
          exact ⟨m + 1, (meets_id (by (repeat' apply And.intro) <;> first | rfl | exact True.intro | (intro hh; cases hh))), ⟨by omega, hyes (by unfold okMk; rw [all_yes s2, decide_eq_true h9]; rfl)⟩, by omega⟩
      · rw [hno (by unfold okMk; rw [decide_eq_false h9]; rfl)]
        (conv => whnf); (repeat' ((first | refine bT ?_ | refine bF ?_ | refine bN ?_ | ((first | refine bD ?_ ?_ | refine bEq ?_ ?_ | refine bNe ?_ ?_) <;> intro hh <;> try (exfalso; omega)) | (refine iaI (by omega) (by omega) g1 ?_) | refine wIn (by omega) ?_ | refine nI (by omega) ?_) <;> conv => whnf))
        all_goals rfl
    · have : m = w.mks.length := by omega
      subst this
      rw [List.take_length] at m2
      rw [all_yes m2, Bool.true_and]
      (conv => whnf); (repeat' ((first | refine bT ?_ | refine bF ?_ | refine bN ?_ | ((first | refine bD ?_ ?_ | refine bEq ?_ ?_ | refine bNe ?_ ?_) <;> intro hh <;> try (exfalso; omega)) | refine wIn (by omega) ?_ | refine nI (by omega) ?_) <;> conv => whnf))
      refine loop_i (α := Nat) (fun k => [(7, .int .i64 k), (1, .own 0 0)]) (fun k => [.box false w.cells, .fresh, .fresh]) (fun k => k ≤ w.tb.length ∧ ∀ n ∈ w.tb.take k, okTr w n = true) (fun k => w.tb.length - k) 0 (meets_id (by (repeat' apply And.intro) <;> first | rfl | exact True.intro | (intro hh; cases hh))) ⟨by omega, by simp⟩ ?_
      rintro t ⟨t1, t2⟩
      conv => whnf
      refine bD (fun h9 => ?_) (fun h9 => ?_)
      · have ht : t < w.tb.length := by omega
        have g1 := getM Trial.av w.tb t ht
        have f1 := p47 w w.tb[t].sp hBs
        have f2 := p53 w w.tb[t].mkr w.tb[t].sl hBm (fun x hx => (hB.sl x hx).1)
        have f3 := p90 w.tb[t].ft 0 1
        have ho : okTr w w.tb[t] = (w.isSp w.tb[t].sp && w.isSl w.tb[t].mkr w.tb[t].sl && decide (0 ≤ w.tb[t].ft ∧ w.tb[t].ft ≤ 1)) := rfl
        have hno : okTr w w.tb[t] = false → w.tb.all (okTr w) = false := fun h => all_not ht h
        have hyes : okTr w w.tb[t] = true → ∀ n ∈ w.tb.take (t + 1), okTr w n = true := fun h => take_all ht t2 h
        generalize w.isSp w.tb[t].sp = b1 at *
        generalize w.isSl w.tb[t].mkr w.tb[t].sl = b2 at *
        generalize decide (0 ≤ w.tb[t].ft ∧ w.tb[t].ft ≤ 1) = b3 at *
        cases b1 <;> cases b2 <;> cases b3
        case true.true.true =>
          (conv => whnf); (repeat' ((first | refine bT ?_ | refine bF ?_ | refine bN ?_ | ((first | refine bD ?_ ?_ | refine bEq ?_ ?_ | refine bNe ?_ ?_) <;> intro hh <;> try (exfalso; omega)) | (refine iaI (by omega) (by omega) g1 ?_) | (refine (f1).callq rfl rfl fun _ h => ?_; subst h) | (refine (f2).callq rfl rfl fun _ h => ?_; subst h) | (refine (f3).callq rfl rfl fun _ h => ?_; subst h) | refine wIn (by omega) ?_ | refine nI (by omega) ?_) <;> conv => whnf))
          exact ⟨t + 1, (meets_id (by (repeat' apply And.intro) <;> first | rfl | exact True.intro | (intro hh; cases hh))), ⟨by omega, hyes ho⟩, by omega⟩
        all_goals
          rw [hno ho]
          (conv => whnf); (repeat' ((first | refine bT ?_ | refine bF ?_ | refine bN ?_ | ((first | refine bD ?_ ?_ | refine bEq ?_ ?_ | refine bNe ?_ ?_) <;> intro hh <;> try (exfalso; omega)) | (refine iaI (by omega) (by omega) g1 ?_) | (refine (f1).callq rfl rfl fun _ h => ?_; subst h) | (refine (f2).callq rfl rfl fun _ h => ?_; subst h) | (refine (f3).callq rfl rfl fun _ h => ?_; subst h) | refine wIn (by omega) ?_ | refine nI (by omega) ?_) <;> conv => whnf))
          all_goals rfl
      · have : t = w.tb.length := by omega
        subst this
        rw [List.take_length] at t2
        rw [all_yes t2]
        (conv => whnf); (repeat' ((first | refine bT ?_ | refine bF ?_ | refine bN ?_ | ((first | refine bD ?_ ?_ | refine bEq ?_ ?_ | refine bNe ?_ ?_) <;> intro hh <;> try (exfalso; omega)) | refine wIn (by omega) ?_ | refine nI (by omega) ?_) <;> conv => whnf))
        all_goals rfl
theorem Ok.big {w : Shop} (h : Ok w) : Big w := ⟨by have := h.s1; omega, by have := h.m1; omega, by have := h.t1; omega, fun x hx => ⟨by have := (h.m2 x hx).1; omega, fun y hy => by have := ((h.m2 x hx).2 y hy).2.1; omega⟩⟩
theorem clash_pair {l : List Trial} (hf : ∀ x ∈ l, 0 ≤ x.ft ∧ x.ft ≤ 1) : clash l = true ↔ ∃ k i : Nat, k < i ∧ ∃ a b : Trial, l[k]? = some a ∧ l[i]? = some b ∧ a.sp = b.sp ∧ a.mkr = b.mkr ∧ a.sl = b.sl ∧ a.ft ≠ b.ft := by
  unfold clash
  rw [List.any_eq_true]
  constructor
  · rintro ⟨t, ht, hd⟩
    have hd := of_decide_eq_true hd
    obtain ⟨x, hx, rfl⟩ := List.getElem_of_mem ht
    obtain ⟨y, hy, he⟩ := List.getElem_of_mem hd
    have hfx := hf _ (List.getElem_mem hx)
    have hfy := hf _ (List.getElem_mem hy)
    have e1 : l[y].sp = l[x].sp := by rw [he]; rfl
    have e2 : l[y].mkr = l[x].mkr := by rw [he]; rfl
    have e3 : l[y].sl = l[x].sl := by rw [he]; rfl
    have e4 : l[y].ft = 1 - l[x].ft := by rw [he]; rfl
    rcases Nat.lt_trichotomy x y with h | h | h
    · exact ⟨x, y, h, _, _, List.getElem?_eq_getElem hx, List.getElem?_eq_getElem hy, e1.symm, e2.symm, e3.symm, by omega⟩
    · subst h; omega
    · exact ⟨y, x, h, _, _, List.getElem?_eq_getElem hy, List.getElem?_eq_getElem hx, e1, e2, e3, by omega⟩
  · rintro ⟨k, i, _, a, b, h1, h2, e1, e2, e3, e4⟩
    have ha := List.mem_of_getElem? h1
    have hb := List.mem_of_getElem? h2
    have := hf a ha
    have := hf b hb
    refine ⟨a, ha, decide_eq_true ?_⟩
    have : a.neg = b := by
      cases a; cases b
      simp only [Trial.neg, Trial.mk.injEq] at *
      omega
    rw [this]; exact hb
theorem p18 (w : Shop) (hB : Big w) : FnA Try.prog 18 [.agg w.cells] (· = .int .i64 w.chk) := by
  have e1 := p68 w hB
  have l3 : (w.tb.map Trial.av).length = w.tb.length := by simp
  have hBt := hB.t
  unfold Shop.chk
  cases h : okW w with
  | false =>
    rw [h] at e1
    refine fnA 3 ok18 (by simp) ?_
    (conv => whnf); (repeat' ((first | refine bT ?_ | refine bF ?_ | refine bN ?_ | ((first | refine bD ?_ ?_ | refine bEq ?_ ?_ | refine bNe ?_ ?_) <;> intro hh <;> try (exfalso; omega)) | (refine (e1).callq rfl rfl fun _ h => ?_; subst h) | refine wIn (by omega) ?_ | refine nI (by omega) ?_) <;> conv => whnf))
    all_goals rfl
  | true =>
  rw [h] at e1
  have hk := okW_ok h
  have hcp := clash_pair (l := w.tb) (fun x hx => (hk.t2 x hx).2.2)
  rw [if_pos rfl]
  refine fnA 3 ok18 (by simp) ?_
  (conv => whnf); (repeat' ((first | refine bT ?_ | refine bF ?_ | refine bN ?_ | ((first | refine bD ?_ ?_ | refine bEq ?_ ?_ | refine bNe ?_ ?_) <;> intro hh <;> try (exfalso; omega)) | (refine (e1).callq rfl rfl fun _ h => ?_; subst h) | refine wIn (by omega) ?_ | refine nI (by omega) ?_) <;> conv => whnf))
  refine loop_i (α := Nat) (fun k => [(3, .int .i64 k), (1, .own 0 0)]) (fun k => [.box false w.cells, .fresh, .fresh]) (fun i => i ≤ w.tb.length ∧ ∀ i' k, i' < i → k < i' → ¬ ∃ a b : Trial, w.tb[k]? = some a ∧ w.tb[i']? = some b ∧ a.sp = b.sp ∧ a.mkr = b.mkr ∧ a.sl = b.sl ∧ a.ft ≠ b.ft) (fun k => w.tb.length - k) 0 (meets_id (by (repeat' apply And.intro) <;> first | rfl | exact True.intro | (intro hh; cases hh))) ⟨by omega, fun i' k hi => by omega⟩ ?_
  rintro i ⟨i1, i2⟩
  conv => whnf
  refine bD (fun h3 => ?_) (fun h3 => ?_)
  · have hi : i < w.tb.length := by omega
    have gi := getM Trial.av w.tb i hi
    (conv => whnf); (repeat' ((first | refine bT ?_ | refine bF ?_ | refine bN ?_ | ((first | refine bD ?_ ?_ | refine bEq ?_ ?_ | refine bNe ?_ ?_) <;> intro hh <;> try (exfalso; omega)) | refine wIn (by omega) ?_ | refine nI (by omega) ?_) <;> conv => whnf))
    refine loop_i (α := Nat) (fun k => [(4, .int .i64 k), (3, .int .i64 i), (1, .own 0 0)]) (fun k => [.box false w.cells, .fresh, .fresh]) (fun k => k ≤ i ∧ ∀ k', k' < k → ¬ ∃ a b : Trial, w.tb[k']? = some a ∧ w.tb[i]? = some b ∧ a.sp = b.sp ∧ a.mkr = b.mkr ∧ a.sl = b.sl ∧ a.ft ≠ b.ft) (fun k => i - k) 0 (meets_id (by (repeat' apply And.intro) <;> first | rfl | exact True.intro | (intro hh; cases hh))) ⟨by omega, fun k' hk => by omega⟩ ?_
    rintro k ⟨k1, k2⟩
    conv => whnf
    refine bD (fun h4 => ?_) (fun h4 => ?_)
    · have hkl : k < w.tb.length := by omega
      have gk := getM Trial.av w.tb k hkl
      by_cases hc : w.tb[k].sp = w.tb[i].sp ∧ w.tb[k].mkr = w.tb[i].mkr ∧ w.tb[k].sl = w.tb[i].sl ∧ w.tb[k].ft ≠ w.tb[i].ft
      · have hcl : clash w.tb = true := hcp.2 ⟨k, i, by omega, _, _, List.getElem?_eq_getElem hkl, List.getElem?_eq_getElem hi, hc⟩
        rw [if_pos hcl]
        (conv => whnf); (repeat' ((first | refine bT ?_ | refine bF ?_ | refine bN ?_ | ((first | refine bD ?_ ?_ | refine bEq ?_ ?_ | refine bNe ?_ ?_) <;> intro hh <;> try (exfalso; omega)) | (refine iaI (by omega) (by omega) gk ?_) | (refine iaI (by omega) (by omega) gi ?_) | refine wIn (by omega) ?_ | refine nI (by omega) ?_) <;> conv => whnf))
        all_goals rfl
      · (conv => whnf); (repeat' ((first | refine bT ?_ | refine bF ?_ | refine bN ?_ | ((first | refine bD ?_ ?_ | refine bEq ?_ ?_ | refine bNe ?_ ?_) <;> intro hh <;> try (exfalso; omega)) | (refine iaI (by omega) (by omega) gk ?_) | (refine iaI (by omega) (by omega) gi ?_) | refine wIn (by omega) ?_ | refine nI (by omega) ?_) <;> conv => whnf))
        all_goals
          refine ⟨k + 1, (meets_id (by (repeat' apply And.intro) <;> first | rfl | exact True.intro | (intro hh; cases hh))), ⟨by omega, fun k' hk' => ?_⟩, by omega⟩
          by_cases e : k' = k
          · subst e
            rintro ⟨a, b, q1, q2, q3⟩
            rw [List.getElem?_eq_getElem hkl] at q1; cases q1
            rw [List.getElem?_eq_getElem hi] at q2; cases q2
            exact hc q3
          · exact k2 k' (by omega)
    · have : k = i := by omega
      subst this
      (conv => whnf); (repeat' ((first | refine bT ?_ | refine bF ?_ | refine bN ?_ | ((first | refine bD ?_ ?_ | refine bEq ?_ ?_ | refine bNe ?_ ?_) <;> intro hh <;> try (exfalso; omega)) | refine wIn (by omega) ?_ | refine nI (by omega) ?_) <;> conv => whnf))
      refine ⟨k + 1, (meets_id (by (repeat' apply And.intro) <;> first | rfl | exact True.intro | (intro hh; cases hh))), ⟨by omega, fun i' k' hi' hk' => ?_⟩, by omega⟩
      by_cases e : i' = k
      · subst e; exact k2 k' hk'
      · exact i2 i' k' (by omega) hk'
  · have hcl : clash w.tb = false := by
      rw [Bool.eq_false_iff]; intro hc
      obtain ⟨k, j, hkj, a, b, q1, q2, q3⟩ := hcp.1 hc
      have hj := (List.getElem?_eq_some_iff.1 q2).1
      exact i2 j k (by omega) hkj ⟨a, b, q1, q2, q3⟩
    rw [hcl]
    (conv => whnf); (repeat' ((first | refine bT ?_ | refine bF ?_ | refine bN ?_ | ((first | refine bD ?_ ?_ | refine bEq ?_ ?_ | refine bNe ?_ ?_) <;> intro hh <;> try (exfalso; omega)) | refine wIn (by omega) ?_ | refine nI (by omega) ?_) <;> conv => whnf))
    all_goals rfl
theorem p46 (w : Shop) (hk : Ok w) (i n m k : Int) (hi : w.isSp i = true) (hm : w.isSl m k = true) : FnA Try.prog 46 [.agg w.cells, .int .i64 i, .int .i64 n, .int .i64 m, .int .i64 k] (· = .bool (w.fit i n m k)) := by
  have l1 : (w.sps.map Spare.av).length = w.sps.length := by simp
  have l2 : (w.mks.map mkAV).length = w.mks.length := by simp
  have l3 : ((w.slots m).map Slot.av).length = (w.slots m).length := by simp
  have h1 := isSp_iff.1 hi
  obtain ⟨h2, h3⟩ := isSl_iff.1 hm
  have h2' := isMk_iff.1 h2
  have hs := hk.slot hm
  have hc := hk.c
  have g1 := spget hi
  have g2 := mkget h2
  have g3 := slget hm
  have e1 := p51 (w.slot m k).ss (w.sp i).s (by omega)
  have e2 := p90 n (w.slot m k).lo ((w.slot m k).hi + w.cut)
  unfold Shop.fit Shop.kin
  refine fnA 3 ok46 (by simp) ?_
  by_cases ha : (w.sp i).k = (w.slot m k).k
  · by_cases hb : (w.sp i).s ∈ (w.slot m k).ss
    · rw [decide_eq_true hb] at e1
      rw [decide_eq_true ha, decide_eq_true hb]
      (conv => whnf); (repeat' ((first | refine bT ?_ | refine bF ?_ | refine bN ?_ | ((first | refine bD ?_ ?_ | refine bEq ?_ ?_ | refine bNe ?_ ?_) <;> intro hh <;> try (exfalso; omega)) | (refine iaI (by omega) (by omega) g1 ?_) | (refine iaI (by omega) (by omega) g2 ?_) | (refine iaI (by omega) (by omega) g3 ?_) | (refine (e1).callq rfl rfl fun _ h => ?_; subst h) | (refine (e2).callq rfl rfl fun _ h => ?_; subst h) | refine wIn (by omega) ?_ | refine nI (by omega) ?_) <;> conv => whnf))
      all_goals rfl
    · rw [decide_eq_false hb] at e1
      rw [decide_eq_true ha, decide_eq_false hb]
      (conv => whnf); (repeat' ((first | refine bT ?_ | refine bF ?_ | refine bN ?_ | ((first | refine bD ?_ ?_ | refine bEq ?_ ?_ | refine bNe ?_ ?_) <;> intro hh <;> try (exfalso; omega)) | (refine iaI (by omega) (by omega) g1 ?_) | (refine iaI (by omega) (by omega) g2 ?_) | (refine iaI (by omega) (by omega) g3 ?_) | (refine (e1).callq rfl rfl fun _ h => ?_; subst h) | refine wIn (by omega) ?_ | refine nI (by omega) ?_) <;> conv => whnf))
      all_goals rfl
  · rw [decide_eq_false ha]
    (conv => whnf); (repeat' ((first | refine bT ?_ | refine bF ?_ | refine bN ?_ | ((first | refine bD ?_ ?_ | refine bEq ?_ ?_ | refine bNe ?_ ?_) <;> intro hh <;> try (exfalso; omega)) | (refine iaI (by omega) (by omega) g1 ?_) | (refine iaI (by omega) (by omega) g2 ?_) | (refine iaI (by omega) (by omega) g3 ?_) | refine wIn (by omega) ?_ | refine nI (by omega) ?_) <;> conv => whnf))
    all_goals rfl
theorem p44 (w : Shop) (hk : Ok w) (i n : Int) (hi : w.isSp i = true) : FnA Try.prog 44 [.agg w.cells, .int .i64 i, .int .i64 n] (· = .bool (w.can i n)) := by
  have l1 : (w.sps.map Spare.av).length = w.sps.length := by simp
  have l3 : (w.tb.map Trial.av).length = w.tb.length := by simp
  have h1 := isSp_iff.1 hi
  have ht1 := hk.t1
  have hs1 := hk.s1
  have g1 := spget hi
  have e2 := p90 n (w.sp i).lo (w.sp i).hi
  unfold Shop.can
  refine fnA 2 ok44 (by simp) ?_
  (conv => whnf); (repeat' ((first | refine bT ?_ | refine bF ?_ | refine bN ?_ | ((first | refine bD ?_ ?_ | refine bEq ?_ ?_ | refine bNe ?_ ?_) <;> intro hh <;> try (exfalso; omega)) | refine wIn (by omega) ?_ | refine nI (by omega) ?_) <;> conv => whnf))
  refine loop_i (α := Nat) (fun k => [(7, .int .i64 k), (3, .own 0 0), (2, .int .i64 n), (1, .int .i64 i)]) (fun k => [.box false w.cells, .fresh]) (fun k => k ≤ w.tb.length ∧ ∀ t ∈ w.tb.take k, okT w i n t = true) (fun k => w.tb.length - k) 0 (meets_id (by (repeat' apply And.intro) <;> first | rfl | exact True.intro | (intro hh; cases hh))) ⟨by omega, by simp⟩ ?_
  rintro k ⟨k1, k2⟩
  conv => whnf
  refine bD (fun h3 => ?_) (fun h3 => ?_)
  · have hkl : k < w.tb.length := by omega
    have ht := hk.t2 _ (List.getElem_mem hkl)
    have gk := getM Trial.av w.tb k hkl
    have hyes : okT w i n w.tb[k] = true → ∀ t ∈ w.tb.take (k + 1), okT w i n t = true := fun h => take_all hkl k2 h
    have hno : okT w i n w.tb[k] = false → (decide ((w.sp i).lo ≤ n ∧ n ≤ (w.sp i).hi) && w.tb.all (okT w i n)) = false := fun h => by rw [all_not hkl h]; simp
    have hdef : okT w i n w.tb[k] = decide (w.tb[k].sp = i → w.fit i n w.tb[k].mkr w.tb[k].sl = decide (w.tb[k].ft = 1)) := rfl
    by_cases hs : w.tb[k].sp = i
    · have e1 := p46 w hk i n w.tb[k].mkr w.tb[k].sl hi ht.2.1
      unfold Trial.av at gk
      by_cases hf : w.tb[k].ft = 1
      · rw [hf] at gk
        cases hx : w.fit i n w.tb[k].mkr w.tb[k].sl with
        | true =>
          rw [hx] at e1
          (conv => whnf); (repeat' ((first | refine bT ?_ | refine bF ?_ | refine bN ?_ | ((first | refine bD ?_ ?_ | refine bEq ?_ ?_ | refine bNe ?_ ?_) <;> intro hh <;> try (exfalso; omega)) | (refine iaI (by omega) (by omega) gk ?_) | (refine (e1).callq rfl rfl fun _ h => ?_; subst h) | refine wIn (by omega) ?_ | refine nI (by omega) ?_) <;> conv => whnf))
          exact ⟨k + 1, (meets_id (by (repeat' apply And.intro) <;> first | rfl | exact True.intro | (intro hh; cases hh))), ⟨by omega, hyes (by rw [hdef, hx, hf]; simp)⟩, by omega⟩
        | false =>
          rw [hx] at e1
          rw [hno (by rw [hdef, hx, hf]; simp [hs])]
          (conv => whnf); (repeat' ((first | refine bT ?_ | refine bF ?_ | refine bN ?_ | ((first | refine bD ?_ ?_ | refine bEq ?_ ?_ | refine bNe ?_ ?_) <;> intro hh <;> try (exfalso; omega)) | (refine iaI (by omega) (by omega) gk ?_) | (refine (e1).callq rfl rfl fun _ h => ?_; subst h) | refine wIn (by omega) ?_ | refine nI (by omega) ?_) <;> conv => whnf))
          all_goals rfl
      · have hf0 : w.tb[k].ft = 0 := by omega
        rw [hf0] at gk
        cases hx : w.fit i n w.tb[k].mkr w.tb[k].sl with
        | true =>
          rw [hx] at e1
          rw [hno (by rw [hdef, hx, hf0]; simp [hs])]
          (conv => whnf); (repeat' ((first | refine bT ?_ | refine bF ?_ | refine bN ?_ | ((first | refine bD ?_ ?_ | refine bEq ?_ ?_ | refine bNe ?_ ?_) <;> intro hh <;> try (exfalso; omega)) | (refine iaI (by omega) (by omega) gk ?_) | (refine (e1).callq rfl rfl fun _ h => ?_; subst h) | refine wIn (by omega) ?_ | refine nI (by omega) ?_) <;> conv => whnf))
          all_goals rfl
        | false =>
          rw [hx] at e1
          (conv => whnf); (repeat' ((first | refine bT ?_ | refine bF ?_ | refine bN ?_ | ((first | refine bD ?_ ?_ | refine bEq ?_ ?_ | refine bNe ?_ ?_) <;> intro hh <;> try (exfalso; omega)) | (refine iaI (by omega) (by omega) gk ?_) | (refine (e1).callq rfl rfl fun _ h => ?_; subst h) | refine wIn (by omega) ?_ | refine nI (by omega) ?_) <;> conv => whnf))
          exact ⟨k + 1, (meets_id (by (repeat' apply And.intro) <;> first | rfl | exact True.intro | (intro hh; cases hh))), ⟨by omega, hyes (by rw [hdef, hx, hf0]; simp)⟩, by omega⟩
    · (conv => whnf); (repeat' ((first | refine bT ?_ | refine bF ?_ | refine bN ?_ | ((first | refine bD ?_ ?_ | refine bEq ?_ ?_ | refine bNe ?_ ?_) <;> intro hh <;> try (exfalso; omega)) | (refine iaI (by omega) (by omega) gk ?_) | refine wIn (by omega) ?_ | refine nI (by omega) ?_) <;> conv => whnf))
      exact ⟨k + 1, (meets_id (by (repeat' apply And.intro) <;> first | rfl | exact True.intro | (intro hh; cases hh))), ⟨by omega, hyes (by rw [hdef]; simp [hs])⟩, by omega⟩
  · have : k = w.tb.length := by omega
    subst this
    rw [List.take_length] at k2
    rw [all_yes k2, Bool.and_true]
    (conv => whnf); (repeat' ((first | refine bT ?_ | refine bF ?_ | refine bN ?_ | ((first | refine bD ?_ ?_ | refine bEq ?_ ?_ | refine bNe ?_ ?_) <;> intro hh <;> try (exfalso; omega)) | (refine iaI (by omega) (by omega) g1 ?_) | (refine (e2).callq rfl rfl fun _ h => ?_; subst h) | refine wIn (by omega) ?_ | refine nI (by omega) ?_) <;> conv => whnf))
    all_goals rfl
/-- the lengths of a spare, ascending -/
def Shop.allK (w : Shop) (i : Int) (k : Nat) : List Int := ((List.range k).map fun j : Nat => (w.sp i).lo + (j : Nat)).filter (w.can i)
def Shop.allN (w : Shop) (i : Int) : Nat := ((w.sp i).hi + 1 - (w.sp i).lo).toNat
def Shop.allL (w : Shop) (i : Int) : List Int := w.allK i (w.allN i)
theorem allK_yes {w : Shop} {i : Int} {k : Nat} (h : w.can i ((w.sp i).lo + k) = true) : w.allK i (k + 1) = w.allK i k ++ [(w.sp i).lo + (k : Nat)] := by
  unfold Shop.allK; rw [List.range_succ, List.map_append, List.filter_append]; simp [h]
theorem allK_no {w : Shop} {i : Int} {k : Nat} (h : w.can i ((w.sp i).lo + k) = false) : w.allK i (k + 1) = w.allK i k := by
  unfold Shop.allK; rw [List.range_succ, List.map_append, List.filter_append]; simp [h]
theorem allK_len (w : Shop) (i : Int) (k : Nat) : (w.allK i k).length ≤ k := by
  unfold Shop.allK
  have := List.length_filter_le (w.can i) ((List.range k).map fun j : Nat => (w.sp i).lo + (j : Nat))
  simpa using this
theorem mem_allL {w : Shop} {i n : Int} : n ∈ w.allL i ↔ w.can i n = true := by
  unfold Shop.allL Shop.allK Shop.allN
  simp only [List.mem_filter, List.mem_map, List.mem_range]
  constructor
  · rintro ⟨_, h⟩; exact h
  · intro h
    have := can_bd h
    exact ⟨⟨(n - (w.sp i).lo).toNat, by omega, by omega⟩, h⟩
theorem p72 (w : Shop) (hk : Ok w) (i : Int) (hi : w.isSp i = true) : FnA Try.prog 72 [.agg w.cells, .int .i64 i] (· = .isl ((w.allL i).map jAV)) := by
  have l1 : (w.sps.map Spare.av).length = w.sps.length := by simp
  have h1 := isSp_iff.1 hi
  have hs := hk.sp hi
  have g1 := spget hi
  have hn : (w.allN i : Int) = (w.sp i).hi + 1 - (w.sp i).lo := by unfold Shop.allN; omega
  refine fnA 4 ok72 (by simp) ?_
  (conv => whnf); (repeat' ((first | refine bT ?_ | refine bF ?_ | refine bN ?_ | ((first | refine bD ?_ ?_ | refine bEq ?_ ?_ | refine bNe ?_ ?_) <;> intro hh <;> try (exfalso; omega)) | (refine iaI (by omega) (by omega) g1 ?_) | refine wIn (by omega) ?_ | refine nI (by omega) ?_) <;> conv => whnf))
  refine loop_i (α := Nat) (fun k => [(6, .int .i64 ((w.sp i).lo + k)), (5, .row 3), (2, .own 0 0), (1, .int .i64 i)]) (fun k => [.box false w.cells, .fresh, .fresh, .row false 3 1 ((w.allK i k).map jAV)]) (fun k => k ≤ w.allN i) (fun k => w.allN i - k) 0 ?_ (by omega) ?_
  · simp only [Int.natCast_zero, Int.add_zero]
    exact (meets_as [(3, none)] (by (repeat' apply And.intro) <;> first | rfl | exact True.intro | (intro hh; cases hh)))
  intro k hk0
  conv => whnf
  refine iaI (by omega) (by omega) g1 ?_
  conv => whnf
  refine bD (fun h3 => ?_) (fun h3 => ?_)
  · have e1 := p44 w hk i ((w.sp i).lo + k) hi
    have hl := allK_len w i k
    cases hx : w.can i ((w.sp i).lo + k) with
    | true =>
      rw [hx] at e1
      have hm : (w.allK i (k + 1)).map jAV = (w.allK i k).map jAV ++ [[.int .i64 ((w.sp i).lo + (k : Nat))]] := by rw [allK_yes hx, List.map_append]; rfl
      (conv => whnf); (repeat' ((first | refine bT ?_ | refine bF ?_ | refine bN ?_ | ((first | refine bD ?_ ?_ | refine bEq ?_ ?_ | refine bNe ?_ ?_) <;> intro hh <;> try (exfalso; omega)) | (refine (e1).callq rfl rfl fun _ h => ?_; subst h) | (refine apI (by simp [AV.one]) (by simp; omega) ?_) | refine wIn (by omega) ?_ | refine nI (by omega) ?_) <;> conv => whnf))
      refine ⟨k + 1, ?_, by omega, by omega⟩
      rw [hm]
      simp only [Int.natCast_add, Int.natCast_one, ← Int.add_assoc]
      exact (meets_as [(3, some 2)] (by (repeat' apply And.intro) <;> first | rfl | exact True.intro | (intro hh; cases hh)))
    | false =>
      rw [hx] at e1
      (conv => whnf); (repeat' ((first | refine bT ?_ | refine bF ?_ | refine bN ?_ | ((first | refine bD ?_ ?_ | refine bEq ?_ ?_ | refine bNe ?_ ?_) <;> intro hh <;> try (exfalso; omega)) | (refine (e1).callq rfl rfl fun _ h => ?_; subst h) | refine wIn (by omega) ?_ | refine nI (by omega) ?_) <;> conv => whnf))
      refine ⟨k + 1, ?_, by omega, by omega⟩
      rw [allK_no hx]
      simp only [Int.natCast_add, Int.natCast_one, ← Int.add_assoc]
      exact (meets_id (by (repeat' apply And.intro) <;> first | rfl | exact True.intro | (intro hh; cases hh)))
  · have : k = w.allN i := by omega
    subst this
    have e : w.allK i (w.allN i) = w.allL i := rfl
    rw [e]
    (conv => whnf); (repeat' ((first | refine bT ?_ | refine bF ?_ | refine bN ?_ | ((first | refine bD ?_ ?_ | refine bEq ?_ ?_ | refine bNe ?_ ?_) <;> intro hh <;> try (exfalso; omega)) | refine wIn (by omega) ?_ | refine nI (by omega) ?_) <;> conv => whnf))
    all_goals rfl
theorem allL_nil {w : Shop} (hk : Ok w) {i : Int} (hi : w.isSp i = true) : w.allL i = [] ↔ (w.spans i).isEmpty = true := by
  obtain ⟨ha, hin⟩ := spans_ok hk hi
  rw [List.isEmpty_iff, asc_nil ha]
  constructor
  · intro h n hn
    have := mem_allL.2 ((hin n).1 hn)
    rw [h] at this; cases this
  · intro h
    apply List.eq_nil_iff_forall_not_mem.2
    intro n hn
    exact h n ((hin n).2 (mem_allL.1 hn))
theorem p71 (w : Shop) (hB : Big w) (v : Bool) : FnA Try.prog 71 [.agg w.cells, .bool v] (· = .int .i64 (w.eO v)) := by
  have e1 := p18 w hB
  by_cases hc : w.chk = 0
  case neg =>
    have e : w.eO v = w.chk := by unfold Shop.eO; rw [if_pos hc]
    rw [e]
    refine fnA 2 ok71 (by simp) ?_
    (conv => whnf); (repeat' ((first | refine bT ?_ | refine bF ?_ | refine bN ?_ | ((first | refine bD ?_ ?_ | refine bEq ?_ ?_ | refine bNe ?_ ?_) <;> intro hh <;> try (exfalso; omega)) | (refine (e1).callq rfl rfl fun _ h => ?_; subst h) | refine wIn (by omega) ?_ | refine nI (by omega) ?_) <;> conv => whnf))
    all_goals rfl
  rw [hc] at e1
  cases v with
  | false =>
    have e : w.eO false = 1 := by unfold Shop.eO; rw [if_neg (by simpa using hc)]; rfl
    rw [e]
    refine fnA 2 ok71 (by simp) ?_
    (conv => whnf); (repeat' ((first | refine bT ?_ | refine bF ?_ | refine bN ?_ | ((first | refine bD ?_ ?_ | refine bEq ?_ ?_ | refine bNe ?_ ?_) <;> intro hh <;> try (exfalso; omega)) | (refine (e1).callq rfl rfl fun _ h => ?_; subst h) | refine wIn (by omega) ?_ | refine nI (by omega) ?_) <;> conv => whnf))
    all_goals rfl
  | true =>
  have hk := chk_ok hc
  have hs1 := hk.s1
  have l1 : (w.sps.map Spare.av).length = w.sps.length := by simp
  have he : w.eO true = if w.noT = true then 3 else 0 := by unfold Shop.eO; rw [if_neg (by simpa using hc)]; rfl
  refine fnA 2 ok71 (by simp) ?_
  (conv => whnf); (repeat' ((first | refine bT ?_ | refine bF ?_ | refine bN ?_ | ((first | refine bD ?_ ?_ | refine bEq ?_ ?_ | refine bNe ?_ ?_) <;> intro hh <;> try (exfalso; omega)) | (refine (e1).callq rfl rfl fun _ h => ?_; subst h) | refine wIn (by omega) ?_ | refine nI (by omega) ?_) <;> conv => whnf))
  refine loop_i (α := Nat) (fun k => [(6, .int .i64 k), (2, .own 0 0)]) (fun k => [.box false w.cells, .fresh]) (fun k => k ≤ w.sps.length ∧ ∀ j, j < k → (w.spans (j : Nat)).isEmpty = false) (fun k => w.sps.length - k) 0 (meets_id (by (repeat' apply And.intro) <;> first | rfl | exact True.intro | (intro hh; cases hh))) ⟨by omega, fun j hj => by omega⟩ ?_
  rintro k ⟨k1, k2⟩
  conv => whnf
  refine bD (fun h3 => ?_) (fun h3 => ?_)
  · have hkl : k < w.sps.length := by omega
    have hi : w.isSp (k : Nat) = true := isSp_iff.2 (by omega)
    have e2 := p72 w hk k hi
    have hnil := allL_nil hk hi
    cases hne : (w.spans (k : Nat)).isEmpty with
    | true =>
      have hl0 : ((w.allL (k : Nat)).map jAV).length = 0 := by rw [hnil.2 hne]; rfl
      have hn : w.noT = true := by
        unfold Shop.noT
        refine List.any_eq_true.2 ⟨_, ?_, hne⟩
        unfold Shop.lens Shop.lensK; exact List.mem_map.2 ⟨k, List.mem_range.2 hkl, rfl⟩
      rw [he, hn]
      (conv => whnf); (repeat' ((first | refine bT ?_ | refine bF ?_ | refine bN ?_ | ((first | refine bD ?_ ?_ | refine bEq ?_ ?_ | refine bNe ?_ ?_) <;> intro hh <;> try (exfalso; omega)) | (refine (e2).callzq rfl rfl fun _ h => ?_; subst h) | refine wIn (by omega) ?_ | refine nI (by omega) ?_) <;> conv => whnf))
      all_goals rfl
    | false =>
      have hl0 : ¬ ((w.allL (k : Nat)).map jAV).length = 0 := by
        rw [List.length_map]; intro h
        rw [hnil.1 (List.eq_nil_of_length_eq_zero h)] at hne; cases hne
      (conv => whnf); (repeat' ((first | refine bT ?_ | refine bF ?_ | refine bN ?_ | ((first | refine bD ?_ ?_ | refine bEq ?_ ?_ | refine bNe ?_ ?_) <;> intro hh <;> try (exfalso; omega)) | (refine (e2).callzq rfl rfl fun _ h => ?_; subst h) | refine wIn (by omega) ?_ | refine nI (by omega) ?_) <;> conv => whnf))
      refine ⟨k + 1, (meets_id (by (repeat' apply And.intro) <;> first | rfl | exact True.intro | (intro hh; cases hh))), ⟨by omega, fun j hj => ?_⟩, by omega⟩
      by_cases e : j = k
      · rw [e]; exact hne
      · exact k2 j (by omega)
  · have hn : w.noT = false := by
      rw [Bool.eq_false_iff]; intro hn
      unfold Shop.noT Shop.lens Shop.lensK at hn
      obtain ⟨x, hx, h5⟩ := List.any_eq_true.1 hn
      obtain ⟨j, hj, rfl⟩ := List.mem_map.1 hx
      have := k2 j (by have := List.mem_range.1 hj; omega)
      rw [this] at h5; cases h5
    rw [he, hn]
    (conv => whnf); (repeat' ((first | refine bT ?_ | refine bF ?_ | refine bN ?_ | ((first | refine bD ?_ ?_ | refine bEq ?_ ?_ | refine bNe ?_ ?_) <;> intro hh <;> try (exfalso; omega)) | refine wIn (by omega) ?_ | refine nI (by omega) ?_) <;> conv => whnf))
    all_goals rfl
theorem p54 (w : Shop) (hB : Big w) : FnA Try.prog 54 [.agg w.cells] (· = .int .i64 (w.eO true)) := by
  have e1 := p71 w hB true
  refine fnA 1 ok54 (by simp) ?_
  (conv => whnf); (repeat' ((first | refine bT ?_ | refine bF ?_ | refine bN ?_ | ((first | refine bD ?_ ?_ | refine bEq ?_ ?_ | refine bNe ?_ ?_) <;> intro hh <;> try (exfalso; omega)) | (refine (e1).callq rfl rfl fun _ h => ?_; subst h) | refine wIn (by omega) ?_ | refine nI (by omega) ?_) <;> conv => whnf))
  all_goals rfl
def szM (m : List Slot) : Bool := decide (m.length ≤ 20) && m.all fun s => decide (s.ss.length ≤ 20)
def Shop.sz (w : Shop) : Bool := decide (w.sps.length ≤ 40) && decide (w.mks.length ≤ 40) && decide (w.tb.length ≤ 60) && w.mks.all szM
theorem sz_big {w : Shop} (h : w.sz = true) : Big w := by
  unfold Shop.sz at h
  simp only [Bool.and_eq_true, decide_eq_true_eq, List.all_eq_true] at h
  obtain ⟨⟨⟨h1, h2⟩, h3⟩, h4⟩ := h
  refine ⟨by omega, by omega, by omega, fun x hx => ?_⟩
  have := h4 x hx
  unfold szM at this
  simp only [Bool.and_eq_true, decide_eq_true_eq, List.all_eq_true] at this
  exact ⟨by omega, fun y hy => by have := this.2 y hy; omega⟩
def wide (s : Spare) : Bool := decide (50 ≤ s.hi - s.lo)
def Shop.far (w : Shop) : Bool := !w.sz || (decide (w.chk = 0) && (w.sps.any wide || decide (6 < w.sps.length) || decide (4 < w.mks.length) || decide (10 < w.tb.length)))
theorem p14 (w : Shop) : FnA Try.prog 14 [.agg w.cells] (· = .bool w.far) := by
  have l1 : (w.sps.map Spare.av).length = w.sps.length := by simp
  have l2 : (w.mks.map mkAV).length = w.mks.length := by simp
  have l3 : (w.tb.map Trial.av).length = w.tb.length := by simp
  have far1 : w.sz = false → w.far = true := fun h => by unfold Shop.far; rw [h]; rfl
  by_cases h1 : w.sps.length ≤ 40
  case neg =>
    rw [far1 (by unfold Shop.sz; rw [decide_eq_false h1]; simp)]
    refine fnA 1 ok14 (by simp) ?_
    (conv => whnf); (repeat' ((first | refine bT ?_ | refine bF ?_ | refine bN ?_ | ((first | refine bD ?_ ?_ | refine bEq ?_ ?_ | refine bNe ?_ ?_) <;> intro hh <;> try (exfalso; omega)) | refine wIn (by omega) ?_ | refine nI (by omega) ?_) <;> conv => whnf))
    all_goals rfl
  by_cases h2 : w.mks.length ≤ 40
  case neg =>
    rw [far1 (by unfold Shop.sz; rw [decide_eq_false h2]; simp)]
    refine fnA 1 ok14 (by simp) ?_
    (conv => whnf); (repeat' ((first | refine bT ?_ | refine bF ?_ | refine bN ?_ | ((first | refine bD ?_ ?_ | refine bEq ?_ ?_ | refine bNe ?_ ?_) <;> intro hh <;> try (exfalso; omega)) | refine wIn (by omega) ?_ | refine nI (by omega) ?_) <;> conv => whnf))
    all_goals rfl
  by_cases h3 : w.tb.length ≤ 60
  case neg =>
    rw [far1 (by unfold Shop.sz; rw [decide_eq_false h3]; simp)]
    refine fnA 1 ok14 (by simp) ?_
    (conv => whnf); (repeat' ((first | refine bT ?_ | refine bF ?_ | refine bN ?_ | ((first | refine bD ?_ ?_ | refine bEq ?_ ?_ | refine bNe ?_ ?_) <;> intro hh <;> try (exfalso; omega)) | refine wIn (by omega) ?_ | refine nI (by omega) ?_) <;> conv => whnf))
    all_goals rfl
  have hsz : w.sz = w.mks.all szM := by unfold Shop.sz; rw [decide_eq_true h1, decide_eq_true h2, decide_eq_true h3]; simp
  refine fnA 1 ok14 (by simp) ?_
  (conv => whnf); (repeat' ((first | refine bT ?_ | refine bF ?_ | refine bN ?_ | ((first | refine bD ?_ ?_ | refine bEq ?_ ?_ | refine bNe ?_ ?_) <;> intro hh <;> try (exfalso; omega)) | refine wIn (by omega) ?_ | refine nI (by omega) ?_) <;> conv => whnf))
  refine loop_i (α := Nat) (fun k => [(3, .int .i64 k), (1, .own 0 0)]) (fun k => [.box false w.cells]) (fun k => k ≤ w.mks.length ∧ ∀ n ∈ w.mks.take k, szM n = true) (fun k => w.mks.length - k) 0 (meets_id (by (repeat' apply And.intro) <;> first | rfl | exact True.intro | (intro hh; cases hh))) ⟨by omega, by simp⟩ ?_
  rintro m ⟨m1, m2⟩
  conv => whnf
  refine bD (fun h8 => ?_) (fun h8 => ?_)
  · have hm : m < w.mks.length := by omega
    have g1 := getM mkAV w.mks m hm
    have l4 : (w.mks[m].map Slot.av).length = w.mks[m].length := by simp
    have hno : szM w.mks[m] = false → w.far = true := fun h => far1 (by rw [hsz, all_not hm h])
    have hyes : szM w.mks[m] = true → ∀ n ∈ w.mks.take (m + 1), szM n = true := fun h => take_all hm m2 h
    by_cases h9 : w.mks[m].length ≤ 20
    · (conv => whnf); (repeat' ((first | refine bT ?_ | refine bF ?_ | refine bN ?_ | ((first | refine bD ?_ ?_ | refine bEq ?_ ?_ | refine bNe ?_ ?_) <;> intro hh <;> try (exfalso; omega)) | (refine iaI (by omega) (by omega) g1 ?_) | refine wIn (by omega) ?_ | refine nI (by omega) ?_) <;> conv => whnf))
      refine loop_i (α := Nat) (fun k => [(4, .int .i64 k), (3, .int .i64 m), (1, .own 0 0)]) (fun k => [.box false w.cells]) (fun k => k ≤ w.mks[m].length ∧ ∀ n ∈ w.mks[m].take k, decide (n.ss.length ≤ 20) = true) (fun k => w.mks[m].length - k) 0 (meets_id (by (repeat' apply And.intro) <;> first | rfl | exact True.intro | (intro hh; cases hh))) ⟨by omega, by simp⟩ ?_
      rintro s ⟨s1, s2⟩
      conv => whnf
      refine iaI (by omega) (by omega) g1 ?_
      conv => whnf
      refine bD (fun h10 => ?_) (fun h10 => ?_)
      · have hs : s < w.mks[m].length := by omega
        have g2 := getM Slot.av w.mks[m] s hs
        have l5 : (w.mks[m][s].ss.map jAV).length = w.mks[m][s].ss.length := by simp
        by_cases hx : w.mks[m][s].ss.length ≤ 20
        · (conv => whnf); (repeat' ((first | refine bT ?_ | refine bF ?_ | refine bN ?_ | ((first | refine bD ?_ ?_ | refine bEq ?_ ?_ | refine bNe ?_ ?_) <;> intro hh <;> try (exfalso; omega)) | (refine iaI (by omega) (by omega) g1 ?_) | (refine iaI (by omega) (by omega) g2 ?_) | refine wIn (by omega) ?_ | refine nI (by omega) ?_) <;> conv => whnf))
          exact ⟨s + 1, (meets_id (by (repeat' apply And.intro) <;> first | rfl | exact True.intro | (intro hh; cases hh))), ⟨by omega, take_all (p := fun n : Slot => decide (n.ss.length ≤ 20)) hs s2 (decide_eq_true hx)⟩, by omega⟩
        · rw [hno (by unfold szM; rw [all_not (p := fun n : Slot => decide (n.ss.length ≤ 20)) hs (decide_eq_false hx)]; simp)]
          (conv => whnf); (repeat' ((first | refine bT ?_ | refine bF ?_ | refine bN ?_ | ((first | refine bD ?_ ?_ | refine bEq ?_ ?_ | refine bNe ?_ ?_) <;> intro hh <;> try (exfalso; omega)) | (refine iaI (by omega) (by omega) g1 ?_) | (refine iaI (by omega) (by omega) g2 ?_) | refine wIn (by omega) ?_ | refine nI (by omega) ?_) <;> conv => whnf))
          all_goals rfl
      · have : s = w.mks[m].length := by omega
        subst this
        rw [List.take_length] at s2
        (conv => whnf); (repeat' ((first | refine bT ?_ | refine bF ?_ | refine bN ?_ | ((first | refine bD ?_ ?_ | refine bEq ?_ ?_ | refine bNe ?_ ?_) <;> intro hh <;> try (exfalso; omega)) | refine wIn (by omega) ?_ | refine nI (by omega) ?_) <;> conv => whnf))
        exact ⟨m + 1, (meets_id (by (repeat' apply And.intro) <;> first | rfl | exact True.intro | (intro hh; cases hh))), ⟨by omega, hyes (by unfold szM; rw [all_yes (p := fun n : Slot => decide (n.ss.length ≤ 20)) s2, decide_eq_true h9]; rfl)⟩, by omega⟩
    · rw [hno (by unfold szM; rw [decide_eq_false h9]; rfl)]
      (conv => whnf); (repeat' ((first | refine bT ?_ | refine bF ?_ | refine bN ?_ | ((first | refine bD ?_ ?_ | refine bEq ?_ ?_ | refine bNe ?_ ?_) <;> intro hh <;> try (exfalso; omega)) | (refine iaI (by omega) (by omega) g1 ?_) | refine wIn (by omega) ?_ | refine nI (by omega) ?_) <;> conv => whnf))
      all_goals rfl
  · have : m = w.mks.length := by omega
    subst this
    rw [List.take_length] at m2
    have hszt : w.sz = true := by rw [hsz, all_yes m2]
    have hB := sz_big hszt
    have e1 := p18 w hB
    by_cases hc : w.chk = 0
    case neg =>
      have : w.far = false := by unfold Shop.far; rw [hszt, decide_eq_false hc]; rfl
      rw [this]
      (conv => whnf); (repeat' ((first | refine bT ?_ | refine bF ?_ | refine bN ?_ | ((first | refine bD ?_ ?_ | refine bEq ?_ ?_ | refine bNe ?_ ?_) <;> intro hh <;> try (exfalso; omega)) | (refine (e1).callq rfl rfl fun _ h => ?_; subst h) | refine wIn (by omega) ?_ | refine nI (by omega) ?_) <;> conv => whnf))
      all_goals rfl
    have hk := chk_ok hc
    have hf : w.far = (w.sps.any wide || decide (6 < w.sps.length) || decide (4 < w.mks.length) || decide (10 < w.tb.length)) := by unfold Shop.far; rw [hszt, decide_eq_true hc]; rfl
    rw [hc] at e1
    rw [hf]
    (conv => whnf); (repeat' ((first | refine bT ?_ | refine bF ?_ | refine bN ?_ | ((first | refine bD ?_ ?_ | refine bEq ?_ ?_ | refine bNe ?_ ?_) <;> intro hh <;> try (exfalso; omega)) | (refine (e1).callq rfl rfl fun _ h => ?_; subst h) | refine wIn (by omega) ?_ | refine nI (by omega) ?_) <;> conv => whnf))
    refine loop_i (α := Nat) (fun k => [(5, .int .i64 k), (1, .own 0 0)]) (fun k => [.box false w.cells]) (fun k => k ≤ w.sps.length ∧ ∀ n ∈ w.sps.take k, wide n = false) (fun k => w.sps.length - k) 0 (meets_id (by (repeat' apply And.intro) <;> first | rfl | exact True.intro | (intro hh; cases hh))) ⟨by omega, by simp⟩ ?_
    rintro i ⟨i1, i2⟩
    conv => whnf
    refine bD (fun h8 => ?_) (fun h8 => ?_)
    · have hi : i < w.sps.length := by omega
      have g1 := getM Spare.av w.sps i hi
      have hs := hk.s2 _ (List.getElem_mem hi)
      by_cases hx : 50 ≤ w.sps[i].hi - w.sps[i].lo
      · rw [any_yes (p := wide) hi (decide_eq_true hx)]
        (conv => whnf); (repeat' ((first | refine bT ?_ | refine bF ?_ | refine bN ?_ | ((first | refine bD ?_ ?_ | refine bEq ?_ ?_ | refine bNe ?_ ?_) <;> intro hh <;> try (exfalso; omega)) | (refine iaI (by omega) (by omega) g1 ?_) | refine wIn (by omega) ?_ | refine nI (by omega) ?_) <;> conv => whnf))
        all_goals rfl
      · (conv => whnf); (repeat' ((first | refine bT ?_ | refine bF ?_ | refine bN ?_ | ((first | refine bD ?_ ?_ | refine bEq ?_ ?_ | refine bNe ?_ ?_) <;> intro hh <;> try (exfalso; omega)) | (refine iaI (by omega) (by omega) g1 ?_) | refine wIn (by omega) ?_ | refine nI (by omega) ?_) <;> conv => whnf))
        exact ⟨i + 1, (meets_id (by (repeat' apply And.intro) <;> first | rfl | exact True.intro | (intro hh; cases hh))), ⟨by omega, take_none (p := wide) hi i2 (decide_eq_false hx)⟩, by omega⟩
    · have : i = w.sps.length := by omega
      subst this
      rw [List.take_length] at i2
      rw [any_no i2, Bool.false_or]
      by_cases q1 : 6 < w.sps.length
      · rw [decide_eq_true q1]
        (conv => whnf); (repeat' ((first | refine bT ?_ | refine bF ?_ | refine bN ?_ | ((first | refine bD ?_ ?_ | refine bEq ?_ ?_ | refine bNe ?_ ?_) <;> intro hh <;> try (exfalso; omega)) | refine wIn (by omega) ?_ | refine nI (by omega) ?_) <;> conv => whnf))
        all_goals rfl
      · rw [decide_eq_false q1]
        by_cases q2 : 4 < w.mks.length
        · rw [decide_eq_true q2]
          (conv => whnf); (repeat' ((first | refine bT ?_ | refine bF ?_ | refine bN ?_ | ((first | refine bD ?_ ?_ | refine bEq ?_ ?_ | refine bNe ?_ ?_) <;> intro hh <;> try (exfalso; omega)) | refine wIn (by omega) ?_ | refine nI (by omega) ?_) <;> conv => whnf))
          all_goals rfl
        · rw [decide_eq_false q2]
          (conv => whnf); (repeat' ((first | refine bT ?_ | refine bF ?_ | refine bN ?_ | ((first | refine bD ?_ ?_ | refine bEq ?_ ?_ | refine bNe ?_ ?_) <;> intro hh <;> try (exfalso; omega)) | refine wIn (by omega) ?_ | refine nI (by omega) ?_) <;> conv => whnf))
          all_goals (refine congrArg AV.bool ?_; rw [Bool.false_or, Bool.false_or]; exact decide_eq_decide.2 (by omega))
def Shop.ready (w : Shop) : Bool := !w.far && decide (w.eO true = 0)
theorem far_sz {w : Shop} (h : w.far = false) : w.sz = true := by
  cases hs : w.sz with
  | true => rfl
  | false => unfold Shop.far at h; rw [hs] at h; cases h
theorem p41 (w : Shop) : FnA Try.prog 41 [.agg w.cells] (· = .bool w.ready) := by
  have e1 := p14 w
  unfold Shop.ready
  refine fnA 1 ok41 (by simp) ?_
  cases h : w.far with
  | true =>
    rw [h] at e1
    (conv => whnf); (repeat' ((first | refine bT ?_ | refine bF ?_ | refine bN ?_ | ((first | refine bD ?_ ?_ | refine bEq ?_ ?_ | refine bNe ?_ ?_) <;> intro hh <;> try (exfalso; omega)) | (refine (e1).callq rfl rfl fun _ h => ?_; subst h) | refine wIn (by omega) ?_ | refine nI (by omega) ?_) <;> conv => whnf))
    all_goals rfl
  | false =>
    rw [h] at e1
    have e2 := p54 w (sz_big (far_sz h))
    (conv => whnf); (repeat' ((first | refine bT ?_ | refine bF ?_ | refine bN ?_ | ((first | refine bD ?_ ?_ | refine bEq ?_ ?_ | refine bNe ?_ ?_) <;> intro hh <;> try (exfalso; omega)) | (refine (e1).callq rfl rfl fun _ h => ?_; subst h) | (refine (e2).callq rfl rfl fun _ h => ?_; subst h) | refine wIn (by omega) ?_ | refine nI (by omega) ?_) <;> conv => whnf))
    all_goals rfl
theorem ready_ok {w : Shop} (h : w.ready = true) : w.far = false ∧ w.eO true = 0 ∧ Ok w := by
  unfold Shop.ready at h
  rw [Bool.and_eq_true, decide_eq_true_iff] at h
  exact ⟨by simpa using h.1, h.2, chk_ok (chk_0 h.2)⟩
theorem best_valid {fs : List (List Int)} {st left g : List Int} (h : Best fs st left g) : Valid st fs g := by
  refine ⟨h.lg, h.gok, fun s hs => ?_⟩
  have := h.tot s hs
  have := h.nn s (by rw [h.ll]; exact hs)
  omega
open Classical in
theorem best_IsMost {fs : List (List Int)} {st left g : List Int} (h : Best fs st left g) (hs : Spr st fs) (hn : Nn st) : IsMost st fs (hasN g) := by
  refine ⟨⟨g, best_valid h, rfl⟩, fun g' hg' => ?_⟩
  let t : Int → Bool := fun x => decide (∃ C, Shut fs left g C ∧ C x ∧ 0 ≤ x ∧ x < st.length)
  have htt : ∀ x, t x = true ↔ ∃ C, Shut fs left g C ∧ C x ∧ 0 ≤ x ∧ x < st.length := fun x => decide_eq_true_iff
  have hfs : ∀ j, ∀ x ∈ fsG fs j, 0 ≤ x ∧ x < st.length := fun j x hx => by
    by_cases hj : j < fs.length
    · have hm : fsG fs j ∈ fs := by
        unfold fsG; rw [List.getD_eq_getElem?_getD, List.getElem?_eq_getElem hj]; exact List.getElem_mem hj
      exact hs _ hm x hx
    · have : fsG fs j = [] := by unfold fsG; simp [List.getD_eq_getElem?_getD, show fs[j]? = none from List.getElem?_eq_none (by omega)]
      rw [this] at hx; cases hx
  have hsl := short_lack (left := left) (best_valid h) hs hn (t := t) (fun x hx => ((htt x).1 hx).choose_spec.2.2) (fun s hsx => by
      obtain ⟨C, c1, c2, c3, c4⟩ := (htt s).1 hsx
      obtain ⟨a, b⟩ := c1 s c2
      exact ⟨a, fun j hj hgj x hx => (htt x).2 ⟨C, c1, b j hj hgj x hx, hfs j x hx⟩⟩) h.tot (fun j hj hgj x hx => by
      obtain ⟨C, c1, c2⟩ := h.shut j hj hgj
      exact (htt x).2 ⟨C, c1, c2 x hx, hfs j x hx⟩)
  have hwd := weak_dual hg' hs hn (some := shortL g t) (List.Pairwise.sublist List.filter_sublist List.pairwise_lt_range) (fun x hx => by
    have : x < g.length := by unfold shortL at hx; exact List.mem_range.1 (List.mem_filter.1 hx).1
    rw [← h.lg]; exact this)
  have a := hasN_add g
  have b := hasN_add g'
  have := hg'.len
  have := h.lg
  omega
theorem fsJ_spr {w : Shop} {st : List Int} {js : List Job} (h : st.length = w.sps.length) : Spr st (w.fsJ js) := fun f hf s hs => by
  unfold Shop.fsJ at hf
  obtain ⟨j, _, rfl⟩ := List.mem_map.1 hf
  have := (mem_numF.1 hs).1
  omega
/-- the greatest number of jobs that get a spare -/
def Shop.mostN (w : Shop) (st : List Int) (js : List Job) : Nat := bestM st (w.fsJ js)
theorem isSt_nn {w : Shop} {st : List Int} (h : w.isSt st = true) : Nn st := fun s hs => ((isSt_iff.1 h).2 s hs).1
theorem best_mostN {w : Shop} {st : List Int} {js : List Job} {left g : List Int} (hst : w.isSt st = true) (h : Best (w.fsJ js) st left g) : hasN g = w.mostN st js :=
  (best_IsMost h (fsJ_spr (isSt_iff.1 hst).1) (isSt_nn hst)).uniq (best_most _ _ (fsJ_spr (isSt_iff.1 hst).1) (isSt_nn hst))
theorem fnA_imp {P : Program} {f : FuncId} {args : List AV} {R R' : AV → Prop} (h : FnA P f args R) (k : ∀ r, R r → R' r) : FnA P f args R' := by
  unfold FnA at h ⊢
  intro imm w vs h1 h2
  refine (h imm w vs h1 h2).mono fun e w' hh => ?_
  obtain ⟨v, r, imm', q1, q2, q3⟩ := hh
  exact ⟨v, r, imm', q1, k r q2, q3⟩
/-- Most -/
theorem p34f (w : Shop) (st : List Int) (js : List Job) (hb : Bd w st js) (h : w.eO (w.isSt st && w.areJ js) = 0) : FnA Try.prog 34 [.agg w.cells, .isl (st.map jAV), .isl (js.map Job.av)] (· = .tup [.int .i64 (w.mostN st js), .int .i64 0]) := by
  have hv := eO_v h
  rw [Bool.and_eq_true] at hv
  by_cases h0 : st.length = 0
  · refine fnA_imp (p34e w st js hb h h0) fun r hr => ?_
    obtain ⟨left, g, hB, rfl⟩ := hr
    rw [best_mostN hv.1 hB]
  · refine fnA_imp (p34 w st js hb h (by omega)) fun r hr => ?_
    obtain ⟨left, g, hB, rfl⟩ := hr
    rw [best_mostN hv.1 hB]
def exW : Shop := ⟨[⟨1, 2, 300, 310⟩, ⟨1, 3, 305, 305⟩, ⟨2, 1, 50, 60⟩, ⟨1, 2, 320, 330⟩], [[⟨1, [2, 3], 300, 306⟩, ⟨2, [1], 40, 58⟩], [⟨1, [2], 310, 326⟩]], 5, [⟨0, 1, 0, 0⟩]⟩
def exJ : List Job := [⟨0, 0⟩, ⟨0, 0⟩, ⟨0, 1⟩, ⟨1, 0⟩]
theorem p64 : FnA Try.prog 64 [] (· = .agg exW.cells) := by
  refine fnA 9 ok64 (by simp) ?_
  (conv => whnf); (repeat' ((first | refine bT ?_ | refine bF ?_ | refine bN ?_ | ((first | refine bD ?_ ?_ | refine bEq ?_ ?_ | refine bNe ?_ ?_) <;> intro hh <;> try (exfalso; omega)) | refine wIn (by omega) ?_ | refine nI (by omega) ?_) <;> conv => whnf))
  all_goals rfl
theorem p65 : FnA Try.prog 65 [] (· = .isl (exJ.map Job.av)) := by
  refine fnA 1 ok65 (by simp) ?_
  (conv => whnf); (repeat' ((first | refine bT ?_ | refine bF ?_ | refine bN ?_ | ((first | refine bD ?_ ?_ | refine bEq ?_ ?_ | refine bNe ?_ ?_) <;> intro hh <;> try (exfalso; omega)) | refine wIn (by omega) ?_ | refine nI (by omega) ?_) <;> conv => whnf))
  all_goals rfl
theorem p31 (a b : List Int) (ha : a.length ≤ 1000000) : FnA Try.prog 31 [.isl (a.map jAV), .isl (b.map jAV)] (· = .bool (decide (a = b))) := by
  have l1 : (a.map jAV).length = a.length := by simp
  have l2 : (b.map jAV).length = b.length := by simp
  refine fnA 0 ok31 (by simp) ?_
  by_cases hl : a.length = b.length
  case neg =>
    rw [decide_eq_false fun h : a = b => hl (by rw [h])]
    (conv => whnf); (repeat' ((first | refine bT ?_ | refine bF ?_ | refine bN ?_ | ((first | refine bD ?_ ?_ | refine bEq ?_ ?_ | refine bNe ?_ ?_) <;> intro hh <;> try (exfalso; omega)) | refine wIn (by omega) ?_ | refine nI (by omega) ?_) <;> conv => whnf))
    all_goals rfl
  (conv => whnf); (repeat' ((first | refine bT ?_ | refine bF ?_ | refine bN ?_ | ((first | refine bD ?_ ?_ | refine bEq ?_ ?_ | refine bNe ?_ ?_) <;> intro hh <;> try (exfalso; omega)) | refine wIn (by omega) ?_ | refine nI (by omega) ?_) <;> conv => whnf))
  refine loop_i (α := Nat) (fun k => [(5, .int .i64 k), (1, .isl (b.map jAV)), (0, .isl (a.map jAV))]) (fun k => []) (fun k => k ≤ a.length ∧ a.take k = b.take k) (fun k => a.length - k) 0 (meets_id (by (repeat' apply And.intro) <;> first | rfl | exact True.intro | (intro hh; cases hh))) ⟨by omega, by simp⟩ ?_
  rintro k ⟨hk0, hin⟩
  conv => whnf
  refine bD (fun h4 => ?_) (fun h4 => ?_)
  · have hk : k < a.length := by omega
    have hkb : k < b.length := by omega
    conv => whnf
    refine iaI (by omega) (by omega) (getM jAV a k hk) ?_
    (conv => whnf); (repeat' ((first | refine bT ?_ | refine bF ?_ | refine bN ?_ | ((first | refine bD ?_ ?_ | refine bEq ?_ ?_ | refine bNe ?_ ?_) <;> intro hh <;> try (exfalso; omega)) | refine wIn (by omega) ?_ | refine nI (by omega) ?_) <;> conv => whnf))
    refine iaI (by omega) (by omega) (getM jAV b k hkb) ?_
    by_cases he : a[k] = b[k]
    · (conv => whnf); (repeat' ((first | refine bT ?_ | refine bF ?_ | refine bN ?_ | ((first | refine bD ?_ ?_ | refine bEq ?_ ?_ | refine bNe ?_ ?_) <;> intro hh <;> try (exfalso; omega)) | refine wIn (by omega) ?_ | refine nI (by omega) ?_) <;> conv => whnf))
      refine ⟨k + 1, (meets_id (by (repeat' apply And.intro) <;> first | rfl | exact True.intro | (intro hh; cases hh))), ⟨by omega, ?_⟩, by omega⟩
      rw [List.take_succ_eq_append_getElem hk, List.take_succ_eq_append_getElem hkb, hin, he]
    · rw [decide_eq_false fun h : a = b => he (by subst h; rfl)]
      (conv => whnf); (repeat' ((first | refine bT ?_ | refine bF ?_ | refine bN ?_ | ((first | refine bD ?_ ?_ | refine bEq ?_ ?_ | refine bNe ?_ ?_) <;> intro hh <;> try (exfalso; omega)) | refine wIn (by omega) ?_ | refine nI (by omega) ?_) <;> conv => whnf))
      all_goals rfl
  · have : k = a.length := by omega
    rw [this, List.take_length, List.take_of_length_le (by omega)] at hin
    rw [decide_eq_true hin]
    (conv => whnf); (repeat' ((first | refine bT ?_ | refine bF ?_ | refine bN ?_ | ((first | refine bD ?_ ?_ | refine bEq ?_ ?_ | refine bNe ?_ ?_) <;> intro hh <;> try (exfalso; omega)) | refine wIn (by omega) ?_ | refine nI (by omega) ?_) <;> conv => whnf))
    all_goals rfl
theorem ex_1 : exW.eO (exW.isSp 0) = 0 := by decide +kernel
theorem ex_2 : exW.loN 0 = 300 ∧ exW.hiN 0 = 309 := by decide +kernel
theorem ex_3 : exW.eF = 0 := by decide +kernel
theorem ex_4 : exW.keep.length = 3 ∧ exW.needed = [2, 3] := by decide +kernel
theorem ex_5 : exW.eO (exW.isSt [1, 0, 1, 1] && exW.areJ exJ) = 0 := by decide +kernel
theorem ex_6 : exW.mostN [1, 0, 1, 1] exJ = 3 := by decide +kernel
theorem ex_7 : Bd exW [1, 0, 1, 1] exJ := ⟨by decide, by decide, by decide, by decide, by decide⟩
/-- works() -/
theorem p15 : FnA Try.prog 15 [] (· = .bool true) := by
  have e1 := p19 exW 0 (by decide) ex_1
  rw [ex_2.1, ex_2.2] at e1
  have e2 := p26 exW ex_3
  rw [ex_4.1] at e2
  have e3 := p34f exW [1, 0, 1, 1] exJ ex_7 ex_5
  rw [ex_6] at e3
  have e4 := p28 exW ex_3
  rw [ex_4.2] at e4
  have e5 := p31 [2, 3] [2, 3] (by decide)
  refine fnA 9 ok15 (by simp) ?_
  (conv => whnf); (repeat' ((first | refine bT ?_ | refine bF ?_ | refine bN ?_ | ((first | refine bD ?_ ?_ | refine bEq ?_ ?_ | refine bNe ?_ ?_) <;> intro hh <;> try (exfalso; omega)) | (refine (p64).callzq rfl rfl fun _ h => ?_; subst h) | (refine (e1).callq rfl rfl fun _ h => ?_; subst h) | (refine (e2).callq rfl rfl fun _ h => ?_; subst h) | (refine (p65).callzq rfl rfl fun _ h => ?_; subst h) | (refine (e3).lendq rfl fun _ h => ?_; subst h; refine ⟨rfl, ?_⟩) | (refine (e4).callzq rfl rfl fun _ h => ?_; subst h) | (refine (e5).lendq rfl fun _ h => ?_; subst h; refine ⟨rfl, ?_⟩) | refine wIn (by omega) ?_ | refine nI (by omega) ?_) <;> conv => whnf))
  all_goals rfl
theorem sp_one (l : List Spare) : ∀ e ∈ l.map Spare.av, e.length = 4 ∧ e.all AV.one = true := fun e he => by
  obtain ⟨x, _, rfl⟩ := List.mem_map.1 he; simp [Spare.av, AV.one]
theorem tr_one (l : List Trial) : ∀ e ∈ l.map Trial.av, e.length = 4 ∧ e.all AV.one = true := fun e he => by
  obtain ⟨x, _, rfl⟩ := List.mem_map.1 he; simp [Trial.av, AV.one]
theorem sl_one (l : List Slot) : ∀ e ∈ l.map Slot.av, e.length = 4 ∧ e.all AV.one = true := fun e he => by
  obtain ⟨x, _, rfl⟩ := List.mem_map.1 he; simp [Slot.av, AV.one]
theorem j_one (l : List Int) : ∀ e ∈ l.map jAV, e.length = 1 ∧ e.all AV.one = true := fun e he => by
  obtain ⟨x, _, rfl⟩ := List.mem_map.1 he; simp [jAV, AV.one]
theorem p16o (w : Shop) (hB : Big w) : FnO Try.prog 16 [.agg w.cells] (fun r rows => r = .agg [.row 4, .row 14, .int .i64 w.cut, .row 6] ∧ rows = [(4, .row false 76 4 (w.sps.map Spare.av)), (14, .row false 66 1 (w.mks.map mkAV)), (6, .row false 70 4 (w.tb.map Trial.av))]) := by
  have l1 : (w.sps.map Spare.av).length = w.sps.length := by simp
  have l2 : (w.mks.map mkAV).length = w.mks.length := by simp
  have l3 : (w.tb.map Trial.av).length = w.tb.length := by simp
  have hBs := hB.s
  have hBm := hB.m
  have hBt := hB.t
  refine fnO 15 ok16 (by simp) ?_
  (conv => whnf); (repeat' ((first | refine bT ?_ | refine bF ?_ | refine bN ?_ | ((first | refine bD ?_ ?_ | refine bEq ?_ ?_ | refine bNe ?_ ?_) <;> intro hh <;> try (exfalso; omega)) | (refine apI (sp_one w.sps) (by simp only [l1, List.length_nil]; omega) ?_) | (refine apI (tr_one w.tb) (by simp only [l3, List.length_nil]; omega) ?_) | refine wIn (by omega) ?_ | refine nI (by omega) ?_) <;> conv => whnf))
  refine loop_i (α := Nat) (fun i => [(4, .int .i64 i), (3, .own 2 0), (2, .own 1 0), (1, .own 0 0)]) (fun i => [.box false w.cells, .box false [.nils, .nils, .int .i64 0, .nils], .box false [.row 4, .row 14, .int .i64 w.cut, .row 6], .fresh, .row false 76 4 (w.sps.map Spare.av), .fresh, .row false 70 4 (w.tb.map Trial.av), .fresh, .fresh, .fresh, .fresh, .fresh, .fresh, .fresh, .row false 66 1 ((w.mks.take i).map mkAV)]) (fun i => i ≤ w.mks.length) (fun i => w.mks.length - i) 0 (meets_as [(14, none)] (by (repeat' apply And.intro) <;> first | rfl | exact True.intro | (intro hh; cases hh))) (by omega) ?_
  intro i hi0
  conv => whnf
  refine bD (fun h3 => ?_) (fun h3 => ?_)
  · have hi : i < w.mks.length := by omega
    have g1 := getM mkAV w.mks i hi
    have hbs := hB.sl _ (List.getElem_mem hi)
    have l4 : (w.mks[i].map Slot.av).length = w.mks[i].length := by simp
    have hsuc : (w.mks.take (i + 1)).map mkAV = (w.mks.take i).map mkAV ++ [mkAV w.mks[i]] := by
      rw [List.take_succ_eq_append_getElem hi, List.map_append]; rfl
    have l5 : ((w.mks.take i).map mkAV).length = i := by rw [List.length_map, List.length_take]; omega
    (conv => whnf); (repeat' ((first | refine bT ?_ | refine bF ?_ | refine bN ?_ | ((first | refine bD ?_ ?_ | refine bEq ?_ ?_ | refine bNe ?_ ?_) <;> intro hh <;> try (exfalso; omega)) | (refine iaI (by omega) (by omega) g1 ?_) | (refine apI (sl_one w.mks[i]) (by simp only [l4, List.length_nil]; omega) ?_) | refine wIn (by omega) ?_ | refine nI (by omega) ?_) <;> conv => whnf))
    refine loop_i (α := Nat × List (List AV)) (fun q => [(6, .int .i64 q.1), (5, .own 9 0), (4, .int .i64 i), (3, .own 2 0), (2, .own 1 0), (1, .own 0 0)]) (fun q => [.box false w.cells, .box false [.nils, .nils, .int .i64 0, .nils], .box false [.row 4, .row 14, .int .i64 w.cut, .row 6], .fresh, .row false 76 4 (w.sps.map Spare.av), .fresh, .row false 70 4 (w.tb.map Trial.av), .fresh, .row false 106 4 q.2, .box false [.row 8], .fresh, .fresh, .fresh, .fresh, .row false 66 1 ((w.mks.take i).map mkAV)]) (fun q => q.1 ≤ w.mks[i].length ∧ q.2 = w.mks[i].map Slot.av) (fun q => w.mks[i].length - q.1) (0, w.mks[i].map Slot.av) (meets_id (by (repeat' apply And.intro) <;> first | rfl | exact True.intro | (intro hh; cases hh))) ⟨by simp, rfl⟩ ?_
    rintro ⟨k, L⟩ ⟨hk0, hLe⟩
    dsimp only at hk0 hLe ⊢
    subst hLe
    conv => whnf
    refine bD (fun h4 => ?_) (fun h4 => ?_)
    · have hk : k < w.mks[i].length := by omega
      have g2 := getM Slot.av w.mks[i] k hk
      have hb2 := hbs.2 _ (List.getElem_mem hk)
      have l6 : (w.mks[i][k].ss.map jAV).length = w.mks[i][k].ss.length := by simp
      have hset : (w.mks[i].map Slot.av).set k (w.mks[i][k]).av = w.mks[i].map Slot.av := by
        apply List.ext_getElem (by simp)
        intro n h5 h6
        rw [List.getElem_set]
        split
        · rename_i e; subst e; simp
        · rfl
      (conv => whnf); (repeat' ((first | refine bT ?_ | refine bF ?_ | refine bN ?_ | ((first | refine bD ?_ ?_ | refine bEq ?_ ?_ | refine bNe ?_ ?_) <;> intro hh <;> try (exfalso; omega)) | (refine iaI (by omega) (by omega) g2 ?_) | (refine apI (j_one w.mks[i][k].ss) (by simp only [l6, List.length_nil]; omega) ?_) | refine wIn (by omega) ?_ | refine nI (by omega) ?_) <;> conv => whnf))
      exact ⟨(k + 1, (w.mks[i].map Slot.av).set k (w.mks[i][k]).av), (meets_id (by (repeat' apply And.intro) <;> first | rfl | exact True.intro | (intro hh; cases hh))), ⟨by dsimp only; omega, hset⟩, by dsimp only; omega⟩
    · have : k = w.mks[i].length := by omega
      subst this
      (conv => whnf); (repeat' ((first | refine bT ?_ | refine bF ?_ | refine bN ?_ | ((first | refine bD ?_ ?_ | refine bEq ?_ ?_ | refine bNe ?_ ?_) <;> intro hh <;> try (exfalso; omega)) | (refine apI (by simp [AV.one]) (by simp only [l5]; simp; omega) ?_) | refine wIn (by omega) ?_ | refine nI (by omega) ?_) <;> conv => whnf))
      refine ⟨i + 1, ?_, by omega, by omega⟩
      rw [hsuc]
      exact (meets_as [(14, some 13)] (by (repeat' apply And.intro) <;> first | rfl | exact True.intro | (intro hh; cases hh)))
  · have : i = w.mks.length := by omega
    subst this
    rw [List.take_length]
    (conv => whnf); (repeat' ((first | refine bT ?_ | refine bF ?_ | refine bN ?_ | ((first | refine bD ?_ ?_ | refine bEq ?_ ?_ | refine bNe ?_ ?_) <;> intro hh <;> try (exfalso; omega)) | refine wIn (by omega) ?_ | refine nI (by omega) ?_) <;> conv => whnf))
    all_goals exact ⟨rfl, rfl⟩
theorem bKT {A B : Prop} {b : Bool} (hb : b = true) (hA : A) : BrB b A B := bS (fun _ => hA) (fun h => absurd h (by simp [hb]))
end Go.Proofs
