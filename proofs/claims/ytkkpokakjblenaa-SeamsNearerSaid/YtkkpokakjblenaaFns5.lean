/- What each function of this program answers, proved by walking its body: the contracts that the law rests on, part 5. -/
import Derived.Test.YtkkpokakjblenaaFns4
set_option linter.unusedSimpArgs false
set_option linter.unusedVariables false
set_option linter.unusedSectionVars false
namespace Go.Proofs
open Go.Eng
attribute [local irreducible] Go.Eng.brB Go.Eng.need Go.Eng.wrE Go.Eng.iaE Go.Eng.slE Go.Eng.apE Go.Eng.CallZ Go.Eng.CallE Go.Eng.VCallE Go.Eng.YldE Go.Eng.GoC Go.Eng.MeetsE Go.Eng.FnA Go.Eng.FnV Go.Eng.ItA
set_option maxRecDepth 100000
theorem lE_cases (f : Fig) : (f.hasB ∧ f.lE = 0) ∨ (¬ f.hasB ∧ f.lE = 3 ∧ f.lw = 0) := by
  by_cases hb : f.hasB
  · exact .inl ⟨hb, (lw_spec hb).1⟩
  · exact .inr ⟨hb, lw_no hb⟩
/-- SeamsWaste -/
theorem l11 (f : Fig) : FnA Try.prog 11 [.agg f.cells] (· = .bool true) := by
  have w := s20
  refine fnA 8 ok11 (by simp) ?_
  conv => whnf
  refine (s39 f).callq rfl rfl (fun r hr => ?_); obtain ⟨b, rfl, hb⟩ := hr
  cases b with
  | true =>
    (conv => whnf); (repeat' ((first | refine bT ?_ | refine bF ?_ | refine bN ?_ | ((first | refine bD ?_ ?_ | refine bEq ?_ ?_ | refine bNe ?_ ?_) <;> intro hh <;> try (exfalso; omega)) | (refine (w).callq rfl rfl fun _ h => ?_; subst h) | refine wIn (by omega) ?_ | refine nI (by omega) ?_) <;> conv => whnf))
    all_goals rfl
  | false =>
    obtain ⟨hs, _⟩ := hb rfl
    have e0 := s28o f hs
    have x1 := s35 f.st f.st (by have := hs.2.1; omega)
    rw [decide_eq_true rfl] at x1
    by_cases h0 : f.eF = 0
    · have a1 := s26 f h0
      have a2 := s40 f hs h0
      have a3 := s29 f h0
      have a4 := s41 f hs h0
      (conv => whnf); (repeat' ((first | refine bT ?_ | refine bF ?_ | refine bN ?_ | ((first | refine bD ?_ ?_ | refine bEq ?_ ?_ | refine bNe ?_ ?_) <;> intro hh <;> try (exfalso; omega)) | refine wIn (by omega) ?_ | refine nI (by omega) ?_) <;> conv => whnf))
      refine e0.callzq rfl rfl (fun r rows (hr : r = _ ∧ rows = _) => ?_); obtain ⟨hr1, hr2⟩ := hr; subst hr1; subst hr2; refine ⟨rfl, ?_⟩
      (conv => whnf); (repeat' ((first | refine bT ?_ | refine bF ?_ | refine bN ?_ | ((first | refine bD ?_ ?_ | refine bEq ?_ ?_ | refine bNe ?_ ?_) <;> intro hh <;> try (exfalso; omega)) | (refine (a1).lendq rfl fun _ h => ?_; subst h; refine ⟨rfl, ?_⟩) | (refine (a2).callq rfl rfl fun _ h => ?_; subst h) | (refine (a3).lendq rfl fun _ h => ?_; subst h; refine ⟨rfl, ?_⟩) | (refine (a4).callq rfl rfl fun _ h => ?_; subst h) | (refine (x1).lendq rfl fun _ h => ?_; subst h; refine ⟨rfl, ?_⟩) | (refine (w).callq rfl rfl fun _ h => ?_; subst h) | refine wIn (by omega) ?_ | refine nI (by omega) ?_) <;> conv => whnf))
      all_goals rfl
    · have a1 := s26_no f h0
      have a2 := s40_no f hs h0
      have a3 := s29_no f h0
      have a4 := s41_no f hs h0
      (conv => whnf); (repeat' ((first | refine bT ?_ | refine bF ?_ | refine bN ?_ | ((first | refine bD ?_ ?_ | refine bEq ?_ ?_ | refine bNe ?_ ?_) <;> intro hh <;> try (exfalso; omega)) | refine wIn (by omega) ?_ | refine nI (by omega) ?_) <;> conv => whnf))
      refine e0.callzq rfl rfl (fun r rows (hr : r = _ ∧ rows = _) => ?_); obtain ⟨hr1, hr2⟩ := hr; subst hr1; subst hr2; refine ⟨rfl, ?_⟩
      (conv => whnf); (repeat' ((first | refine bT ?_ | refine bF ?_ | refine bN ?_ | ((first | refine bD ?_ ?_ | refine bEq ?_ ?_ | refine bNe ?_ ?_) <;> intro hh <;> try (exfalso; omega)) | (refine (a1).lendq rfl fun _ h => ?_; subst h; refine ⟨rfl, ?_⟩) | (refine (a2).callq rfl rfl fun _ h => ?_; subst h) | (refine (a3).lendq rfl fun _ h => ?_; subst h; refine ⟨rfl, ?_⟩) | (refine (a4).callq rfl rfl fun _ h => ?_; subst h) | (refine (x1).lendq rfl fun _ h => ?_; subst h; refine ⟨rfl, ?_⟩) | (refine (w).callq rfl rfl fun _ h => ?_; subst h) | refine wIn (by omega) ?_ | refine nI (by omega) ?_) <;> conv => whnf))
      all_goals rfl
/-- SeamsBegin -/
theorem l12 (f : Fig) : FnA Try.prog 12 [.agg f.cells] (· = .bool true) := by
  have w := s20
  refine fnA 8 ok12 (by simp) ?_
  conv => whnf
  refine (s39 f).callq rfl rfl (fun r hr => ?_); obtain ⟨b, rfl, hb⟩ := hr
  cases b with
  | true =>
    (conv => whnf); (repeat' ((first | refine bT ?_ | refine bF ?_ | refine bN ?_ | ((first | refine bD ?_ ?_ | refine bEq ?_ ?_ | refine bNe ?_ ?_) <;> intro hh <;> try (exfalso; omega)) | (refine (w).callq rfl rfl fun _ h => ?_; subst h) | refine wIn (by omega) ?_ | refine nI (by omega) ?_) <;> conv => whnf))
    all_goals rfl
  | false =>
    obtain ⟨hs, _⟩ := hb rfl
    have e0 := s28o f hs
    by_cases h0 : f.eF = 0
    · have hok := (eF_ok h0).1
      have hp := hok.2.1
      have hN := N_in hok
      have a1 := s42 f h0
      have a2 := s40 f hs h0
      (conv => whnf); (repeat' ((first | refine bT ?_ | refine bF ?_ | refine bN ?_ | ((first | refine bD ?_ ?_ | refine bEq ?_ ?_ | refine bNe ?_ ?_) <;> intro hh <;> try (exfalso; omega)) | refine wIn (by omega) ?_ | refine nI (by omega) ?_) <;> conv => whnf))
      refine e0.callzq rfl rfl (fun r rows (hr : r = _ ∧ rows = _) => ?_); obtain ⟨hr1, hr2⟩ := hr; subst hr1; subst hr2; refine ⟨rfl, ?_⟩
      (conv => whnf); (repeat' ((first | refine bT ?_ | refine bF ?_ | refine bN ?_ | ((first | refine bD ?_ ?_ | refine bEq ?_ ?_ | refine bNe ?_ ?_) <;> intro hh <;> try (exfalso; omega)) | refine wIn (by omega) ?_ | refine nI (by omega) ?_) <;> conv => whnf))
      refine a1.callzq rfl rfl (fun r hr => ?_); obtain ⟨l, rfl, h1, h2⟩ := hr
      rcases lE_cases f with ⟨hb, hE⟩ | ⟨hb, hE, hW⟩
      · obtain ⟨h3, h4⟩ := h1 hb
        have hare := (are_iff hok l).1 h3
        have a3 := s27 f hok (eF_ok h0).2 l (by have := h3.1; omega)
        rw [decide_eq_true hare] at a3
        rw [hE] at a2 ⊢
        have ll : (l.map iAV).length = l.length := by simp
        have hl1 : l.length ≤ 16 := by have := h3.1; omega
        have hl2 : ∀ x ∈ l, 0 ≤ x ∧ x ≤ 60 := fun x hx => by have := h3.2.1 x hx; omega
        (conv => whnf); (repeat' ((first | refine bT ?_ | refine bF ?_ | refine bN ?_ | ((first | refine bD ?_ ?_ | refine bEq ?_ ?_ | refine bNe ?_ ?_) <;> intro hh <;> try (exfalso; omega)) | (refine (a2).callq rfl rfl fun _ h => ?_; subst h) | (refine (a3).callq rfl rfl fun _ h => ?_; subst h) | refine wIn (by omega) ?_ | refine nI (by omega) ?_) <;> conv => whnf))
        refine loop_i (α := Nat) (fun k => [(8, .int .i64 k), (7, .int .i64 (l.take k).sum), (5, .int .i64 f.lw), (3, .isl (l.map iAV))]) (fun k => [.fresh, .fresh, .fresh, .fresh, .fresh, .fresh, .fresh, .fresh]) (fun k => k ≤ l.length) (fun k => l.length - k) 0 (meets_id (by (repeat' apply And.intro) <;> first | rfl | exact True.intro | (intro hh; cases hh))) (by omega) ?_
        intro k hk0
        conv => whnf
        refine bD (fun h4 => ?_) (fun h4 => ?_)
        · have hk : k < l.length := by omega
          have hx := hl2 _ (List.getElem_mem hk)
          have hsu := sum_in2 (l := l.take k) (a := 0) (b := 60) fun x hx => hl2 x (List.mem_of_mem_take hx)
          have hlt : (l.take k).length ≤ 16 := by rw [List.length_take]; omega
          have hss := sum_succ hk
          conv => whnf
          refine iaI (by omega) (by omega) (getD_map iAV l k hk) ?_
          (conv => whnf); (repeat' ((first | refine bT ?_ | refine bF ?_ | refine bN ?_ | ((first | refine bD ?_ ?_ | refine bEq ?_ ?_ | refine bNe ?_ ?_) <;> intro hh <;> try (exfalso; omega)) | refine wIn (by omega) ?_ | refine nI (by omega) ?_) <;> conv => whnf))
          refine ⟨k + 1, ?_, by omega, by omega⟩
          rw [hss]
          exact (meets_id (by (repeat' apply And.intro) <;> first | rfl | exact True.intro | (intro hh; cases hh)))
        · have : k = l.length := by omega
          subst this
          rw [List.take_length, (h1 hb).2]
          (conv => whnf); (repeat' ((first | refine bT ?_ | refine bF ?_ | refine bN ?_ | ((first | refine bD ?_ ?_ | refine bEq ?_ ?_ | refine bNe ?_ ?_) <;> intro hh <;> try (exfalso; omega)) | (refine (w).callq rfl rfl fun _ h => ?_; subst h) | refine wIn (by omega) ?_ | refine nI (by omega) ?_) <;> conv => whnf))
          all_goals rfl
      · obtain rfl := h2 hb
        rw [hE, hW] at a2
        rw [hE]
        have hz : ((([] : List Int).map iAV).length : Int) = 0 := rfl
        (conv => whnf); (repeat' ((first | refine bT ?_ | refine bF ?_ | refine bN ?_ | ((first | refine bD ?_ ?_ | refine bEq ?_ ?_ | refine bNe ?_ ?_) <;> intro hh <;> try (exfalso; omega)) | (refine (a2).callq rfl rfl fun _ h => ?_; subst h) | (refine (w).callq rfl rfl fun _ h => ?_; subst h) | refine wIn (by omega) ?_ | refine nI (by omega) ?_) <;> conv => whnf))
        all_goals rfl
    · have h3 := eF_3 f
      have a1 := s42_no f h0
      have a2 := s40_no f hs h0
      (conv => whnf); (repeat' ((first | refine bT ?_ | refine bF ?_ | refine bN ?_ | ((first | refine bD ?_ ?_ | refine bEq ?_ ?_ | refine bNe ?_ ?_) <;> intro hh <;> try (exfalso; omega)) | refine wIn (by omega) ?_ | refine nI (by omega) ?_) <;> conv => whnf))
      refine e0.callzq rfl rfl (fun r rows (hr : r = _ ∧ rows = _) => ?_); obtain ⟨hr1, hr2⟩ := hr; subst hr1; subst hr2; refine ⟨rfl, ?_⟩
      (conv => whnf); (repeat' ((first | refine bT ?_ | refine bF ?_ | refine bN ?_ | ((first | refine bD ?_ ?_ | refine bEq ?_ ?_ | refine bNe ?_ ?_) <;> intro hh <;> try (exfalso; omega)) | (refine (a1).callzq rfl rfl fun _ h => ?_; subst h) | (refine (a2).callq rfl rfl fun _ h => ?_; subst h) | (refine (w).callq rfl rfl fun _ h => ?_; subst h) | refine wIn (by omega) ?_ | refine nI (by omega) ?_) <;> conv => whnf))
      all_goals rfl
theorem bad_nil {f : Fig} (hok : f.ok) : f.bad = [] ↔ f.areB f.st := by
  have hst : f.st.length = f.N := hok.2.2.2.2.1
  constructor
  · intro h
    refine ⟨hst, st_x hok, fun i hi x hx => ?_⟩
    rw [mbL_st]
    refine mv_1.1 ?_ x hx
    by_cases hm : f.mv i = 1
    · exact hm
    · have := (mem_bad hi).2 hm
      rw [h] at this; cases this
  · intro h
    refine List.eq_nil_iff_forall_not_mem.2 fun x hx => ?_
    obtain ⟨i, hi, rfl⟩ := bad_in hx
    refine (mem_bad hi).1 hx (mv_1.2 fun x hx => ?_)
    have := h.2.2 i hi x hx
    rwa [mbL_st] at this
/-- SeamsLess -/
theorem l4 (f : Fig) (l : List Int) : FnA Try.prog 4 [.agg f.cells, .isl (l.map iAV)] (· = .bool true) := by
  have w := s20
  have ll : (l.map iAV).length = l.length := by simp
  refine fnA 2 ok4 (by simp) ?_
  conv => whnf
  refine (s25 f).callq rfl rfl (fun r hr => ?_); obtain ⟨b, rfl, hb⟩ := hr
  cases b with
  | false =>
    (conv => whnf); (repeat' ((first | refine bT ?_ | refine bF ?_ | refine bN ?_ | ((first | refine bD ?_ ?_ | refine bEq ?_ ?_ | refine bNe ?_ ?_) <;> intro hh <;> try (exfalso; omega)) | (refine (w).callq rfl rfl fun _ h => ?_; subst h) | refine wIn (by omega) ?_ | refine nI (by omega) ?_) <;> conv => whnf))
    all_goals rfl
  | true =>
    obtain ⟨hs, h0, _⟩ := hb rfl
    obtain ⟨hok, hh⟩ := eF_ok h0
    have hp := hok.2.1
    have hN := N_in hok
    by_cases hl : l.length ≤ 20
    case neg =>
      (conv => whnf); (repeat' ((first | refine bT ?_ | refine bF ?_ | refine bN ?_ | ((first | refine bD ?_ ?_ | refine bEq ?_ ?_ | refine bNe ?_ ?_) <;> intro hh <;> try (exfalso; omega)) | (refine (w).callq rfl rfl fun _ h => ?_; subst h) | refine wIn (by omega) ?_ | refine nI (by omega) ?_) <;> conv => whnf))
      all_goals rfl
    have a1 := s26 f h0
    have a2 := s22 f h0
    have a3 := s27 f hok hh f.st (by have := hs.2.1; omega)
    have a4 := s27 f hok hh l (by omega)
    have hbl : (f.bad.map iAV).length = f.bad.length := by simp
    have hnil : f.bad.length = 0 ↔ f.areB f.st := by rw [← bad_nil hok, List.length_eq_zero_iff]
    have hst : decide (f.areB f.st) = decide ((f.bad.map iAV).length = 0) := decide_eq_decide.2 (by rw [hbl, hnil])
    have key : ∀ (c : Bool), decide ((f.bad.map iAV).length = 0) = c → FnA Try.prog 27 [.agg f.cells, .isl (f.st.map iAV)] (· = .bool c) := fun c hc => by rw [hst, hc] at a3; exact a3
    by_cases hare : f.areB l
    · have hbB := (are_iff hok l).2 hare
      have hspec := lw_spec ⟨l, hbB⟩
      have hle := hspec.2.2 l hbB
      obtain ⟨l0, hl0, hs0⟩ := hspec.2.1
      have h00 := are_sum hok ((are_iff hok l0).1 hl0)
      rw [decide_eq_true hare] at a4
      rw [hspec.1] at a1
      have hlx : ∀ x ∈ l, 0 ≤ x ∧ x ≤ 60 := fun x hx => by have := hare.2.1 x hx; omega
      have loop : ∀ (c : Bool), decide ((f.bad.map iAV).length = 0) = c → True := fun _ _ => True.intro
      by_cases hc : (f.bad.map iAV).length = 0
      · have a3 := key true (decide_eq_true hc)
        (conv => whnf); (repeat' ((first | refine bT ?_ | refine bF ?_ | refine bN ?_ | ((first | refine bD ?_ ?_ | refine bEq ?_ ?_ | refine bNe ?_ ?_) <;> intro hh <;> try (exfalso; omega)) | (refine (a1).callq rfl rfl fun _ h => ?_; subst h) | (refine (a2).callzq rfl rfl fun _ h => ?_; subst h) | (refine (a3).callq rfl rfl fun _ h => ?_; subst h) | (refine (a4).callq rfl rfl fun _ h => ?_; subst h) | refine wIn (by omega) ?_ | refine nI (by omega) ?_) <;> conv => whnf))
        any_goals (exfalso; simp only [Bool.not_eq_false, beq_iff_eq] at hh; omega)
        refine loop_i (α := Nat) (fun k => [(10, .int .i64 k), (9, .int .i64 (l.take k).sum), (6, .int .i64 0), (5, .int .i64 f.lw), (1, .isl (l.map iAV))]) (fun k => [.fresh, .fresh]) (fun k => k ≤ l.length) (fun k => l.length - k) 0 (meets_id (by (repeat' apply And.intro) <;> first | rfl | exact True.intro | (intro hh; cases hh))) (by omega) ?_
        intro k hk0
        conv => whnf
        refine bD (fun h4 => ?_) (fun h4 => ?_)
        · have hk : k < l.length := by omega
          have hx := hlx _ (List.getElem_mem hk)
          have hsu := sum_in2 (l := l.take k) (a := 0) (b := 60) fun x hx => hlx x (List.mem_of_mem_take hx)
          have hlt : (l.take k).length ≤ 20 := by rw [List.length_take]; omega
          have hss := sum_succ hk
          conv => whnf
          refine iaI (by omega) (by omega) (getD_map iAV l k hk) ?_
          (conv => whnf); (repeat' ((first | refine bT ?_ | refine bF ?_ | refine bN ?_ | ((first | refine bD ?_ ?_ | refine bEq ?_ ?_ | refine bNe ?_ ?_) <;> intro hh <;> try (exfalso; omega)) | refine wIn (by omega) ?_ | refine nI (by omega) ?_) <;> conv => whnf))
          refine ⟨k + 1, ?_, by omega, by omega⟩
          rw [hss]
          exact (meets_id (by (repeat' apply And.intro) <;> first | rfl | exact True.intro | (intro hh; cases hh)))
        · have : k = l.length := by omega
          subst this
          rw [List.take_length]
          (conv => whnf); (repeat' ((first | refine bT ?_ | refine bF ?_ | refine bN ?_ | ((first | refine bD ?_ ?_ | refine bEq ?_ ?_ | refine bNe ?_ ?_) <;> intro hh <;> try (exfalso; omega)) | (refine (w).callq rfl rfl fun _ h => ?_; subst h) | refine wIn (by omega) ?_ | refine nI (by omega) ?_) <;> conv => whnf))
          all_goals rfl
      · have a3 := key false (decide_eq_false hc)
        (conv => whnf); (repeat' ((first | refine bT ?_ | refine bF ?_ | refine bN ?_ | ((first | refine bD ?_ ?_ | refine bEq ?_ ?_ | refine bNe ?_ ?_) <;> intro hh <;> try (exfalso; omega)) | (refine (a1).callq rfl rfl fun _ h => ?_; subst h) | (refine (a2).callzq rfl rfl fun _ h => ?_; subst h) | (refine (a3).callq rfl rfl fun _ h => ?_; subst h) | (refine (a4).callq rfl rfl fun _ h => ?_; subst h) | refine wIn (by omega) ?_ | refine nI (by omega) ?_) <;> conv => whnf))
        any_goals (exfalso; simp only [Bool.not_eq_false, beq_iff_eq] at hh; omega)
        refine loop_i (α := Nat) (fun k => [(10, .int .i64 k), (9, .int .i64 (l.take k).sum), (6, .int .i64 0), (5, .int .i64 f.lw), (1, .isl (l.map iAV))]) (fun k => [.fresh, .fresh]) (fun k => k ≤ l.length) (fun k => l.length - k) 0 (meets_id (by (repeat' apply And.intro) <;> first | rfl | exact True.intro | (intro hh; cases hh))) (by omega) ?_
        intro k hk0
        conv => whnf
        refine bD (fun h4 => ?_) (fun h4 => ?_)
        · have hk : k < l.length := by omega
          have hx := hlx _ (List.getElem_mem hk)
          have hsu := sum_in2 (l := l.take k) (a := 0) (b := 60) fun x hx => hlx x (List.mem_of_mem_take hx)
          have hlt : (l.take k).length ≤ 20 := by rw [List.length_take]; omega
          have hss := sum_succ hk
          conv => whnf
          refine iaI (by omega) (by omega) (getD_map iAV l k hk) ?_
          (conv => whnf); (repeat' ((first | refine bT ?_ | refine bF ?_ | refine bN ?_ | ((first | refine bD ?_ ?_ | refine bEq ?_ ?_ | refine bNe ?_ ?_) <;> intro hh <;> try (exfalso; omega)) | refine wIn (by omega) ?_ | refine nI (by omega) ?_) <;> conv => whnf))
          refine ⟨k + 1, ?_, by omega, by omega⟩
          rw [hss]
          exact (meets_id (by (repeat' apply And.intro) <;> first | rfl | exact True.intro | (intro hh; cases hh)))
        · have : k = l.length := by omega
          subst this
          rw [List.take_length]
          (conv => whnf); (repeat' ((first | refine bT ?_ | refine bF ?_ | refine bN ?_ | ((first | refine bD ?_ ?_ | refine bEq ?_ ?_ | refine bNe ?_ ?_) <;> intro hh <;> try (exfalso; omega)) | (refine (w).callq rfl rfl fun _ h => ?_; subst h) | refine wIn (by omega) ?_ | refine nI (by omega) ?_) <;> conv => whnf))
          all_goals rfl
    · rw [decide_eq_false hare] at a4
      by_cases hc : (f.bad.map iAV).length = 0
      · have a3 := key true (decide_eq_true hc)
        rcases lE_cases f with ⟨hb, hE⟩ | ⟨hb, hE, hW⟩
        · rw [hE] at a1
          (conv => whnf); (repeat' ((first | refine bT ?_ | refine bF ?_ | refine bN ?_ | ((first | refine bD ?_ ?_ | refine bEq ?_ ?_ | refine bNe ?_ ?_) <;> intro hh <;> try (exfalso; omega)) | (refine (a1).callq rfl rfl fun _ h => ?_; subst h) | (refine (a2).callzq rfl rfl fun _ h => ?_; subst h) | (refine (a3).callq rfl rfl fun _ h => ?_; subst h) | (refine (a4).callq rfl rfl fun _ h => ?_; subst h) | (refine (w).callq rfl rfl fun _ h => ?_; subst h) | refine wIn (by omega) ?_ | refine nI (by omega) ?_) <;> conv => whnf))
          all_goals first | rfl | (exfalso; simp only [Bool.not_eq_false, beq_iff_eq] at hh; omega)
        · rw [hE] at a1
          (conv => whnf); (repeat' ((first | refine bT ?_ | refine bF ?_ | refine bN ?_ | ((first | refine bD ?_ ?_ | refine bEq ?_ ?_ | refine bNe ?_ ?_) <;> intro hh <;> try (exfalso; omega)) | (refine (a1).callq rfl rfl fun _ h => ?_; subst h) | (refine (a2).callzq rfl rfl fun _ h => ?_; subst h) | (refine (a3).callq rfl rfl fun _ h => ?_; subst h) | (refine (a4).callq rfl rfl fun _ h => ?_; subst h) | (refine (w).callq rfl rfl fun _ h => ?_; subst h) | refine wIn (by omega) ?_ | refine nI (by omega) ?_) <;> conv => whnf))
          all_goals first | rfl | (exfalso; simp only [Bool.not_eq_false, beq_iff_eq] at hh; omega)
      · have a3 := key false (decide_eq_false hc)
        rcases lE_cases f with ⟨hb, hE⟩ | ⟨hb, hE, hW⟩
        · rw [hE] at a1
          (conv => whnf); (repeat' ((first | refine bT ?_ | refine bF ?_ | refine bN ?_ | ((first | refine bD ?_ ?_ | refine bEq ?_ ?_ | refine bNe ?_ ?_) <;> intro hh <;> try (exfalso; omega)) | (refine (a1).callq rfl rfl fun _ h => ?_; subst h) | (refine (a2).callzq rfl rfl fun _ h => ?_; subst h) | (refine (a3).callq rfl rfl fun _ h => ?_; subst h) | (refine (a4).callq rfl rfl fun _ h => ?_; subst h) | (refine (w).callq rfl rfl fun _ h => ?_; subst h) | refine wIn (by omega) ?_ | refine nI (by omega) ?_) <;> conv => whnf))
          all_goals first | rfl | (exfalso; simp only [Bool.not_eq_false, beq_iff_eq] at hh; omega)
        · rw [hE] at a1
          (conv => whnf); (repeat' ((first | refine bT ?_ | refine bF ?_ | refine bN ?_ | ((first | refine bD ?_ ?_ | refine bEq ?_ ?_ | refine bNe ?_ ?_) <;> intro hh <;> try (exfalso; omega)) | (refine (a1).callq rfl rfl fun _ h => ?_; subst h) | (refine (a2).callzq rfl rfl fun _ h => ?_; subst h) | (refine (a3).callq rfl rfl fun _ h => ?_; subst h) | (refine (a4).callq rfl rfl fun _ h => ?_; subst h) | (refine (w).callq rfl rfl fun _ h => ?_; subst h) | refine wIn (by omega) ?_ | refine nI (by omega) ?_) <;> conv => whnf))
          all_goals first | rfl | (exfalso; simp only [Bool.not_eq_false, beq_iff_eq] at hh; omega)
theorem bad_mono {f : Fig} (hok : f.ok) {k : Int} (hk : f.near ≤ k) {x : Int} (h : x ∈ (f.atN k).bad) : x ∈ f.bad := by
  obtain ⟨i, hi, rfl⟩ := bad_in h
  have h1 := (mem_bad (f := f.atN k) hi).1 h
  refine (mem_bad (f := f) hi).2 fun h2 => h1 (mv_1.2 fun x hx => ?_)
  have := mv_1.1 h2 x hx
  unfold Fig.mb at this ⊢
  simp only [decide_eq_true_eq] at this ⊢
  exact Int.le_trans this hk
theorem atN_sumL (f : Fig) (k n : Int) : ∀ g, (f.atN k).sumL n g = f.sumL n g
  | 0 => rfl
  | g + 1 => by simp only [Fig.sumL, atN_sumL f k n g]; rfl
theorem atN_clo (f : Fig) (k n : Int) : (f.atN k).clo n = f.clo n := by
  unfold Fig.clo
  rw [atN_sumL]; rfl
theorem atN_clst (f : Fig) (k : Int) : (f.atN k).clst = f.clst := by
  unfold Fig.clst
  have : (fun j : Nat => (f.atN k).clo j) = fun j : Nat => f.clo j := funext fun j => atN_clo f k j
  rw [this]; rfl
/-- SeamsNearer -/
theorem l5 (f : Fig) (more : Int) : FnA Try.prog 5 [.agg f.cells, .int .i64 more] (· = .bool true) := by
  have w := s20
  refine fnA 10 ok5 (by simp) ?_
  conv => whnf
  refine (s25 f).callq rfl rfl (fun r hr => ?_); obtain ⟨b, rfl, hb⟩ := hr
  cases b with
  | false =>
    (conv => whnf); (repeat' ((first | refine bT ?_ | refine bF ?_ | refine bN ?_ | ((first | refine bD ?_ ?_ | refine bEq ?_ ?_ | refine bNe ?_ ?_) <;> intro hh <;> try (exfalso; omega)) | (refine (w).callq rfl rfl fun _ h => ?_; subst h) | refine wIn (by omega) ?_ | refine nI (by omega) ?_) <;> conv => whnf))
    all_goals rfl
  | true =>
    obtain ⟨hs, h0, _⟩ := hb rfl
    obtain ⟨hok, hh⟩ := eF_ok h0
    have hp := hok.2.1
    have hN := N_in hok
    have hnr := hok.2.2.2.1
    have hq : 0 ≤ f.per.tdiv 2 ∧ f.per.tdiv 2 ≤ 60 := by rw [Int.tdiv_eq_ediv_of_nonneg (by omega)]; omega
    by_cases hm : 0 ≤ more ∧ more ≤ 60
    case neg =>
      (conv => whnf); (repeat' ((first | refine bT ?_ | refine bF ?_ | refine bN ?_ | ((first | refine bD ?_ ?_ | refine bEq ?_ ?_ | refine bNe ?_ ?_) <;> intro hh <;> try (exfalso; omega)) | (refine (w).callq rfl rfl fun _ h => ?_; subst h) | refine wIn (by omega) ?_ | refine nI (by omega) ?_) <;> conv => whnf))
      all_goals rfl
    have hk : ∃ k, k = min (f.per.tdiv 2) (f.near + more) := ⟨_, rfl⟩
    obtain ⟨k, hk⟩ := hk
    have hkb : f.near ≤ k ∧ 0 ≤ k ∧ k ≤ f.per.tdiv 2 := by omega
    have hoko := atN_ok hok (k := k) ⟨by omega, by omega⟩
    have h0o : (f.atN k).eF = 0 := by unfold Fig.eF; rw [if_pos hoko, if_pos (show (f.atN k).d.has = true from hh)]
    have e0 := s28o f hs
    have a1 := s26 f h0
    have a2 := s26 (f.atN k) h0o
    have a3 := s29 f h0
    have a4 := s29 (f.atN k) h0o
    have a5 := s22 f h0
    have a6 := s22 (f.atN k) h0o
    have hc := atN_clst f k
    rw [hc] at a4
    obtain ⟨hcl, _, _⟩ := clst_spec hok
    have hn1 := near_iff hok
    have hn2 := near_iff hoko
    rw [hc] at hn2
    have hn2' : (f.atN k).lE = 0 ↔ f.clst ≤ k := hn2
    have hbl : f.bad.length ≤ 1000000 := by have := badN_le f f.d.gs.length; unfold Fig.bad; have : f.d.gs.length = f.N := rfl; omega
    have hbad : ∀ x ∈ (f.atN k).bad, FnA Try.prog 23 [.isl (f.bad.map iAV), .int .i64 x] (· = .bool true) := fun x hx => by
      have := s23 f.bad x hbl
      rwa [decide_eq_true (bad_mono hok hkb.1 hx)] at this
    have hol : (f.atN k).bad.length ≤ 1000000 := by have := badN_le (f.atN k) f.d.gs.length; have h2 : (f.atN k).bad = (f.atN k).badN f.d.gs.length := rfl; rw [h2]; have : f.d.gs.length = f.N := rfl; omega
    generalize hob : (f.atN k).bad = ob at *
    have lo : (ob.map iAV).length = ob.length := by simp
    have hcells : (f.atN k).cells = f.d.cells ++ [.int .i64 f.per, .int .i64 f.run, .int .i64 (if false = true then max (f.per.tdiv 2) (f.near + more) else min (f.per.tdiv 2) (f.near + more)), .isl (f.st.map iAV), .isl (f.ti.map iAV)] := by rw [if_neg (by simp), ← hk]; rfl
    rw [hcells] at a2 a4 a6
    have hmin : (if false = true then max (f.per.tdiv 2) (f.near + more) else min (f.per.tdiv 2) (f.near + more)) = k := by rw [if_neg (by simp), hk]
    have hW : f.lE = 0 → (f.atN k).lw ≤ f.lw := fun hE => by
      rcases lE_cases f with ⟨hb, _⟩ | ⟨_, h3, _⟩
      · obtain ⟨l, h1, h2⟩ := (lw_spec hb).2.1
        have h3 := isB_mono hok hkb.1 h1
        have h4 : (f.atN k).isB (f.atN k).near l := h3
        have := (lw_spec ⟨l, h4⟩).2.2 l h4
        omega
      · omega
    have z0 : ((0 : Int) == 0) = true := rfl
    have z3 : ((3 : Int) == 0) = false := rfl
    rcases lE_cases f with ⟨hb1, hE1⟩ | ⟨hb1, hE1, hW1⟩
    · have hlen := hn1.1 hE1
      have hE2 := hn2'.2 (by omega)
      have hWW := hW hE1
      have d1 : decide (f.clst ≤ f.near) = true := decide_eq_true hlen
      have d2 : decide (f.clst ≤ k) = true := decide_eq_true (by omega)
      rw [hE1] at a1
      rw [hE2] at a2
      (conv => whnf); (repeat' ((first | refine bT ?_ | refine bF ?_ | refine bN ?_ | ((first | refine bD ?_ ?_ | refine bEq ?_ ?_ | refine bNe ?_ ?_) <;> intro hh <;> try (exfalso; omega)) | refine wIn (by omega) ?_ | refine nI (by omega) ?_) <;> conv => whnf))
      refine e0.callzq rfl rfl (fun r rows (hr : r = _ ∧ rows = _) => ?_); obtain ⟨hr1, hr2⟩ := hr; subst hr1; subst hr2; refine ⟨rfl, ?_⟩
      (conv => whnf); (repeat' ((first | refine bT ?_ | refine bF ?_ | refine bN ?_ | ((first | refine bD ?_ ?_ | refine bEq ?_ ?_ | refine bNe ?_ ?_) <;> intro hh <;> try (exfalso; omega)) | (refine (a1).callq rfl rfl fun _ h => ?_; subst h) | (refine (a2).lendq rfl fun _ h => ?_; subst h; refine ⟨rfl, ?_⟩) | (refine (a3).callq rfl rfl fun _ h => ?_; subst h) | (refine (a4).lendq rfl fun _ h => ?_; subst h; refine ⟨rfl, ?_⟩) | (refine (a5).callzq rfl rfl fun _ h => ?_; subst h) | (refine (a6).callzq rfl rfl fun _ h => ?_; subst h) | refine wIn (by omega) ?_ | refine nI (by omega) ?_) <;> conv => whnf))
      any_goals (exfalso; simp only [reduceCtorEq, if_false, ← hk, d1, d2, z0, z3, not_true_eq_false, not_false_eq_true] at hh; done)
      try any_goals (exfalso; omega)
      refine loop_i (α := Nat) (fun i => [(18, .int .i64 i), (16, .isl (ob.map iAV)), (14, .isl (f.bad.map iAV))]) (fun i => [.fresh, .fresh, .fresh, .fresh, .fresh, .fresh, .fresh, .fresh, .fresh, .fresh]) (fun i => i ≤ ob.length) (fun i => ob.length - i) 0 (meets_id (by (repeat' apply And.intro) <;> first | rfl | exact True.intro | (intro hh; cases hh))) (by omega) ?_
      intro i hi0
      conv => whnf
      refine bD (fun h4 => ?_) (fun h4 => ?_)
      · have hi : i < ob.length := by omega
        have e := hbad ob[i] (List.getElem_mem hi)
        conv => whnf
        refine iaI (by omega) (by omega) (getD_map iAV ob i hi) ?_
        (conv => whnf); (repeat' ((first | refine bT ?_ | refine bF ?_ | refine bN ?_ | ((first | refine bD ?_ ?_ | refine bEq ?_ ?_ | refine bNe ?_ ?_) <;> intro hh <;> try (exfalso; omega)) | (refine (e).callq rfl rfl fun _ h => ?_; subst h) | refine wIn (by omega) ?_ | refine nI (by omega) ?_) <;> conv => whnf))
        exact ⟨i + 1, (meets_id (by (repeat' apply And.intro) <;> first | rfl | exact True.intro | (intro hh; cases hh))), by omega, by omega⟩
      · (conv => whnf); (repeat' ((first | refine bT ?_ | refine bF ?_ | refine bN ?_ | ((first | refine bD ?_ ?_ | refine bEq ?_ ?_ | refine bNe ?_ ?_) <;> intro hh <;> try (exfalso; omega)) | (refine (w).callq rfl rfl fun _ h => ?_; subst h) | refine wIn (by omega) ?_ | refine nI (by omega) ?_) <;> conv => whnf))
        all_goals rfl
    · have hlen : ¬ f.clst ≤ f.near := fun h => by have := hn1.2 h; omega
      have d1 : decide (f.clst ≤ f.near) = false := decide_eq_false hlen
      rw [hE1] at a1
      by_cases hk2 : f.clst ≤ k
      · have hE2 := hn2'.2 hk2
        have d2 : decide (f.clst ≤ k) = true := decide_eq_true (by omega)
        rw [hE2] at a2
        (conv => whnf); (repeat' ((first | refine bT ?_ | refine bF ?_ | refine bN ?_ | ((first | refine bD ?_ ?_ | refine bEq ?_ ?_ | refine bNe ?_ ?_) <;> intro hh <;> try (exfalso; omega)) | refine wIn (by omega) ?_ | refine nI (by omega) ?_) <;> conv => whnf))
        refine e0.callzq rfl rfl (fun r rows (hr : r = _ ∧ rows = _) => ?_); obtain ⟨hr1, hr2⟩ := hr; subst hr1; subst hr2; refine ⟨rfl, ?_⟩
        (conv => whnf); (repeat' ((first | refine bT ?_ | refine bF ?_ | refine bN ?_ | ((first | refine bD ?_ ?_ | refine bEq ?_ ?_ | refine bNe ?_ ?_) <;> intro hh <;> try (exfalso; omega)) | (refine (a1).callq rfl rfl fun _ h => ?_; subst h) | (refine (a2).lendq rfl fun _ h => ?_; subst h; refine ⟨rfl, ?_⟩) | (refine (a3).callq rfl rfl fun _ h => ?_; subst h) | (refine (a4).lendq rfl fun _ h => ?_; subst h; refine ⟨rfl, ?_⟩) | (refine (a5).callzq rfl rfl fun _ h => ?_; subst h) | (refine (a6).callzq rfl rfl fun _ h => ?_; subst h) | refine wIn (by omega) ?_ | refine nI (by omega) ?_) <;> conv => whnf))
        any_goals (exfalso; simp only [reduceCtorEq, if_false, ← hk, d1, d2, z0, z3, not_true_eq_false, not_false_eq_true] at hh; done)
        try any_goals (exfalso; omega)
        refine loop_i (α := Nat) (fun i => [(18, .int .i64 i), (16, .isl (ob.map iAV)), (14, .isl (f.bad.map iAV))]) (fun i => [.fresh, .fresh, .fresh, .fresh, .fresh, .fresh, .fresh, .fresh, .fresh, .fresh]) (fun i => i ≤ ob.length) (fun i => ob.length - i) 0 (meets_id (by (repeat' apply And.intro) <;> first | rfl | exact True.intro | (intro hh; cases hh))) (by omega) ?_
        intro i hi0
        conv => whnf
        refine bD (fun h4 => ?_) (fun h4 => ?_)
        · have hi : i < ob.length := by omega
          have e := hbad ob[i] (List.getElem_mem hi)
          conv => whnf
          refine iaI (by omega) (by omega) (getD_map iAV ob i hi) ?_
          (conv => whnf); (repeat' ((first | refine bT ?_ | refine bF ?_ | refine bN ?_ | ((first | refine bD ?_ ?_ | refine bEq ?_ ?_ | refine bNe ?_ ?_) <;> intro hh <;> try (exfalso; omega)) | (refine (e).callq rfl rfl fun _ h => ?_; subst h) | refine wIn (by omega) ?_ | refine nI (by omega) ?_) <;> conv => whnf))
          exact ⟨i + 1, (meets_id (by (repeat' apply And.intro) <;> first | rfl | exact True.intro | (intro hh; cases hh))), by omega, by omega⟩
        · (conv => whnf); (repeat' ((first | refine bT ?_ | refine bF ?_ | refine bN ?_ | ((first | refine bD ?_ ?_ | refine bEq ?_ ?_ | refine bNe ?_ ?_) <;> intro hh <;> try (exfalso; omega)) | (refine (w).callq rfl rfl fun _ h => ?_; subst h) | refine wIn (by omega) ?_ | refine nI (by omega) ?_) <;> conv => whnf))
          all_goals rfl
      · have hE2 : (f.atN k).lE = 3 := by
          rcases lE_cases (f.atN k) with ⟨_, h⟩ | ⟨_, h, _⟩
          · exact absurd (hn2'.1 h) hk2
          · exact h
        have d2 : decide (f.clst ≤ k) = false := decide_eq_false (by omega)
        rw [hE2] at a2
        (conv => whnf); (repeat' ((first | refine bT ?_ | refine bF ?_ | refine bN ?_ | ((first | refine bD ?_ ?_ | refine bEq ?_ ?_ | refine bNe ?_ ?_) <;> intro hh <;> try (exfalso; omega)) | refine wIn (by omega) ?_ | refine nI (by omega) ?_) <;> conv => whnf))
        refine e0.callzq rfl rfl (fun r rows (hr : r = _ ∧ rows = _) => ?_); obtain ⟨hr1, hr2⟩ := hr; subst hr1; subst hr2; refine ⟨rfl, ?_⟩
        (conv => whnf); (repeat' ((first | refine bT ?_ | refine bF ?_ | refine bN ?_ | ((first | refine bD ?_ ?_ | refine bEq ?_ ?_ | refine bNe ?_ ?_) <;> intro hh <;> try (exfalso; omega)) | (refine (a1).callq rfl rfl fun _ h => ?_; subst h) | (refine (a2).lendq rfl fun _ h => ?_; subst h; refine ⟨rfl, ?_⟩) | (refine (a3).callq rfl rfl fun _ h => ?_; subst h) | (refine (a4).lendq rfl fun _ h => ?_; subst h; refine ⟨rfl, ?_⟩) | (refine (a5).callzq rfl rfl fun _ h => ?_; subst h) | (refine (a6).callzq rfl rfl fun _ h => ?_; subst h) | refine wIn (by omega) ?_ | refine nI (by omega) ?_) <;> conv => whnf))
        any_goals (exfalso; simp only [reduceCtorEq, if_false, ← hk, d1, d2, z0, z3, not_true_eq_false, not_false_eq_true] at hh; done)
        try any_goals (exfalso; omega)
        refine loop_i (α := Nat) (fun i => [(18, .int .i64 i), (16, .isl (ob.map iAV)), (14, .isl (f.bad.map iAV))]) (fun i => [.fresh, .fresh, .fresh, .fresh, .fresh, .fresh, .fresh, .fresh, .fresh, .fresh]) (fun i => i ≤ ob.length) (fun i => ob.length - i) 0 (meets_id (by (repeat' apply And.intro) <;> first | rfl | exact True.intro | (intro hh; cases hh))) (by omega) ?_
        intro i hi0
        conv => whnf
        refine bD (fun h4 => ?_) (fun h4 => ?_)
        · have hi : i < ob.length := by omega
          have e := hbad ob[i] (List.getElem_mem hi)
          conv => whnf
          refine iaI (by omega) (by omega) (getD_map iAV ob i hi) ?_
          (conv => whnf); (repeat' ((first | refine bT ?_ | refine bF ?_ | refine bN ?_ | ((first | refine bD ?_ ?_ | refine bEq ?_ ?_ | refine bNe ?_ ?_) <;> intro hh <;> try (exfalso; omega)) | (refine (e).callq rfl rfl fun _ h => ?_; subst h) | refine wIn (by omega) ?_ | refine nI (by omega) ?_) <;> conv => whnf))
          exact ⟨i + 1, (meets_id (by (repeat' apply And.intro) <;> first | rfl | exact True.intro | (intro hh; cases hh))), by omega, by omega⟩
        · (conv => whnf); (repeat' ((first | refine bT ?_ | refine bF ?_ | refine bN ?_ | ((first | refine bD ?_ ?_ | refine bEq ?_ ?_ | refine bNe ?_ ?_) <;> intro hh <;> try (exfalso; omega)) | (refine (w).callq rfl rfl fun _ h => ?_; subst h) | refine wIn (by omega) ?_ | refine nI (by omega) ?_) <;> conv => whnf))
          all_goals rfl
end Go.Proofs
