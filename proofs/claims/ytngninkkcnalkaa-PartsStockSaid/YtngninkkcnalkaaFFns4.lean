/- What each function of this program answers, proved by walking its body: the contracts that the law rests on, part 4. -/
import Derived.Test.YtngninkkcnalkaaFFns3
set_option linter.unusedSimpArgs false
set_option linter.unusedVariables false
set_option linter.unusedSectionVars false
namespace Go.Proofs
open Go.Eng
attribute [local irreducible] Go.Eng.brB Go.Eng.need Go.Eng.wrE Go.Eng.iaE Go.Eng.slE Go.Eng.apE Go.Eng.CallZ Go.Eng.CallE Go.Eng.VCallE Go.Eng.YldE Go.Eng.GoC Go.Eng.MeetsE Go.Eng.FnA Go.Eng.FnV Go.Eng.ItA Go.Eng.ItM
set_option maxRecDepth 100000
def dd1 (own : List Nat) (b : Nat) : List Nat := if b ∈ own then own else own ++ [b]
/-- all that a spare can fit of a make -/
def Shop.ownK (w : Shop) (m i : Int) (k : Nat) : List Nat := ((w.allL i).take k).foldl (fun own n => dd1 own (w.cov i n m (w.slots m).length)) []
def Shop.own (w : Shop) (m i : Int) : List Nat := w.ownK m i (w.allL i).length
theorem mem_needK {w : Shop} {f : List Int} : ∀ {n : Nat}, f ∈ w.needK n ↔ ∃ m, m < n ∧ ∃ s, s < (w.slots (m : Nat)).length ∧ w.sures (m : Nat) (s : Nat) = f
  | 0 => by simp [Shop.needK]
  | n + 1 => by
    simp only [Shop.needK, List.mem_append, mem_needK (n := n), Shop.needM, List.mem_map, List.mem_range, Shop.sl]
    constructor
    · rintro (⟨m, a, b⟩ | ⟨s, a, b⟩)
      · exact ⟨m, by omega, b⟩
      · exact ⟨n, by omega, s, a, b⟩
    · rintro ⟨m, a, s, b, c⟩
      by_cases e : m = n
      · subst e; exact .inr ⟨s, b, c⟩
      · exact .inl ⟨m, by omega, s, b, c⟩
theorem sub_sp {w : Shop} {b : Nat} : ∀ x ∈ w.sub b, w.isSp x = true := fun x hx => isSp_iff.2 (by have := (mem_numF.1 hx).1; omega)
theorem good_sure {w : Shop} {l : List Int} (hsp : ∀ x ∈ l, w.isSp x = true) : w.good l = true ↔ ∀ m, m < w.mks.length → ∀ s, s < (w.slots (m : Nat)).length → ∃ x ∈ l, w.sure x (m : Nat) (s : Nat) = true := by
  unfold Shop.good Shop.needs
  simp only [List.all_eq_true, List.any_eq_true, decide_eq_true_eq]
  constructor
  · intro h m hm s hs
    obtain ⟨x, hx, h2⟩ := h _ (mem_needK.2 ⟨m, hm, s, hs, rfl⟩)
    exact ⟨x, hx, (mem_numF.1 h2).2⟩
  · intro h f hf
    obtain ⟨m, hm, s, hs, rfl⟩ := mem_needK.1 hf
    obtain ⟨x, hx, h2⟩ := h m hm s hs
    have := isSp_iff.1 (hsp x hx)
    exact ⟨x, hx, mem_numF.2 ⟨by omega, h2⟩⟩
theorem eF_3 {w : Shop} (h0 : w.eO true = 0) : w.eF = 0 ∨ w.eF = 3 := by
  unfold Shop.eF
  rw [if_neg (by simpa using h0)]
  split
  · exact .inr rfl
  · exact .inl rfl
/-- two shops that agree on the spares, makes and slots that both have -/
structure Agree (w v : Shop) : Prop where
  can : ∀ x, w.isSp x = true → v.isSp x = true → ∀ n, w.can x n = v.can x n
  fit : ∀ x, w.isSp x = true → v.isSp x = true → ∀ m s, w.isSl m s = true → v.isSl m s = true → ∀ n, w.fit x n m s = v.fit x n m s
theorem Agree.symm {w v : Shop} (h : Agree w v) : Agree v w := ⟨fun x a b n => (h.can x b a n).symm, fun x a b m s c d n => (h.fit x b a m s d c n).symm⟩
theorem Agree.sure {w v : Shop} (h : Agree w v) (h0 : w.eO true = 0) (h0' : v.eO true = 0) {x m s : Int} (a : w.isSp x = true) (b : v.isSp x = true) (c : w.isSl m s = true) (d : v.isSl m s = true) : w.sure x m s = v.sure x m s := by
  have hk := chk_ok (chk_0 h0)
  have hk' := chk_ok (chk_0 h0')
  unfold Shop.sure
  rw [Bool.eq_iff_iff, beq_iff_eq, beq_iff_eq, fits_1 hk a c (can_ex h0 a), fits_1 hk' b d (can_ex h0' b)]
  constructor
  · intro hh n hn
    rw [← h.can x a b] at hn
    rw [← h.fit x a b m s c d]; exact hh n hn
  · intro hh n hn
    rw [h.can x a b] at hn
    rw [h.fit x a b m s c d]; exact hh n hn
theorem Agree.good {w v : Shop} (h : Agree w v) (h0 : w.eO true = 0) (h0' : v.eO true = 0) (hm : ∀ m : Nat, m < v.mks.length → m < w.mks.length ∧ v.slots (m : Nat) = w.slots (m : Nat)) {l : List Int} (a : ∀ x ∈ l, w.isSp x = true) (b : ∀ x ∈ l, v.isSp x = true) (hg : w.good l = true) : v.good l = true := by
  rw [good_sure b]
  rw [good_sure a] at hg
  intro m hmv s hs
  obtain ⟨m1, m2⟩ := hm m hmv
  rw [m2] at hs
  obtain ⟨x, hx, hsu⟩ := hg m m1 s hs
  refine ⟨x, hx, ?_⟩
  have c : w.isSl (m : Nat) (s : Nat) = true := isSl_iff.2 ⟨isMk_iff.2 (by omega), by omega, by omega⟩
  have d : v.isSl (m : Nat) (s : Nat) = true := isSl_iff.2 ⟨isMk_iff.2 (by omega), by omega, by rw [m2]; omega⟩
  rw [← h.sure h0 h0' (a x hx) (b x hx) c d]; exact hsu
def Shop.more (w : Shop) (s : Spare) : Shop := { w with sps := w.sps ++ [s] }
theorem p33 (w : Shop) (hB : Big w) (st : List Int) (js : List Job) (hst : st.length ≤ 1000000) (hj : js.length ≤ 1000000) : FnA Try.prog 33 [.agg w.cells, .isl (st.map jAV), .isl (js.map Job.av)] (· = .bool (w.isSt st && w.areJ js)) := by
  have l1 : (w.sps.map Spare.av).length = w.sps.length := by simp
  have l2 : (st.map jAV).length = st.length := by simp
  have l3 : (js.map Job.av).length = js.length := by simp
  have hBs := hB.s
  refine fnA 1 ok33 (by simp) ?_
  by_cases h1 : st.length = w.sps.length
  case neg =>
    have h0 : (w.isSt st && w.areJ js) = false := by unfold Shop.isSt; rw [decide_eq_false h1]; rfl
    rw [h0]
    (conv => whnf); (repeat' ((first | refine bT ?_ | refine bF ?_ | refine bN ?_ | ((first | refine bD ?_ ?_ | refine bEq ?_ ?_ | refine bNe ?_ ?_) <;> intro hh <;> try (exfalso; omega)) | refine wIn (by omega) ?_ | refine nI (by omega) ?_) <;> conv => whnf))
    all_goals rfl
  by_cases h2 : js.length ≤ 10
  case neg =>
    have h0 : (w.isSt st && w.areJ js) = false := by unfold Shop.areJ; rw [decide_eq_false h2, Bool.false_and, Bool.and_false]
    rw [h0]
    (conv => whnf); (repeat' ((first | refine bT ?_ | refine bF ?_ | refine bN ?_ | ((first | refine bD ?_ ?_ | refine bEq ?_ ?_ | refine bNe ?_ ?_) <;> intro hh <;> try (exfalso; omega)) | refine wIn (by omega) ?_ | refine nI (by omega) ?_) <;> conv => whnf))
    all_goals rfl
  (conv => whnf); (repeat' ((first | refine bT ?_ | refine bF ?_ | refine bN ?_ | ((first | refine bD ?_ ?_ | refine bEq ?_ ?_ | refine bNe ?_ ?_) <;> intro hh <;> try (exfalso; omega)) | refine wIn (by omega) ?_ | refine nI (by omega) ?_) <;> conv => whnf))
  refine loop_i (α := Nat) (fun k => [(7, .int .i64 k), (3, .own 0 0), (2, .isl (js.map Job.av)), (1, .isl (st.map jAV))]) (fun k => [.box false w.cells]) (fun k => k ≤ st.length ∧ ∀ j, j < k → 0 ≤ st.getD j 0 ∧ st.getD j 0 ≤ 10) (fun k => st.length - k) 0 (meets_id (by (repeat' apply And.intro) <;> first | rfl | exact True.intro | (intro hh; cases hh))) ⟨Nat.zero_le _, fun m hm => by omega⟩ ?_
  rintro k ⟨hk0, hin⟩
  conv => whnf
  refine bD (fun h3 => ?_) (fun h3 => ?_)
  · have hkl : k < st.length := by omega
    have gk := jget hkl
    have e1 := p90 (st.getD k 0) 0 10
    by_cases hv : 0 ≤ st.getD k 0 ∧ st.getD k 0 ≤ 10
    · rw [decide_eq_true hv] at e1
      (conv => whnf); (repeat' ((first | refine bT ?_ | refine bF ?_ | refine bN ?_ | ((first | refine bD ?_ ?_ | refine bEq ?_ ?_ | refine bNe ?_ ?_) <;> intro hh <;> try (exfalso; omega)) | (refine iaI (by omega) (by omega) gk ?_) | (refine (e1).callq rfl rfl fun _ h => ?_; subst h) | refine wIn (by omega) ?_ | refine nI (by omega) ?_) <;> conv => whnf))
      refine ⟨k + 1, (meets_id (by (repeat' apply And.intro) <;> first | rfl | exact True.intro | (intro hh; cases hh))), ⟨by omega, fun m hm => ?_⟩, by omega⟩
      by_cases e : m = k
      · rw [e]; exact hv
      · exact hin m (by omega)
    · rw [decide_eq_false hv] at e1
      have h0 : (w.isSt st && w.areJ js) = false := by
        have : w.isSt st = false := by
          rw [Bool.eq_false_iff]; intro hh
          exact hv ((isSt_iff.1 hh).2 k hkl)
        rw [this]; rfl
      rw [h0]
      (conv => whnf); (repeat' ((first | refine bT ?_ | refine bF ?_ | refine bN ?_ | ((first | refine bD ?_ ?_ | refine bEq ?_ ?_ | refine bNe ?_ ?_) <;> intro hh <;> try (exfalso; omega)) | (refine iaI (by omega) (by omega) gk ?_) | (refine (e1).callq rfl rfl fun _ h => ?_; subst h) | refine wIn (by omega) ?_ | refine nI (by omega) ?_) <;> conv => whnf))
      all_goals rfl
  · have hke : k = st.length := by omega
    have hS : w.isSt st = true := isSt_iff.2 ⟨h1, fun s hs => hin s (by omega)⟩
    rw [hS, Bool.true_and]
    (conv => whnf); (repeat' ((first | refine bT ?_ | refine bF ?_ | refine bN ?_ | ((first | refine bD ?_ ?_ | refine bEq ?_ ?_ | refine bNe ?_ ?_) <;> intro hh <;> try (exfalso; omega)) | refine wIn (by omega) ?_ | refine nI (by omega) ?_) <;> conv => whnf))
    refine loop_i (α := Nat) (fun k => [(8, .int .i64 k), (3, .own 0 0), (2, .isl (js.map Job.av))]) (fun k => [.box false w.cells]) (fun k => k ≤ js.length ∧ ∀ j ∈ js.take k, w.isSl j.mkr j.sl = true) (fun k => js.length - k) 0 (meets_id (by (repeat' apply And.intro) <;> first | rfl | exact True.intro | (intro hh; cases hh))) ⟨Nat.zero_le _, by simp⟩ ?_
    rintro k ⟨hk0, hin⟩
    conv => whnf
    refine bD (fun h3 => ?_) (fun h3 => ?_)
    · have hkl : k < js.length := by omega
      have gk := getM Job.av js k hkl
      have e1 := p53 w js[k].mkr js[k].sl hB.m (fun x hx => (hB.sl x hx).1)
      cases hv : w.isSl js[k].mkr js[k].sl with
      | true =>
        rw [hv] at e1
        (conv => whnf); (repeat' ((first | refine bT ?_ | refine bF ?_ | refine bN ?_ | ((first | refine bD ?_ ?_ | refine bEq ?_ ?_ | refine bNe ?_ ?_) <;> intro hh <;> try (exfalso; omega)) | (refine iaI (by omega) (by omega) gk ?_) | (refine (e1).callq rfl rfl fun _ h => ?_; subst h) | refine wIn (by omega) ?_ | refine nI (by omega) ?_) <;> conv => whnf))
        exact ⟨k + 1, (meets_id (by (repeat' apply And.intro) <;> first | rfl | exact True.intro | (intro hh; cases hh))), ⟨by omega, take_all (p := fun j : Job => w.isSl j.mkr j.sl) hkl hin hv⟩, by omega⟩
      | false =>
        rw [hv] at e1
        have h0 : w.areJ js = false := by
          rw [Bool.eq_false_iff]; intro hh
          have := (areJ_iff.1 hh).2 _ (List.getElem_mem hkl)
          rw [hv] at this; cases this
        rw [h0]
        (conv => whnf); (repeat' ((first | refine bT ?_ | refine bF ?_ | refine bN ?_ | ((first | refine bD ?_ ?_ | refine bEq ?_ ?_ | refine bNe ?_ ?_) <;> intro hh <;> try (exfalso; omega)) | (refine iaI (by omega) (by omega) gk ?_) | (refine (e1).callq rfl rfl fun _ h => ?_; subst h) | refine wIn (by omega) ?_ | refine nI (by omega) ?_) <;> conv => whnf))
        all_goals rfl
    · have hke : k = js.length := by omega
      subst hke
      rw [List.take_length] at hin
      have hJ : w.areJ js = true := areJ_iff.2 ⟨h2, hin⟩
      rw [hJ]
      (conv => whnf); (repeat' ((first | refine bT ?_ | refine bF ?_ | refine bN ?_ | ((first | refine bD ?_ ?_ | refine bEq ?_ ?_ | refine bNe ?_ ?_) <;> intro hh <;> try (exfalso; omega)) | refine wIn (by omega) ?_ | refine nI (by omega) ?_) <;> conv => whnf))
      all_goals rfl
theorem bestM_le : ∀ (fs : List (List Int)) (st : List Int), bestM st fs ≤ fs.length
  | [], st => by simp [bestM]
  | f :: fs, st => by
    unfold bestM
    obtain ⟨_, _, h⟩ := foldl_max (fun s : Int => 1 + bestM (st.set s.toNat (st.getD s.toNat 0 - 1)) fs) (f.filter fun s => decide (0 < st.getD s.toNat 0)) (bestM st fs)
    rcases h with h | ⟨s, _, h⟩
    · rw [h]; have := bestM_le fs st; simp; omega
    · rw [h]; have := bestM_le fs (st.set s.toNat (st.getD s.toNat 0 - 1)); rw [List.length_cons]; omega
theorem jb_one (l : List Job) : ∀ e ∈ l.map Job.av, e.length = 2 ∧ e.all AV.one = true := fun e he => by
  obtain ⟨x, _, rfl⟩ := List.mem_map.1 he; simp [Job.av, AV.one]
theorem most_le {st st' : List Int} {fs fs' : List (List Int)} {n m d : Nat} (h : IsMost st fs n) (h' : IsMost st' fs' m) (k : ∀ g, Valid st fs g → ∃ g', Valid st' fs' g' ∧ hasN g ≤ hasN g' + d) : n ≤ m + d := by
  obtain ⟨g, h1, h2⟩ := h.has
  obtain ⟨g', k1, k2⟩ := k g h1
  have := h'.max g' k1
  omega
theorem valid_up {st st' : List Int} {fs : List (List Int)} {g : List Int} (hl : st'.length = st.length) (hle : ∀ s, s < st.length → st.getD s 0 ≤ st'.getD s 0) (h : Valid st fs g) : Valid st' fs g :=
  ⟨h.len, h.fit, fun s hs => by have := h.cnt s (by omega); have := hle s (by omega); omega⟩
theorem hasN_set {g : List Int} {j : Nat} (hj : j < g.length) : hasN g ≤ hasN (g.set j (-1)) + 1 := by
  have h := count_set' g j (-1) (-1) hj
  rw [if_pos rfl] at h
  unfold hasN
  rw [List.length_set]
  split at h <;> omega
theorem valid_down {st : List Int} {fs : List (List Int)} {g : List Int} {s : Nat} {x : Int} (hs : s < st.length) (hx : x ≤ st.getD s 0 + 1) (h0 : 0 ≤ st.getD s 0) (h : Valid (st.set s x) fs g) : ∃ g', Valid st fs g' ∧ hasN g ≤ hasN g' + 1 := by
  have hc : ∀ t : Nat, t < st.length → t ≠ s → (g.count (t : Int) : Int) ≤ st.getD t 0 := fun t ht hne => by
    have := h.cnt t (by simpa using ht)
    rw [getD_set _ _ _ _ hs, if_neg hne] at this
    exact this
  by_cases hle : (g.count (s : Int) : Int) ≤ st.getD s 0
  · refine ⟨g, ⟨h.len, h.fit, fun t ht => ?_⟩, by omega⟩
    by_cases e : t = s
    · subst e; exact hle
    · exact hc t ht e
  · have hm : (s : Int) ∈ g := List.count_pos_iff.1 (by omega)
    obtain ⟨j, hj, hgj⟩ := List.getElem_of_mem hm
    have hgd : g.getD j 0 = (s : Int) := by rw [List.getD_eq_getElem?_getD, List.getElem?_eq_getElem hj]; simpa using hgj
    refine ⟨g.set j (-1), ⟨by rw [List.length_set]; exact h.len, fun i hi => ?_, fun t ht => ?_⟩, hasN_set hj⟩
    · rw [List.length_set] at hi
      rw [getD_set _ _ _ _ hj]
      split
      · exact .inl rfl
      · exact h.fit i hi
    · have h1 := count_set' g j (-1) (t : Int) hj
      rw [hgd, if_neg (show ¬ (-1 : Int) = (t : Int) by omega)] at h1
      by_cases e : t = s
      · subst e
        rw [if_pos rfl] at h1
        have := h.cnt t (by simpa using ht)
        rw [getD_set _ _ _ _ hs, if_pos rfl] at this
        omega
      · rw [if_neg (by omega)] at h1
        have := hc t ht e
        omega
theorem fsG_left {a b : List (List Int)} {j : Nat} (h : j < a.length) : fsG (a ++ b) j = fsG a j := by
  unfold fsG; rw [List.getD_eq_getElem?_getD, List.getD_eq_getElem?_getD, List.getElem?_append_left h]
theorem fsG_right {a b : List (List Int)} {j : Nat} (h : a.length ≤ j) : fsG (a ++ b) j = fsG b (j - a.length) := by
  unfold fsG; rw [List.getD_eq_getElem?_getD, List.getD_eq_getElem?_getD, List.getElem?_append_right h]
theorem gD_left {a b : List Int} {j : Nat} (h : j < a.length) : (a ++ b).getD j 0 = a.getD j 0 := by
  rw [List.getD_eq_getElem?_getD, List.getD_eq_getElem?_getD, List.getElem?_append_left h]
theorem gD_right {a b : List Int} {j : Nat} (h : a.length ≤ j) : (a ++ b).getD j 0 = b.getD (j - a.length) 0 := by
  rw [List.getD_eq_getElem?_getD, List.getD_eq_getElem?_getD, List.getElem?_append_right h]
theorem valid_add {st : List Int} {fs : List (List Int)} {f g : List Int} (h : Valid st fs g) : Valid st (fs ++ [f]) (g ++ [-1]) := by
  refine ⟨by simp [h.len], fun j hj => ?_, fun s hs => ?_⟩
  · by_cases e : j < g.length
    · rw [gD_left e, fsG_left (by rw [← h.len]; exact e)]; exact h.fit j e
    · left
      rw [gD_right (by omega)]
      simp at hj
      rw [show j - g.length = 0 by omega]; rfl
  · have := h.cnt s hs
    rw [List.count_append]
    have : List.count (s : Int) [-1] = 0 := by simp
    omega
theorem hasN_app (g : List Int) (x : Int) : hasN (g ++ [x]) ≤ hasN g + 1 ∧ hasN (g ++ [-1]) = hasN g := by
  have := List.count_le_length (a := (-1 : Int)) (l := g)
  unfold hasN
  rw [List.length_append, List.length_append, List.count_append, List.count_append]
  constructor
  · simp; omega
  · simp
theorem valid_cut {st : List Int} {fs : List (List Int)} {f g : List Int} (h : Valid st (fs ++ [f]) g) : ∃ g', Valid st fs g' ∧ hasN g ≤ hasN g' + 1 := by
  have hl : g.length = fs.length + 1 := by rw [h.len]; simp
  have hg : g = g.take fs.length ++ [g[fs.length]] := by
    rw [← List.take_succ_eq_append_getElem (by omega), List.take_of_length_le (by omega)]
  have hlt : (g.take fs.length).length = fs.length := by rw [List.length_take]; omega
  refine ⟨g.take fs.length, ⟨hlt, fun j hj => ?_, fun s hs => ?_⟩, ?_⟩
  · rw [hlt] at hj
    have h1 := h.fit j (by omega)
    rw [fsG_left hj] at h1
    have e : (g.take fs.length).getD j 0 = g.getD j 0 := by
      rw [List.getD_eq_getElem?_getD, List.getD_eq_getElem?_getD, List.getElem?_take_of_lt hj]
    rw [e]; exact h1
  · have h1 := h.cnt s hs
    have h2 := (List.take_sublist fs.length g).count_le (s : Int)
    omega
  · have := (hasN_app (g.take fs.length) g[fs.length]).1
    rw [← hg] at this; exact this
theorem valid_rot {st : List Int} {a b : List (List Int)} {g : List Int} (h : Valid st (a ++ b) g) : Valid st (b ++ a) (g.drop a.length ++ g.take a.length) ∧ hasN (g.drop a.length ++ g.take a.length) = hasN g := by
  have hl : g.length = a.length + b.length := by rw [h.len]; simp
  have ld : (g.drop a.length).length = b.length := by rw [List.length_drop]; omega
  have lt : (g.take a.length).length = a.length := by rw [List.length_take]; omega
  have hc : ∀ x : Int, (g.drop a.length ++ g.take a.length).count x = g.count x := fun x => by
    have : g.count x = (g.take a.length ++ g.drop a.length).count x := by rw [List.take_append_drop]
    rw [this, List.count_append, List.count_append]; omega
  refine ⟨⟨by rw [List.length_append, List.length_append, ld, lt], fun j hj => ?_, fun s hs => ?_⟩, ?_⟩
  · rw [List.length_append, ld, lt] at hj
    by_cases e : j < b.length
    · have h1 := h.fit (a.length + j) (by omega)
      rw [fsG_right (by omega), show a.length + j - a.length = j by omega] at h1
      rw [gD_left (by omega), fsG_left e]
      have : (g.drop a.length).getD j 0 = g.getD (a.length + j) 0 := by
        rw [List.getD_eq_getElem?_getD, List.getD_eq_getElem?_getD, List.getElem?_drop]
      rw [this]; exact h1
    · have h1 := h.fit (j - b.length) (by omega)
      rw [fsG_left (by omega)] at h1
      rw [gD_right (by omega), fsG_right (by omega), ld]
      have : (g.take a.length).getD (j - b.length) 0 = g.getD (j - b.length) 0 := by
        rw [List.getD_eq_getElem?_getD, List.getD_eq_getElem?_getD, List.getElem?_take_of_lt (by omega)]
      rw [this]; exact h1
  · rw [hc]; exact h.cnt s hs
  · unfold hasN
    rw [hc, List.length_append, ld, lt, hl]; omega
/-- turned by so many -/
def rot {α : Type} (k : Nat) (l : List α) : List α := l.drop k ++ l.take k
theorem most_rot {st : List Int} {fs : List (List Int)} {k n m : Nat} (hk : k ≤ fs.length) (h : IsMost st fs n) (h' : IsMost st (rot k fs) m) : n = m := by
  have e : fs = fs.take k ++ fs.drop k := (List.take_append_drop k fs).symm
  have h1 := most_le (d := 0) h h' fun g hg => by
    rw [e] at hg
    obtain ⟨a, b⟩ := valid_rot hg
    exact ⟨_, a, by omega⟩
  have h2 := most_le (d := 0) h' h fun g hg => by
    obtain ⟨a, b⟩ := valid_rot hg
    rw [← e] at a
    exact ⟨_, a, by omega⟩
  omega
theorem rot_len {α : Type} (k : Nat) (l : List α) (h : k ≤ l.length) : (rot k l).length = l.length := by
  unfold rot; rw [List.length_append, List.length_drop, List.length_take]; omega
theorem rot_mem {α : Type} {k : Nat} {l : List α} {x : α} : x ∈ rot k l ↔ x ∈ l := by
  unfold rot
  rw [List.mem_append]
  constructor
  · rintro (h | h)
    · exact List.mem_of_mem_drop h
    · exact List.mem_of_mem_take h
  · intro h
    rw [← List.take_append_drop k l, List.mem_append] at h
    exact h.symm
theorem rot_get {α : Type} {l : List α} {d : α} {b i : Nat} (hi : i < l.length) : (rot (b % l.length) l)[i]? = some (l.getD ((i + b) % l.length) d) := by
  have hb : b % l.length < l.length := Nat.mod_lt _ (by omega)
  have e : (i + b) % l.length = (i + b % l.length) % l.length := by rw [Nat.add_mod, Nat.add_mod i (b % l.length)]; simp
  unfold rot
  by_cases h : i + b % l.length < l.length
  · rw [List.getElem?_append_left (by rw [List.length_drop]; omega), List.getElem?_drop, e, Nat.mod_eq_of_lt h, List.getD_eq_getElem?_getD, show b % l.length + i = i + b % l.length by omega, List.getElem?_eq_getElem h]; rfl
  · have e2 : (i + b % l.length) % l.length = i + b % l.length - l.length := by
      rw [Nat.mod_eq_sub_mod (by omega), Nat.mod_eq_of_lt (by omega)]
    rw [List.getElem?_append_right (by rw [List.length_drop]; omega), List.length_drop, List.getElem?_take_of_lt (by omega), e, e2, List.getD_eq_getElem?_getD, show i - (l.length - b % l.length) = i + b % l.length - l.length by omega, List.getElem?_eq_getElem (show i + b % l.length - l.length < l.length by omega)]; rfl
/-- the table turned by so many -/
def Shop.turn (w : Shop) (k : Nat) : Shop := { w with tb := rot k w.tb }
theorem turn_can (w : Shop) (k : Nat) (i n : Int) : (w.turn k).can i n = w.can i n := by
  unfold Shop.can
  have e : (w.turn k).sp i = w.sp i := rfl
  rw [e]
  congr 1
  rw [Bool.eq_iff_iff, List.all_eq_true, List.all_eq_true]
  exact ⟨fun h t ht => h t (rot_mem.2 ht), fun h t ht => h t (rot_mem.1 ht)⟩
theorem turn_ready {w : Shop} {k : Nat} (hk2 : k ≤ w.tb.length) (h0 : w.eO true = 0) : (w.turn k).eO true = 0 := by
  have hk := chk_ok (chk_0 h0)
  have hc := chk_0 h0
  have hw : okW w = true ∧ clash w.tb = false := by
    unfold Shop.chk at hc
    split at hc
    · rename_i h1
      split at hc
      · cases hc
      · rename_i h2; exact ⟨h1, by simpa using h2⟩
    · cases hc
  have h1 : okW (w.turn k) = true := by
    have a := hw.1
    unfold okW at a ⊢
    simp only [Bool.and_eq_true, List.all_eq_true] at a ⊢
    obtain ⟨⟨⟨⟨⟨⟨a1, a2⟩, a3⟩, a4⟩, a5⟩, a6⟩, a7⟩ := a
    refine ⟨⟨⟨⟨⟨⟨a1, a2⟩, a3⟩, a4⟩, a5⟩, ?_⟩, fun t ht => a7 t (rot_mem.1 ht)⟩
    have : (w.turn k).tb.length = w.tb.length := rot_len k w.tb hk2
    rw [this]; exact a6
  have h2 : clash (w.turn k).tb = false := by
    have a := hw.2
    unfold clash at a ⊢
    rw [List.any_eq_false] at a ⊢
    intro t ht hh
    refine a t (rot_mem.1 ht) ?_
    have := of_decide_eq_true hh
    exact decide_eq_true (rot_mem.1 this)
  have hk' := okW_ok h1
  have h3 : (w.turn k).chk = 0 := by unfold Shop.chk; rw [if_pos h1, h2]; rfl
  have h4 : (w.turn k).noT = false := by
    unfold Shop.noT Shop.lens Shop.lensK
    rw [List.any_eq_false]
    intro x hx
    obtain ⟨j, hj, rfl⟩ := List.mem_map.1 hx
    have hi : w.isSp (j : Nat) = true := isSp_iff.2 (by have : j < w.sps.length := List.mem_range.1 hj; omega)
    have hc := can_ex h0 hi
    have := spans_ne (w := w.turn k) hk' hi (by obtain ⟨n, hn⟩ := hc; exact ⟨n, by rw [turn_can]; exact hn⟩)
    intro he
    exact this (List.isEmpty_iff.1 he)
  unfold Shop.eO
  rw [h3, h4]; rfl
theorem turn_agree (w : Shop) (k : Nat) : Agree w (w.turn k) := ⟨fun x _ _ n => (turn_can w k x n).symm, fun _ _ _ _ _ _ _ _ => rfl⟩
theorem turn_good {w : Shop} {k : Nat} (h0 : w.eO true = 0) (h0' : (w.turn k).eO true = 0) {l : List Int} (hs : ∀ x ∈ l, w.isSp x = true) : (w.turn k).good l = w.good l := by
  rw [Bool.eq_iff_iff]
  exact ⟨(turn_agree w k).symm.good h0' h0 (fun m hm => ⟨hm, rfl⟩) hs hs, (turn_agree w k).good h0 h0' (fun m hm => ⟨hm, rfl⟩) hs hs⟩
theorem turn_mins {w : Shop} {k : Nat} (h0 : w.eO true = 0) (h0' : (w.turn k).eO true = 0) : (w.turn k).mins = w.mins := by
  unfold Shop.mins
  congr 1
  unfold Shop.goods Shop.goodK
  have e : (w.turn k).sub = w.sub := rfl
  have e2 : (w.turn k).sps.length = w.sps.length := rfl
  rw [e, e2]
  apply List.filter_congr
  intro l hl
  obtain ⟨b, _, rfl⟩ := List.mem_map.1 hl
  exact turn_good h0 h0' sub_sp
theorem turn_needed {w : Shop} {k : Nat} (h0 : w.eO true = 0) (h0' : (w.turn k).eO true = 0) : (w.turn k).needed = w.needed ∧ (w.turn k).eF = w.eF := by
  have e := turn_mins h0 h0'
  constructor
  · unfold Shop.needed Shop.needB
    rw [e]; rfl
  · unfold Shop.eF
    rw [e, h0, h0']
theorem turn_fsJ {w : Shop} {k : Nat} (h0 : w.eO true = 0) (h0' : (w.turn k).eO true = 0) {js : List Job} (hj : w.areJ js = true) : (w.turn k).fsJ js = w.fsJ js := by
  unfold Shop.fsJ
  apply List.map_congr_left
  intro j hjm
  have hsl := (areJ_iff.1 hj).2 j hjm
  unfold Shop.sures
  apply numF_congr
  intro x h1 h2
  have hsp : w.isSp (x : Nat) = true := isSp_iff.2 (by have : x < w.sps.length := h2; omega)
  exact ((turn_agree w k).sure h0 h0' hsp hsp hsl hsl).symm
theorem mostN_is {w : Shop} {st : List Int} {js : List Job} (hst : w.isSt st = true) : IsMost st (w.fsJ js) (w.mostN st js) := best_most _ _ (fsJ_spr (isSt_iff.1 hst).1) (isSt_nn hst)
theorem fsJ_app (w : Shop) (a b : List Job) : w.fsJ (a ++ b) = w.fsJ a ++ w.fsJ b := by unfold Shop.fsJ; rw [List.map_append]
/-- the number with a spare more, a job more, or all turned -/
theorem most_more {w : Shop} {st : List Int} {js : List Job} {s : Nat} {x : Int} (hst : w.isSt st = true) (hst' : w.isSt (st.set s x) = true) (hs : s < st.length) (h1 : st.getD s 0 ≤ x) (h2 : x ≤ st.getD s 0 + 1) : w.mostN st js ≤ w.mostN (st.set s x) js ∧ w.mostN (st.set s x) js ≤ w.mostN st js + 1 := by
  have a := mostN_is (js := js) hst
  have b := mostN_is (js := js) hst'
  refine ⟨?_, ?_⟩
  · have := most_le (d := 0) a b fun g hg => ⟨g, valid_up (st := st) (by simp) (fun t ht => by
      rw [getD_set _ _ _ _ hs]
      by_cases e : t = s
      · rw [if_pos e, e]; exact h1
      · rw [if_neg e]; omega) hg, by omega⟩
    omega
  · exact most_le (d := 1) b a fun g hg => valid_down hs h2 ((isSt_iff.1 hst).2 s hs).1 hg
theorem most_job {w : Shop} {st : List Int} {js : List Job} {j : Job} (hst : w.isSt st = true) : w.mostN st js ≤ w.mostN st (js ++ [j]) ∧ w.mostN st (js ++ [j]) ≤ w.mostN st js + 1 := by
  have a := mostN_is (js := js) hst
  have b := mostN_is (js := js ++ [j]) hst
  rw [fsJ_app] at b
  refine ⟨?_, ?_⟩
  · have := most_le (d := 0) a b fun g hg => ⟨g ++ [-1], valid_add hg, by rw [(hasN_app g 0).2]; omega⟩
    omega
  · exact most_le (d := 1) b a fun g hg => valid_cut hg
theorem most_turn {w : Shop} {st : List Int} {js : List Job} {k q : Nat} (h0 : w.eO true = 0) (h0' : (w.turn k).eO true = 0) (hst : w.isSt st = true) (hj : w.areJ js = true) (hq : q ≤ js.length) : (w.turn k).mostN st (rot q js) = w.mostN st js := by
  have hj' : w.areJ (rot q js) = true := by
    rw [areJ_iff] at hj ⊢
    exact ⟨by rw [rot_len q js hq]; exact hj.1, fun j hjm => hj.2 j (rot_mem.1 hjm)⟩
  have a := mostN_is (js := js) hst
  have b := mostN_is (w := w.turn k) (js := rot q js) hst
  rw [turn_fsJ h0 h0' hj'] at b
  have e : w.fsJ (rot q js) = rot q (w.fsJ js) := by unfold rot Shop.fsJ; rw [List.map_append, List.map_drop, List.map_take]
  rw [e] at b
  exact (most_rot (by rw [fsJ_len]; exact hq) a b).symm
theorem getD_setT {α : Type} {l : List α} {i j : Nat} {x d : α} (hi : i < l.length) : (l.set i x).getD j d = if j = i then x else l.getD j d := by
  simp only [List.getD_eq_getElem?_getD, List.getElem?_set]
  by_cases h : i = j
  · subst h; simp [hi]
  · rw [if_neg h, if_neg (fun e => h e.symm)]
def qn (y l : Nat) : Nat := if l = 0 then 0 else y % l
theorem qn_le (y l : Nat) : qn y l ≤ l := by
  unfold qn; split
  · omega
  · exact Nat.le_of_lt (Nat.mod_lt _ (by omega))
theorem rot_qn {α : Type} {l : List α} (d : α) {y i : Nat} (hi : i < l.length) : (rot (qn y l.length) l)[i]? = some (l.getD ((i + y) % l.length) d) := by
  unfold qn; rw [if_neg (by omega)]; exact rot_get hi
theorem tmodN (k y n : Nat) : ((k : Int) + (y : Int)).tmod (n : Int) = (((k + y) % n : Nat) : Int) := by
  rw [show (k : Int) + (y : Int) = ((k + y : Nat) : Int) by omega]; rfl
set_option maxHeartbeats 4000000 in
/-- PartsStock -/
theorem k12 (w : Shop) (st : List Int) (js : List Job) (i a b by_ : Int) : FnA Try.prog 12 [.agg w.cells, .agg [.isl (st.map jAV), .isl (js.map Job.av)], .agg [.int .i64 i, .int .i64 a, .int .i64 b, .int .i64 by_]] (· = .bool true) := by
  have e1 := p41 w
  have l2 : (st.map jAV).length = st.length := by simp
  have l3 : (js.map Job.av).length = js.length := by simp
  have l4 : (w.tb.map Trial.av).length = w.tb.length := by simp
  cases hr : w.ready with
  | false =>
    rw [hr] at e1
    refine fnA 17 ok12 (by simp) ?_
    (conv => whnf); (repeat' ((first | refine bT ?_ | refine bF ?_ | refine bN ?_ | ((first | refine bD ?_ ?_ | refine bEq ?_ ?_ | refine bNe ?_ ?_) <;> intro hh <;> try (exfalso; omega)) | (refine (e1).callq rfl rfl fun _ h => ?_; subst h) | (refine (p15).callq rfl rfl fun _ h => ?_; subst h) | refine wIn (by omega) ?_ | refine nI (by omega) ?_) <;> conv => whnf))
    all_goals rfl
  | true =>
  rw [hr] at e1
  obtain ⟨hf, h0, hk⟩ := ready_ok hr
  have hB := hk.big
  by_cases hl1 : st.length ≤ 40
  case neg =>
    refine fnA 17 ok12 (by simp) ?_
    (conv => whnf); (repeat' ((first | refine bT ?_ | refine bF ?_ | refine bN ?_ | ((first | refine bD ?_ ?_ | refine bEq ?_ ?_ | refine bNe ?_ ?_) <;> intro hh <;> try (exfalso; omega)) | (refine (e1).callq rfl rfl fun _ h => ?_; subst h) | (refine (p15).callq rfl rfl fun _ h => ?_; subst h) | refine wIn (by omega) ?_ | refine nI (by omega) ?_) <;> conv => whnf))
    all_goals rfl
  by_cases hl2 : js.length ≤ 9
  case neg =>
    refine fnA 17 ok12 (by simp) ?_
    (conv => whnf); (repeat' ((first | refine bT ?_ | refine bF ?_ | refine bN ?_ | ((first | refine bD ?_ ?_ | refine bEq ?_ ?_ | refine bNe ?_ ?_) <;> intro hh <;> try (exfalso; omega)) | (refine (e1).callq rfl rfl fun _ h => ?_; subst h) | (refine (p15).callq rfl rfl fun _ h => ?_; subst h) | refine wIn (by omega) ?_ | refine nI (by omega) ?_) <;> conv => whnf))
    all_goals rfl
  have e2 := p33 w hB st js (by omega) (by omega)
  cases hT : (w.isSt st && w.areJ js) with
  | false =>
    rw [hT] at e2
    refine fnA 17 ok12 (by simp) ?_
    (conv => whnf); (repeat' ((first | refine bT ?_ | refine bF ?_ | refine bN ?_ | ((first | refine bD ?_ ?_ | refine bEq ?_ ?_ | refine bNe ?_ ?_) <;> intro hh <;> try (exfalso; omega)) | (refine (e1).callq rfl rfl fun _ h => ?_; subst h) | (refine (e2).callq rfl rfl fun _ h => ?_; subst h) | (refine (p15).callq rfl rfl fun _ h => ?_; subst h) | refine wIn (by omega) ?_ | refine nI (by omega) ?_) <;> conv => whnf))
    all_goals rfl
  | true =>
  rw [hT] at e2
  have e3 := p47 w i hB.s
  cases hi : w.isSp i with
  | false =>
    rw [hi] at e3
    refine fnA 17 ok12 (by simp) ?_
    (conv => whnf); (repeat' ((first | refine bT ?_ | refine bF ?_ | refine bN ?_ | ((first | refine bD ?_ ?_ | refine bEq ?_ ?_ | refine bNe ?_ ?_) <;> intro hh <;> try (exfalso; omega)) | (refine (e1).callq rfl rfl fun _ h => ?_; subst h) | (refine (e2).callq rfl rfl fun _ h => ?_; subst h) | (refine (e3).callq rfl rfl fun _ h => ?_; subst h) | (refine (p15).callq rfl rfl fun _ h => ?_; subst h) | refine wIn (by omega) ?_ | refine nI (by omega) ?_) <;> conv => whnf))
    all_goals rfl
  | true =>
  rw [hi] at e3
  by_cases hby : 0 ≤ by_ ∧ by_ ≤ 100
  case neg =>
    refine fnA 17 ok12 (by simp) ?_
    (conv => whnf); (repeat' ((first | refine bT ?_ | refine bF ?_ | refine bN ?_ | ((first | refine bD ?_ ?_ | refine bEq ?_ ?_ | refine bNe ?_ ?_) <;> intro hh <;> try (exfalso; omega)) | (refine (e1).callq rfl rfl fun _ h => ?_; subst h) | (refine (e2).callq rfl rfl fun _ h => ?_; subst h) | (refine (e3).callq rfl rfl fun _ h => ?_; subst h) | (refine (p15).callq rfl rfl fun _ h => ?_; subst h) | refine wIn (by omega) ?_ | refine nI (by omega) ?_) <;> conv => whnf))
    all_goals rfl
  obtain ⟨y, rfl⟩ := Int.eq_ofNat_of_zero_le hby.1
  have hst : w.isSt st = true := (Bool.and_eq_true _ _ ▸ hT : _ ∧ _).1
  have hjs : w.areJ js = true := (Bool.and_eq_true _ _ ▸ hT : _ ∧ _).2
  obtain ⟨hst1, hst2⟩ := isSt_iff.1 hst
  have hi' := isSp_iff.1 hi
  have hE : w.eO (w.isSt st && w.areJ js) = 0 := by rw [hT]; exact h0
  have hbd : ∀ s' js', s'.length ≤ 40 → js'.length ≤ 40 → Bd w s' js' := fun s' js' q1 q2 => ⟨hB.s, hB.m, fun x hx => (hB.sl x hx).1, by omega, by omega⟩
  have a1 := p34f w st js (hbd _ _ (by omega) (by omega)) hE
  have hx : i.toNat < st.length := by omega
  have hsi := hst2 _ hx
  have gx := jget hx
  have l6 : ([] ++ st.map jAV).length = st.length := by simp
  -- one more in the stock
  have hst' : w.isSt (st.set i.toNat (min 10 (st.getD i.toNat 0 + 1))) = true := isSt_iff.2 ⟨by simpa using hst1, fun s hs => by
    rw [getD_set _ _ _ _ hx]
    have := hst2 s (by simpa using hs)
    split <;> omega⟩
  have hE' : w.eO (w.isSt (st.set i.toNat (min 10 (st.getD i.toNat 0 + 1))) && w.areJ js) = 0 := by rw [hst', hjs]; exact h0
  have a2 := p34f w _ js (hbd _ _ (by simpa using hl1) (by omega)) hE'
  have hput : (st.map jAV).set i.toNat [.int .i64 (min 10 (st.getD i.toNat 0 + 1))] = (st.set i.toNat (min 10 (st.getD i.toNat 0 + 1))).map jAV := by rw [List.map_set]; rfl
  rw [← hput] at a2
  obtain ⟨m1, m2⟩ := most_more (js := js) hst hst' hx (by omega) (by omega)
  have hn0 : w.mostN st js ≤ 10 := by
    have := bestM_le (w.fsJ js) st
    rw [fsJ_len] at this
    unfold Shop.mostN; omega
  -- one job more
  have e4 := p53 w a b hB.m (fun x hx => (hB.sl x hx).1)
  generalize w.mostN (st.set i.toNat (min 10 (st.getD i.toNat 0 + 1))) js = n1 at *
  have hcp := p16o w hB
  have hmid : w.isSl a b = true → FnA Try.prog 34 [.agg w.cells, .isl (st.map jAV), .isl (js.map Job.av ++ [[.int .i64 a, .int .i64 b]])] (· = .tup [.int .i64 (w.mostN st (js ++ [⟨a, b⟩])), .int .i64 0]) := fun hsl => by
    have hjs' : w.areJ (js ++ [⟨a, b⟩]) = true := by
      rw [areJ_iff] at hjs ⊢
      refine ⟨by simp; omega, fun j hj => ?_⟩
      rcases List.mem_append.1 hj with h | h
      · exact hjs.2 j h
      · rw [List.mem_singleton.1 h]; exact hsl
    have := p34f w st (js ++ [⟨a, b⟩]) (hbd _ _ (by omega) (by simp; omega)) (by rw [hst, hjs']; exact h0)
    have happ : (js ++ [(⟨a, b⟩ : Job)]).map Job.av = js.map Job.av ++ [[.int .i64 a, .int .i64 b]] := by simp [Job.av]
    rw [happ] at this; exact this
  obtain ⟨m3, m4⟩ := most_job (js := js) (j := ⟨a, b⟩) hst
  generalize w.mostN st (js ++ [⟨a, b⟩]) = n2 at *
  refine fnA 18 ok12 (by simp) ?_
  (conv => whnf); (repeat' ((first | refine bT ?_ | refine bF ?_ | refine bN ?_ | ((first | refine bD ?_ ?_ | refine bEq ?_ ?_ | refine bNe ?_ ?_) <;> intro hh <;> try (exfalso; omega)) | (refine (e1).callq rfl rfl fun _ h => ?_; subst h) | (refine (e2).callq rfl rfl fun _ h => ?_; subst h) | (refine (e3).callq rfl rfl fun _ h => ?_; subst h) | (refine (a1).callq rfl rfl fun _ h => ?_; subst h) | (refine apI (j_one st) (by simp only [l2, List.length_nil]; omega) ?_) | (refine iaI (by omega) (by omega) gx ?_) | (refine (a2).lendq rfl fun _ h => ?_; subst h; refine ⟨rfl, ?_⟩) | refine wIn (by omega) ?_ | refine nI (by omega) ?_) <;> conv => whnf))
  cases hsl : w.isSl a b
  all_goals
    rw [hsl] at e4
    try have a3 := hmid hsl
    (conv => whnf); (repeat' ((first | refine bT ?_ | refine bF ?_ | refine bN ?_ | ((first | refine bD ?_ ?_ | refine bEq ?_ ?_ | refine bNe ?_ ?_) <;> intro hh <;> try (exfalso; omega)) | (refine (e4).callq rfl rfl fun _ h => ?_; subst h) | (refine (a3).lendq rfl fun _ h => ?_; subst h; refine ⟨rfl, ?_⟩) | (refine apI (jb_one js) (by simp only [l3, List.length_nil]; omega) ?_) | (refine apI (by simp [AV.one]) (by simp; omega) ?_) | refine wIn (by omega) ?_ | refine nI (by omega) ?_) <;> conv => whnf))
    refine hcp.callzq rfl rfl (fun r rows hr => ?_)
    obtain ⟨rfl, rfl⟩ := hr
    refine ⟨rfl, ?_⟩
    (conv => whnf); (repeat' ((first | refine bT ?_ | refine bF ?_ | refine bN ?_ | ((first | refine bD ?_ ?_ | refine bEq ?_ ?_ | refine bNe ?_ ?_) <;> intro hh <;> try (exfalso; omega)) | refine wIn (by omega) ?_ | refine nI (by omega) ?_) <;> conv => whnf))
    refine loop_i (α := Nat) (fun k => [(16, .int .i64 k), (15, .row 17), (14, .own 12 0), (7, .int .i64 (w.mostN st js : Nat)), (5, .own 2 0), (4, .own 1 0), (3, .own 0 0)]) (fun k => [.box false w.cells, .box false [.isl (st.map jAV), .isl (js.map Job.av)], .box false [.int .i64 i, .int .i64 a, .int .i64 b, .int .i64 y], .fresh, .fresh, .fresh, .fresh, .fresh, .fresh, .row false 76 4 (w.sps.map Spare.av), .row false 66 1 (w.mks.map mkAV), .row false 70 4 (w.tb.map Trial.av), .box false [.row 9, .row 10, .int .i64 w.cut, .row 11], .fresh, .fresh, .fresh, .fresh, .row false 82 2 (((rot (qn y js.length) js).take k).map Job.av)]) (fun k => k ≤ js.length) (fun k => js.length - k) 0 (meets_as [(17, none)] (by (repeat' apply And.intro) <;> first | rfl | exact True.intro | (intro hh; cases hh))) (Nat.zero_le _) ?_
    intro k hk0
    conv => whnf
    refine bD (fun h6 => ?_) (fun h6 => ?_)
    · have hkl : k < js.length := by omega
      have htm := tmodN k y (js.map Job.av).length
      have hml : (k + y) % js.length < js.length := Nat.mod_lt _ (by omega)
      rw [l3] at htm
      have ht0 : 0 ≤ ((k : Int) + (y : Int)).tmod ((js.map Job.av).length : Int) := by rw [l3, htm]; omega
      have ht1 : ((k : Int) + (y : Int)).tmod ((js.map Job.av).length : Int) < (js.map Job.av).length := by rw [l3, htm]; omega
      have gj : (js.map Job.av).getD (((k : Int) + (y : Int)).tmod ((js.map Job.av).length : Int)).toNat [] = Job.av (js.getD ((k + y) % js.length) ⟨0, 0⟩) := by
        rw [l3, htm, Int.toNat_natCast, getM Job.av js _ hml]; simp [List.getD_eq_getElem?_getD, hml]
      have hsuc : ((rot (qn y js.length) js).take (k + 1)).map Job.av = ((rot (qn y js.length) js).take k).map Job.av ++ [Job.av (js.getD ((k + y) % js.length) ⟨0, 0⟩)] := by
        rw [List.take_add_one, rot_qn ⟨0, 0⟩ hkl, List.map_append]; rfl
      have hlr : (((rot (qn y js.length) js).take k).map Job.av).length = k := by
        rw [List.length_map, List.length_take, rot_len _ _ (qn_le _ _)]; omega
      (conv => whnf); (repeat' ((first | refine bT ?_ | refine bF ?_ | refine bN ?_ | ((first | refine bD ?_ ?_ | refine bEq ?_ ?_ | refine bNe ?_ ?_) <;> intro hh <;> try (exfalso; omega)) | (refine iaI ht0 ht1 gj ?_) | (refine apI (by simp [AV.one, Job.av]) (by simp only [hlr]; simp; omega) ?_) | refine wIn (by omega) ?_ | refine nI (by omega) ?_) <;> conv => whnf))
      refine ⟨k + 1, ?_, by omega, by omega⟩
      rw [hsuc]; exact (meets_as [(17, some 14)] (by (repeat' apply And.intro) <;> first | rfl | exact True.intro | (intro hh; cases hh)))
    · have hke : k = js.length := by omega
      subst hke
      have hrl : (rot (qn y js.length) js).take js.length = rot (qn y js.length) js := List.take_of_length_le (by rw [rot_len _ _ (qn_le _ _)]; omega)
      rw [hrl]
      (conv => whnf); (repeat' ((first | refine bT ?_ | refine bF ?_ | refine bN ?_ | ((first | refine bD ?_ ?_ | refine bEq ?_ ?_ | refine bNe ?_ ?_) <;> intro hh <;> try (exfalso; omega)) | refine wIn (by omega) ?_ | refine nI (by omega) ?_) <;> conv => whnf))
      refine loop_i (α := Nat × List Trial) (fun q => [(17, .int .i64 q.1), (15, .row 17), (14, .own 12 0), (7, .int .i64 (w.mostN st js : Nat)), (5, .own 2 0), (4, .own 1 0), (3, .own 0 0)]) (fun q => [.box false w.cells, .box false [.isl (st.map jAV), .isl (js.map Job.av)], .box false [.int .i64 i, .int .i64 a, .int .i64 b, .int .i64 y], .fresh, .fresh, .fresh, .fresh, .fresh, .fresh, .row false 76 4 (w.sps.map Spare.av), .row false 66 1 (w.mks.map mkAV), .row false 70 4 (q.2.map Trial.av), .box false [.row 9, .row 10, .int .i64 w.cut, .row 11], .fresh, .fresh, .fresh, .fresh, .row false 82 2 ((rot (qn y js.length) js).map Job.av)]) (fun q => q.1 ≤ w.tb.length ∧ q.2.length = w.tb.length ∧ ∀ j, j < w.tb.length → q.2.getD j ⟨0, 0, 0, 0⟩ = if j < q.1 then w.tb.getD ((j + y) % w.tb.length) ⟨0, 0, 0, 0⟩ else w.tb.getD j ⟨0, 0, 0, 0⟩) (fun q => w.tb.length - q.1) (0, w.tb) ?_ ⟨Nat.zero_le _, rfl, fun j hj => by rw [if_neg (by dsimp only; omega)]⟩ ?_
      · exact (meets_id (by (repeat' apply And.intro) <;> first | rfl | exact True.intro | (intro hh; cases hh)))
      rintro ⟨k, L⟩ ⟨hk0, hL1, hL2⟩
      dsimp only at hk0 hL1 hL2 ⊢
      have lL : (L.map Trial.av).length = L.length := by simp
      have ht30 := hk.t1
      conv => whnf
      refine bD (fun h7 => ?_) (fun h7 => ?_)
      · have hkl : k < w.tb.length := by omega
        have htm := tmodN k y (w.tb.map Trial.av).length
        have hml : (k + y) % w.tb.length < w.tb.length := Nat.mod_lt _ (by omega)
        rw [l4] at htm
        have ht0 : 0 ≤ ((k : Int) + (y : Int)).tmod ((w.tb.map Trial.av).length : Int) := by rw [l4, htm]; omega
        have ht1 : ((k : Int) + (y : Int)).tmod ((w.tb.map Trial.av).length : Int) < (w.tb.map Trial.av).length := by rw [l4, htm]; omega
        have gt : (w.tb.map Trial.av).getD (((k : Int) + (y : Int)).tmod ((w.tb.map Trial.av).length : Int)).toNat [] = Trial.av (w.tb.getD ((k + y) % w.tb.length) ⟨0, 0, 0, 0⟩) := by
          rw [l4, htm, Int.toNat_natCast, getM Trial.av w.tb _ hml]; simp [List.getD_eq_getElem?_getD, hml]
        have gL := getM Trial.av L k (by omega)
        have hput : (L.map Trial.av).set k (Trial.av (w.tb.getD ((k + y) % w.tb.length) ⟨0, 0, 0, 0⟩)) = (L.set k (w.tb.getD ((k + y) % w.tb.length) ⟨0, 0, 0, 0⟩)).map Trial.av := by rw [List.map_set]
        (conv => whnf); (repeat' ((first | refine bT ?_ | refine bF ?_ | refine bN ?_ | ((first | refine bD ?_ ?_ | refine bEq ?_ ?_ | refine bNe ?_ ?_) <;> intro hh <;> try (exfalso; omega)) | (refine iaI ht0 ht1 gt ?_) | (refine iaI (by omega) (by omega) gL ?_) | refine wIn (by omega) ?_ | refine nI (by omega) ?_) <;> conv => whnf))
        refine ⟨(k + 1, L.set k (w.tb.getD ((k + y) % w.tb.length) ⟨0, 0, 0, 0⟩)), ?_, ⟨by dsimp only; omega, by simp [hL1], fun j hj => ?_⟩, by dsimp only; omega⟩
        · dsimp only
          rw [← hput]
          exact (meets_id (by (repeat' apply And.intro) <;> first | rfl | exact True.intro | (intro hh; cases hh)))
        · dsimp only
          rw [getD_setT (by omega), hL2 j hj]
          by_cases e : j = k
          · subst e; rw [if_pos rfl, if_pos (by omega)]
          · rw [if_neg e]
            by_cases e2 : j < k
            · rw [if_pos e2, if_pos (by omega)]
            · rw [if_neg e2, if_neg (by omega)]
      · have hke : k = w.tb.length := by omega
        subst hke
        have hLe : L = rot (qn y w.tb.length) w.tb := by
          apply List.ext_getElem?
          intro j
          by_cases hj : j < w.tb.length
          · have h8 := hL2 j hj
            rw [if_pos hj] at h8
            rw [rot_qn ⟨0, 0, 0, 0⟩ hj, ← h8, List.getD_eq_getElem?_getD, List.getElem?_eq_getElem (show j < L.length by omega)]; rfl
          · rw [List.getElem?_eq_none (by omega), List.getElem?_eq_none (by rw [rot_len _ _ (qn_le _ _)]; omega)]
        have h0' := turn_ready (qn_le y w.tb.length) h0
        have hcl : (w.turn (qn y w.tb.length)).cells = [.isl (w.sps.map Spare.av), .isl (w.mks.map mkAV), .int .i64 w.cut, .isl (L.map Trial.av)] := by rw [hLe]; rfl
        have hjr : w.areJ (rot (qn y js.length) js) = true := by
          rw [areJ_iff] at hjs ⊢
          exact ⟨by rw [rot_len _ _ (qn_le _ _)]; exact hjs.1, fun j hjm => hjs.2 j (rot_mem.1 hjm)⟩
        have a5 := p34f (w.turn (qn y w.tb.length)) st (rot (qn y js.length) js) ⟨hB.s, hB.m, fun x hx => (hB.sl x hx).1, by omega, by rw [rot_len _ _ (qn_le _ _)]; omega⟩ (by
          show (w.turn (qn y w.tb.length)).eO (w.isSt st && w.areJ (rot (qn y js.length) js)) = 0
          rw [hst, hjr]; exact h0')
        rw [most_turn h0 h0' hst hjs (qn_le _ _), hcl] at a5
        obtain ⟨tn1, tn2⟩ := turn_needed h0 h0'
        rcases eF_3 h0 with hF | hF
        · have b1 := p28 w hF
          have b2 := p28 (w.turn (qn y w.tb.length)) (by rw [tn2]; exact hF)
          rw [tn1, hcl] at b2
          have hnl := numF_len w.sps.length w.needB
          have hs10 := hk.s1
          have b3 := p31 w.needed w.needed (by unfold Shop.needed; omega)
          rw [decide_eq_true rfl] at b3
          (conv => whnf); (repeat' ((first | refine bT ?_ | refine bF ?_ | refine bN ?_ | ((first | refine bD ?_ ?_ | refine bEq ?_ ?_ | refine bNe ?_ ?_) <;> intro hh <;> try (exfalso; omega)) | (refine (a5).lendq rfl fun _ h => ?_; subst h; refine ⟨rfl, ?_⟩) | (refine (b1).callzq rfl rfl fun _ h => ?_; subst h) | (refine (b2).callzq rfl rfl fun _ h => ?_; subst h) | (refine (b3).callq rfl rfl fun _ h => ?_; subst h) | (refine (p15).callq rfl rfl fun _ h => ?_; subst h) | refine wIn (by omega) ?_ | refine nI (by omega) ?_) <;> conv => whnf))
          all_goals rfl
        · have b1 := p28e w (by omega)
          have b2 := p28e (w.turn (qn y w.tb.length)) (by rw [tn2]; omega)
          rw [tn2, hF, hcl] at b2
          rw [hF] at b1
          have b3 := p31 [] [] (by simp)
          (conv => whnf); (repeat' ((first | refine bT ?_ | refine bF ?_ | refine bN ?_ | ((first | refine bD ?_ ?_ | refine bEq ?_ ?_ | refine bNe ?_ ?_) <;> intro hh <;> try (exfalso; omega)) | (refine (a5).lendq rfl fun _ h => ?_; subst h; refine ⟨rfl, ?_⟩) | (refine (b1).callzq rfl rfl fun _ h => ?_; subst h) | (refine (b2).callzq rfl rfl fun _ h => ?_; subst h) | (refine (b3).callq rfl rfl fun _ h => ?_; subst h) | (refine (p15).callq rfl rfl fun _ h => ?_; subst h) | (refine bKT ?_ ?_; (focus (simp; done))) | refine wIn (by omega) ?_ | refine nI (by omega) ?_) <;> conv => whnf))
          all_goals rfl
end Go.Proofs
