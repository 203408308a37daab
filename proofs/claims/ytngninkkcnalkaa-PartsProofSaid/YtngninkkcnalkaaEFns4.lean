/- What each function of this program answers, proved by walking its body: the contracts that the law rests on, part 4. -/
import Derived.Test.YtngninkkcnalkaaEFns3
set_option linter.unusedSimpArgs false
set_option linter.unusedVariables false
set_option linter.unusedSectionVars false
namespace Go.Proofs
open Go.Eng
attribute [local irreducible] Go.Eng.brB Go.Eng.need Go.Eng.wrE Go.Eng.iaE Go.Eng.slE Go.Eng.apE Go.Eng.CallZ Go.Eng.CallE Go.Eng.VCallE Go.Eng.YldE Go.Eng.GoC Go.Eng.MeetsE Go.Eng.FnA Go.Eng.FnV Go.Eng.ItA Go.Eng.ItM
set_option maxRecDepth 100000
def dd1 (own : List Nat) (b : Nat) : List Nat := if b ∈ own then own else own ++ [b]
/-- all that a spare can fit of a make -/
def Shop.ownK (w : Shop) (m i : Int) (k : Nat) : List Nat := ((w.allL i).take k).foldl (fun own n => dd1 own (w.cov i n m (w.slots m).length)) []
def Shop.own (w : Shop) (m i : Int) : List Nat := w.ownK m i (w.allL i).length
theorem numF_asc (n : Nat) (p : Int → Bool) : ascB (numF n p) = true := by
  have hp : (numF n p).Pairwise (· < ·) := by
    unfold numF
    refine List.Pairwise.sublist List.filter_sublist ?_
    rw [List.pairwise_map]
    exact List.Pairwise.imp (fun h => by omega) (List.pairwise_lt_range (n := n))
  rw [ascB_iff]
  intro i hi
  have := List.pairwise_iff_getElem.1 hp i (i + 1) (by omega) hi (by omega)
  have e1 : (numF n p).getD i 0 = (numF n p)[i] := by simp [List.getD_eq_getElem?_getD, show i < (numF n p).length by omega]
  have e2 : (numF n p).getD (i + 1) 0 = (numF n p)[i + 1] := by simp [List.getD_eq_getElem?_getD, hi]
  rw [e1, e2]; exact this
theorem asc_pw {l : List Int} (h : ascB l = true) : l.Pairwise (· < ·) := by
  rw [ascB_iff] at h
  induction l with
  | nil => exact List.Pairwise.nil
  | cons a l ih =>
    have h' : ∀ i, i + 1 < l.length → l.getD i 0 < l.getD (i + 1) 0 := fun i hi => by simpa using h (i + 1) (by simpa using hi)
    have ihh := ih h'
    refine List.Pairwise.cons (fun x hx => ?_) ihh
    cases l with
    | nil => cases hx
    | cons b r =>
      have hab : a < b := by simpa using h 0 (by simp)
      rcases List.mem_cons.1 hx with rfl | hx
      · exact hab
      · exact Int.lt_trans hab ((List.pairwise_cons.1 ihh).1 x hx)
/-- two shops that agree on the spares, makes and slots that both have -/
structure Agree (w v : Shop) : Prop where
  can : ∀ x, w.isSp x = true → v.isSp x = true → ∀ n, w.can x n = v.can x n
  fit : ∀ x, w.isSp x = true → v.isSp x = true → ∀ m s, w.isSl m s = true → v.isSl m s = true → ∀ n, w.fit x n m s = v.fit x n m s
theorem Agree.symm {w v : Shop} (h : Agree w v) : Agree v w := ⟨fun x a b n => (h.can x b a n).symm, fun x a b m s c d n => (h.fit x b a m s d c n).symm⟩
theorem Agree.sure {w v : Shop} (h : Agree w v) (h0 : w.eO true = 0) (h0' : v.eO true = 0) {x m s : Int} (a : w.isSp x = true) (b : v.isSp x = true) (c : w.isSl m s = true) (d : v.isSl m s = true) : w.sure x m s = v.sure x m s := by
  have hk := chk_ok (chk_0 h0)
  have hk' := chk_ok (chk_0 h0')
  unfold Shop.sure
  rw [Bool.eq_iff_iff, beq_iff_eq, beq_iff_eq, fits_1 hk a c (can_ex h0 a), fits_1 hk' b d (can_ex h0' b)]
  constructor
  · intro hh n hn
    rw [← h.can x a b] at hn
    rw [← h.fit x a b m s c d]; exact hh n hn
  · intro hh n hn
    rw [h.can x a b] at hn
    rw [h.fit x a b m s c d]; exact hh n hn
theorem slJ {sz : Nat} {es es' : List (List AV)} {lo hi : Int} {K : List (List AV) → Prop} (h0 : 0 ≤ lo) (h1 : lo ≤ hi) (h2 : hi ≤ es.length) (h3 : ∀ e ∈ es, e.length = sz) (he : (es.take hi.toNat).drop lo.toNat = es') (hk : K es') : SlE sz es lo hi K := ⟨h0, h1, h2, h3, by rw [he]; exact hk⟩
theorem p33 (w : Shop) (hB : Big w) (st : List Int) (js : List Job) (hst : st.length ≤ 1000000) (hj : js.length ≤ 1000000) : FnA Try.prog 33 [.agg w.cells, .isl (st.map jAV), .isl (js.map Job.av)] (· = .bool (w.isSt st && w.areJ js)) := by
  have l1 : (w.sps.map Spare.av).length = w.sps.length := by simp
  have l2 : (st.map jAV).length = st.length := by simp
  have l3 : (js.map Job.av).length = js.length := by simp
  have hBs := hB.s
  refine fnA 1 ok33 (by simp) ?_
  by_cases h1 : st.length = w.sps.length
  case neg =>
    have h0 : (w.isSt st && w.areJ js) = false := by unfold Shop.isSt; rw [decide_eq_false h1]; rfl
    rw [h0]
    (conv => whnf); (repeat' ((first | refine bT ?_ | refine bF ?_ | refine bN ?_ | ((first | refine bD ?_ ?_ | refine bEq ?_ ?_ | refine bNe ?_ ?_) <;> intro hh <;> try (exfalso; omega)) | refine wIn (by omega) ?_ | refine nI (by omega) ?_) <;> conv => whnf))
    all_goals rfl
  by_cases h2 : js.length ≤ 10
  case neg =>
    have h0 : (w.isSt st && w.areJ js) = false := by unfold Shop.areJ; rw [decide_eq_false h2, Bool.false_and, Bool.and_false]
    rw [h0]
    (conv => whnf); (repeat' ((first | refine bT ?_ | refine bF ?_ | refine bN ?_ | ((first | refine bD ?_ ?_ | refine bEq ?_ ?_ | refine bNe ?_ ?_) <;> intro hh <;> try (exfalso; omega)) | refine wIn (by omega) ?_ | refine nI (by omega) ?_) <;> conv => whnf))
    all_goals rfl
  (conv => whnf); (repeat' ((first | refine bT ?_ | refine bF ?_ | refine bN ?_ | ((first | refine bD ?_ ?_ | refine bEq ?_ ?_ | refine bNe ?_ ?_) <;> intro hh <;> try (exfalso; omega)) | refine wIn (by omega) ?_ | refine nI (by omega) ?_) <;> conv => whnf))
  refine loop_i (α := Nat) (fun k => [(7, .int .i64 k), (3, .own 0 0), (2, .isl (js.map Job.av)), (1, .isl (st.map jAV))]) (fun k => [.box false w.cells]) (fun k => k ≤ st.length ∧ ∀ j, j < k → 0 ≤ st.getD j 0 ∧ st.getD j 0 ≤ 10) (fun k => st.length - k) 0 (meets_id (by (repeat' apply And.intro) <;> first | rfl | exact True.intro | (intro hh; cases hh))) ⟨Nat.zero_le _, fun m hm => by omega⟩ ?_
  rintro k ⟨hk0, hin⟩
  conv => whnf
  refine bD (fun h3 => ?_) (fun h3 => ?_)
  · have hkl : k < st.length := by omega
    have gk := jget hkl
    have e1 := p90 (st.getD k 0) 0 10
    by_cases hv : 0 ≤ st.getD k 0 ∧ st.getD k 0 ≤ 10
    · rw [decide_eq_true hv] at e1
      (conv => whnf); (repeat' ((first | refine bT ?_ | refine bF ?_ | refine bN ?_ | ((first | refine bD ?_ ?_ | refine bEq ?_ ?_ | refine bNe ?_ ?_) <;> intro hh <;> try (exfalso; omega)) | (refine iaI (by omega) (by omega) gk ?_) | (refine (e1).callq rfl rfl fun _ h => ?_; subst h) | refine wIn (by omega) ?_ | refine nI (by omega) ?_) <;> conv => whnf))
      refine ⟨k + 1, (meets_id (by (repeat' apply And.intro) <;> first | rfl | exact True.intro | (intro hh; cases hh))), ⟨by omega, fun m hm => ?_⟩, by omega⟩
      by_cases e : m = k
      · rw [e]; exact hv
      · exact hin m (by omega)
    · rw [decide_eq_false hv] at e1
      have h0 : (w.isSt st && w.areJ js) = false := by
        have : w.isSt st = false := by
          rw [Bool.eq_false_iff]; intro hh
          exact hv ((isSt_iff.1 hh).2 k hkl)
        rw [this]; rfl
      rw [h0]
      (conv => whnf); (repeat' ((first | refine bT ?_ | refine bF ?_ | refine bN ?_ | ((first | refine bD ?_ ?_ | refine bEq ?_ ?_ | refine bNe ?_ ?_) <;> intro hh <;> try (exfalso; omega)) | (refine iaI (by omega) (by omega) gk ?_) | (refine (e1).callq rfl rfl fun _ h => ?_; subst h) | refine wIn (by omega) ?_ | refine nI (by omega) ?_) <;> conv => whnf))
      all_goals rfl
  · have hke : k = st.length := by omega
    have hS : w.isSt st = true := isSt_iff.2 ⟨h1, fun s hs => hin s (by omega)⟩
    rw [hS, Bool.true_and]
    (conv => whnf); (repeat' ((first | refine bT ?_ | refine bF ?_ | refine bN ?_ | ((first | refine bD ?_ ?_ | refine bEq ?_ ?_ | refine bNe ?_ ?_) <;> intro hh <;> try (exfalso; omega)) | refine wIn (by omega) ?_ | refine nI (by omega) ?_) <;> conv => whnf))
    refine loop_i (α := Nat) (fun k => [(8, .int .i64 k), (3, .own 0 0), (2, .isl (js.map Job.av))]) (fun k => [.box false w.cells]) (fun k => k ≤ js.length ∧ ∀ j ∈ js.take k, w.isSl j.mkr j.sl = true) (fun k => js.length - k) 0 (meets_id (by (repeat' apply And.intro) <;> first | rfl | exact True.intro | (intro hh; cases hh))) ⟨Nat.zero_le _, by simp⟩ ?_
    rintro k ⟨hk0, hin⟩
    conv => whnf
    refine bD (fun h3 => ?_) (fun h3 => ?_)
    · have hkl : k < js.length := by omega
      have gk := getM Job.av js k hkl
      have e1 := p53 w js[k].mkr js[k].sl hB.m (fun x hx => (hB.sl x hx).1)
      cases hv : w.isSl js[k].mkr js[k].sl with
      | true =>
        rw [hv] at e1
        (conv => whnf); (repeat' ((first | refine bT ?_ | refine bF ?_ | refine bN ?_ | ((first | refine bD ?_ ?_ | refine bEq ?_ ?_ | refine bNe ?_ ?_) <;> intro hh <;> try (exfalso; omega)) | (refine iaI (by omega) (by omega) gk ?_) | (refine (e1).callq rfl rfl fun _ h => ?_; subst h) | refine wIn (by omega) ?_ | refine nI (by omega) ?_) <;> conv => whnf))
        exact ⟨k + 1, (meets_id (by (repeat' apply And.intro) <;> first | rfl | exact True.intro | (intro hh; cases hh))), ⟨by omega, take_all (p := fun j : Job => w.isSl j.mkr j.sl) hkl hin hv⟩, by omega⟩
      | false =>
        rw [hv] at e1
        have h0 : w.areJ js = false := by
          rw [Bool.eq_false_iff]; intro hh
          have := (areJ_iff.1 hh).2 _ (List.getElem_mem hkl)
          rw [hv] at this; cases this
        rw [h0]
        (conv => whnf); (repeat' ((first | refine bT ?_ | refine bF ?_ | refine bN ?_ | ((first | refine bD ?_ ?_ | refine bEq ?_ ?_ | refine bNe ?_ ?_) <;> intro hh <;> try (exfalso; omega)) | (refine iaI (by omega) (by omega) gk ?_) | (refine (e1).callq rfl rfl fun _ h => ?_; subst h) | refine wIn (by omega) ?_ | refine nI (by omega) ?_) <;> conv => whnf))
        all_goals rfl
    · have hke : k = js.length := by omega
      subst hke
      rw [List.take_length] at hin
      have hJ : w.areJ js = true := areJ_iff.2 ⟨h2, hin⟩
      rw [hJ]
      (conv => whnf); (repeat' ((first | refine bT ?_ | refine bF ?_ | refine bN ?_ | ((first | refine bD ?_ ?_ | refine bEq ?_ ?_ | refine bNe ?_ ?_) <;> intro hh <;> try (exfalso; omega)) | refine wIn (by omega) ?_ | refine nI (by omega) ?_) <;> conv => whnf))
      all_goals rfl
def arB (n : Nat) (some : List Int) : Bool := (some.all fun x => decide (0 ≤ x ∧ x < n)) && ascB some
theorem p39 (js : List Job) (some : List Int) (hj : js.length ≤ 1000000) (hs : some.length ≤ 1000000) : FnA Try.prog 39 [.isl (js.map Job.av), .isl (some.map jAV)] (· = .bool (arB js.length some)) := by
  have l2 : (some.map jAV).length = some.length := by simp
  have l3 : (js.map Job.av).length = js.length := by simp
  have e2 := p50 some hs
  refine fnA 0 ok39 (by simp) ?_
  (conv => whnf); (repeat' ((first | refine bT ?_ | refine bF ?_ | refine bN ?_ | ((first | refine bD ?_ ?_ | refine bEq ?_ ?_ | refine bNe ?_ ?_) <;> intro hh <;> try (exfalso; omega)) | refine wIn (by omega) ?_ | refine nI (by omega) ?_) <;> conv => whnf))
  refine loop_i (α := Nat) (fun k => [(5, .int .i64 k), (1, .isl (some.map jAV)), (0, .isl (js.map Job.av))]) (fun k => []) (fun k => k ≤ some.length ∧ ∀ j, j < k → 0 ≤ some.getD j 0 ∧ some.getD j 0 < js.length) (fun k => some.length - k) 0 (meets_id (by (repeat' apply And.intro) <;> first | rfl | exact True.intro | (intro hh; cases hh))) ⟨Nat.zero_le _, fun m hm => by omega⟩ ?_
  rintro k ⟨hk0, hin⟩
  conv => whnf
  refine bD (fun h3 => ?_) (fun h3 => ?_)
  · have hkl : k < some.length := by omega
    have gk := jget hkl
    by_cases hv : 0 ≤ some.getD k 0 ∧ some.getD k 0 < js.length
    · (conv => whnf); (repeat' ((first | refine bT ?_ | refine bF ?_ | refine bN ?_ | ((first | refine bD ?_ ?_ | refine bEq ?_ ?_ | refine bNe ?_ ?_) <;> intro hh <;> try (exfalso; omega)) | (refine iaI (by omega) (by omega) gk ?_) | refine wIn (by omega) ?_ | refine nI (by omega) ?_) <;> conv => whnf))
      refine ⟨k + 1, (meets_id (by (repeat' apply And.intro) <;> first | rfl | exact True.intro | (intro hh; cases hh))), ⟨by omega, fun m hm => ?_⟩, by omega⟩
      by_cases e : m = k
      · rw [e]; exact hv
      · exact hin m (by omega)
    · have h0 : arB js.length some = false := by
        unfold arB
        rw [Bool.and_eq_false_iff]; left
        rw [List.all_eq_false]
        exact ⟨_, getD_memI hkl, by simpa using hv⟩
      rw [h0]
      (conv => whnf); (repeat' ((first | refine bT ?_ | refine bF ?_ | refine bN ?_ | ((first | refine bD ?_ ?_ | refine bEq ?_ ?_ | refine bNe ?_ ?_) <;> intro hh <;> try (exfalso; omega)) | (refine iaI (by omega) (by omega) gk ?_) | refine wIn (by omega) ?_ | refine nI (by omega) ?_) <;> conv => whnf))
      all_goals rfl
  · have hke : k = some.length := by omega
    have h0 : arB js.length some = ascB some := by
      unfold arB
      have : (some.all fun x => decide (0 ≤ x ∧ x < js.length)) = true := by
        rw [List.all_eq_true]; intro x hx
        obtain ⟨j, hj, rfl⟩ := List.getElem_of_mem hx
        have := hin j (by omega)
        have e : some.getD j 0 = some[j] := by simp [List.getD_eq_getElem?_getD, hj]
        rw [e] at this; exact decide_eq_true this
      rw [this, Bool.true_and]
    rw [h0]
    (conv => whnf); (repeat' ((first | refine bT ?_ | refine bF ?_ | refine bN ?_ | ((first | refine bD ?_ ?_ | refine bEq ?_ ?_ | refine bNe ?_ ?_) <;> intro hh <;> try (exfalso; omega)) | (refine (e2).callq rfl rfl fun _ h => ?_; subst h) | refine wIn (by omega) ?_ | refine nI (by omega) ?_) <;> conv => whnf))
    all_goals rfl
def cntT (g : List Int) (x : Int) (k : Nat) : Nat := (g.take k).count x
theorem cntT_succ {g : List Int} {x : Int} {k : Nat} (h : k < g.length) : cntT g x (k + 1) = cntT g x k + (if g.getD k 0 = x then 1 else 0) := by
  have e : g.getD k 0 = g[k] := by simp [List.getD_eq_getElem?_getD, h]
  unfold cntT
  rw [e, List.take_succ_eq_append_getElem h, List.count_append]
  by_cases hx : g[k] = x <;> simp [hx]
theorem cntT_le (g : List Int) (x : Int) (k : Nat) : cntT g x k ≤ g.count x := by
  unfold cntT; exact (List.take_sublist k g).count_le x
theorem fsG_J {w : Shop} {js : List Job} {k : Nat} (h : k < js.length) : fsG (w.fsJ js) k = w.sures js[k].mkr js[k].sl := by
  unfold fsG Shop.fsJ; simp [List.getD_eq_getElem?_getD, h]
/-- Done -/
theorem p38 (w : Shop) (hB : Big w) (h0 : w.eO true = 0) (st : List Int) (js : List Job) (g : List Int) (hst : w.isSt st = true) (hj : w.areJ js = true) (hv : Valid st (w.fsJ js) g) : FnA Try.prog 38 [.agg w.cells, .isl (st.map jAV), .isl (js.map Job.av), .isl (g.map jAV)] (· = .int .i64 (hasN g : Nat)) := by
  have hk := chk_ok (chk_0 h0)
  have hs1 := hk.s1
  obtain ⟨hst1, hst2⟩ := isSt_iff.1 hst
  obtain ⟨hj1, hj2⟩ := areJ_iff.1 hj
  have hgl : g.length = js.length := by rw [hv.len]; simp [Shop.fsJ]
  have l2 : (st.map jAV).length = st.length := by simp
  have l3 : (js.map Job.av).length = js.length := by simp
  have l4 : (g.map jAV).length = g.length := by simp
  refine fnA 3 ok38 (by simp) ?_
  (conv => whnf); (repeat' ((first | refine bT ?_ | refine bF ?_ | refine bN ?_ | ((first | refine bD ?_ ?_ | refine bEq ?_ ?_ | refine bNe ?_ ?_) <;> intro hh <;> try (exfalso; omega)) | (refine apI (j_one st) (by simp only [l2, List.length_nil]; omega) ?_) | refine wIn (by omega) ?_ | refine nI (by omega) ?_) <;> conv => whnf))
  refine loop_i (α := Nat × List Int) (fun q => [(11, .int .i64 q.1), (10, .int .i64 ((q.1 : Int) - cntT g (-1) q.1)), (9, .row 2), (4, .own 0 0), (3, .isl (g.map jAV)), (2, .isl (js.map Job.av))]) (fun q => [.box false w.cells, .fresh, .row false 3 1 (q.2.map jAV)]) (fun q => q.1 ≤ g.length ∧ q.2.length = st.length ∧ ∀ s : Nat, s < st.length → q.2.getD s 0 = st.getD s 0 - cntT g (s : Nat) q.1) (fun q => g.length - q.1) (0, st) ?_ ⟨Nat.zero_le _, rfl, fun s hs => by simp [cntT]⟩ ?_
  · exact (meets_id (by (repeat' apply And.intro) <;> first | rfl | exact True.intro | (intro hh; cases hh)))
  rintro ⟨k, L⟩ ⟨hk0, hL1, hL2⟩
  dsimp only at hk0 hL1 hL2 ⊢
  have lL : (L.map jAV).length = L.length := by simp
  have hc1 : cntT g (-1) k ≤ k := by
    unfold cntT
    have := List.count_le_length (a := (-1 : Int)) (l := g.take k)
    rw [List.length_take] at this; omega
  conv => whnf
  refine bD (fun h3 => ?_) (fun h3 => ?_)
  · have hkl : k < g.length := by omega
    have gk := jget hkl
    have hsu := cntT_succ (x := -1) hkl
    by_cases he : g.getD k 0 = -1
    · rw [if_pos he] at hsu
      (conv => whnf); (repeat' ((first | refine bT ?_ | refine bF ?_ | refine bN ?_ | ((first | refine bD ?_ ?_ | refine bEq ?_ ?_ | refine bNe ?_ ?_) <;> intro hh <;> try (exfalso; omega)) | (refine iaI (by omega) (by omega) gk ?_) | refine wIn (by omega) ?_ | refine nI (by omega) ?_) <;> conv => whnf))
      refine ⟨(k + 1, L), ?_, ⟨by dsimp only; omega, hL1, fun s hs => ?_⟩, by dsimp only; omega⟩
      · dsimp only
        rw [hsu, show (((k + 1 : Nat) : Int) - ((cntT g (-1) k + 1 : Nat) : Int)) = (k : Int) - cntT g (-1) k by omega]
        exact (meets_id (by (repeat' apply And.intro) <;> first | rfl | exact True.intro | (intro hh; cases hh)))
      · dsimp only
        rw [hL2 s hs, cntT_succ hkl, if_neg (by rw [he]; omega)]; simp
    · rw [if_neg he] at hsu
      have hkj : k < js.length := by omega
      have hmem := (hv.fit k hkl).resolve_left he
      rw [fsG_J hkj] at hmem
      obtain ⟨⟨m1, m2⟩, m3⟩ := mem_numF.1 hmem
      have hsp : w.isSp (g.getD k 0) = true := isSp_iff.2 (by omega)
      have e1 := p47 w (g.getD k 0) hB.s
      rw [hsp] at e1
      have hjm := hj2 _ (List.getElem_mem hkj)
      have e2 := p75 w hk (g.getD k 0) js[k].mkr js[k].sl hsp hjm (can_ex h0 hsp)
      have hf1 : w.fitsV (g.getD k 0) js[k].mkr js[k].sl = 1 := by unfold Shop.sure at m3; simpa using m3
      rw [hf1] at e2
      have gj := getM Job.av js k hkj
      have hx : (g.getD k 0).toNat < st.length := by omega
      have hcx : ((g.getD k 0).toNat : Int) = g.getD k 0 := by omega
      have gL := jget (l := L) (i := (g.getD k 0).toNat) (by omega)
      have hpos : 0 < L.getD (g.getD k 0).toNat 0 := by
        have a := hL2 _ hx
        have b := hv.cnt _ hx
        have c := cntT_succ (x := (((g.getD k 0).toNat : Nat) : Int)) hkl
        have d := cntT_le g (((g.getD k 0).toNat : Nat) : Int) (k + 1)
        rw [if_pos hcx.symm] at c
        omega
      have hle : L.getD (g.getD k 0).toNat 0 ≤ 10 := by
        have a := hL2 _ hx
        have := (hst2 _ hx).2
        omega
      have hput : (L.map jAV).set (g.getD k 0).toNat [.int .i64 (L.getD (g.getD k 0).toNat 0 - 1)] = (L.set (g.getD k 0).toNat (L.getD (g.getD k 0).toNat 0 - 1)).map jAV := by rw [List.map_set]; rfl
      (conv => whnf); (repeat' ((first | refine bT ?_ | refine bF ?_ | refine bN ?_ | ((first | refine bD ?_ ?_ | refine bEq ?_ ?_ | refine bNe ?_ ?_) <;> intro hh <;> try (exfalso; omega)) | (refine iaI (by omega) (by omega) gk ?_) | (refine (e1).callq rfl rfl fun _ h => ?_; subst h) | (refine iaI (by omega) (by omega) gL ?_) | (refine iaI (by omega) (by omega) gj ?_) | (refine (e2).callq rfl rfl fun _ h => ?_; subst h) | refine wIn (by omega) ?_ | refine nI (by omega) ?_) <;> conv => whnf))
      refine ⟨(k + 1, L.set (g.getD k 0).toNat (L.getD (g.getD k 0).toNat 0 - 1)), ?_, ⟨by dsimp only; omega, by simp [hL1], fun s hs => ?_⟩, by dsimp only; omega⟩
      · dsimp only
        rw [hsu, ← hput, show (((k + 1 : Nat) : Int) - ((cntT g (-1) k + 0 : Nat) : Int)) = (k : Int) - cntT g (-1) k + 1 by omega]
        exact (meets_id (by (repeat' apply And.intro) <;> first | rfl | exact True.intro | (intro hh; cases hh)))
      · dsimp only
        rw [getD_set _ _ _ _ (by omega), cntT_succ hkl]
        by_cases e : s = (g.getD k 0).toNat
        · rw [if_pos e, if_pos (by omega), hL2 _ hx, ← e]; omega
        · rw [if_neg e, if_neg (by omega), hL2 s hs]; simp
  · have hke : k = g.length := by omega
    subst hke
    have hfin : ((g.length : Int) - cntT g (-1) g.length) = (hasN g : Nat) := by
      unfold hasN cntT at *
      rw [List.take_length] at *; omega
    rw [hfin]
    (conv => whnf); (repeat' ((first | refine bT ?_ | refine bF ?_ | refine bN ?_ | ((first | refine bD ?_ ?_ | refine bEq ?_ ?_ | refine bNe ?_ ?_) <;> intro hh <;> try (exfalso; omega)) | refine wIn (by omega) ?_ | refine nI (by omega) ?_) <;> conv => whnf))
    all_goals rfl
theorem sumU_bd {u : Nat → Bool} {F : Nat → Int} : ∀ n : Nat, (∀ s, s < n → 0 ≤ F s ∧ F s ≤ 10) → 0 ≤ sumU u F n ∧ sumU u F n ≤ 10 * n
  | 0, _ => by simp [sumU]
  | n + 1, h => by
    have ih := sumU_bd (u := u) (F := F) n fun s hs => h s (by omega)
    have := h n (by omega)
    simp only [sumU]
    split <;> omega
def toN (some : List Int) : List Nat := some.map Int.toNat
def useK (fs : List (List Int)) (some : List Int) (s k : Nat) : Bool := useB fs (toN (some.take k)) s
theorem useK_succ {fs : List (List Int)} {some : List Int} {s k : Nat} (h : k < some.length) : useK fs some s (k + 1) = (useK fs some s k || decide ((s : Int) ∈ fsG fs (some.getD k 0).toNat)) := by
  unfold useK useB toN
  have e : some.getD k 0 = some[k] := by simp [List.getD_eq_getElem?_getD, h]
  rw [e, List.take_succ_eq_append_getElem h, List.map_append, List.any_append]; simp
/-- lacks -/
theorem p52 (w : Shop) (hB : Big w) (h0 : w.eO true = 0) (st : List Int) (js : List Job) (some : List Int) (hst : w.isSt st = true) (hj : w.areJ js = true) (hs40 : some.length ≤ 40) (hsm : ∀ x ∈ some, 0 ≤ x ∧ x < js.length) : FnA Try.prog 52 [.agg w.cells, .agg [.isl (st.map jAV), .isl (js.map Job.av)], .isl (some.map jAV)] (· = .int .i64 (lackS st (w.fsJ js) (toN some))) := by
  have hk := chk_ok (chk_0 h0)
  have hs1 := hk.s1
  obtain ⟨hst1, hst2⟩ := isSt_iff.1 hst
  obtain ⟨hj1, hj2⟩ := areJ_iff.1 hj
  have l2 : (st.map jAV).length = st.length := by simp
  have l3 : (js.map Job.av).length = js.length := by simp
  have l4 : (some.map jAV).length = some.length := by simp
  have hs : ∀ x ∈ w.mks, x.length ≤ 1000000 := fun x hx => (hB.sl x hx).1
  refine fnA 2 ok52 (by simp) ?_
  (conv => whnf); (repeat' ((first | refine bT ?_ | refine bF ?_ | refine bN ?_ | ((first | refine bD ?_ ?_ | refine bEq ?_ ?_ | refine bNe ?_ ?_) <;> intro hh <;> try (exfalso; omega)) | refine wIn (by omega) ?_ | refine nI (by omega) ?_) <;> conv => whnf))
  refine loop_i (α := Nat) (fun i => [(8, .int .i64 i), (7, .int .i64 ((some.length : Int) - sumU (useB (w.fsJ js) (toN some)) (stF st) i)), (4, .own 1 0), (3, .own 0 0), (2, .isl (some.map jAV))]) (fun i => [.box false w.cells, .box false [.isl (st.map jAV), .isl (js.map Job.av)]]) (fun i => i ≤ st.length) (fun i => st.length - i) 0 ?_ (Nat.zero_le _) ?_
  · have : ((some.length : Int) - sumU (useB (w.fsJ js) (toN some)) (stF st) 0) = ((some.map jAV).length : Int) := by rw [l4]; simp [sumU]
    rw [this]; exact (meets_id (by (repeat' apply And.intro) <;> first | rfl | exact True.intro | (intro hh; cases hh)))
  intro i hi0
  have hbd := sumU_bd (u := useB (w.fsJ js) (toN some)) (F := stF st) i (fun s hs => hst2 s (by omega))
  conv => whnf
  refine bD (fun h3 => ?_) (fun h3 => ?_)
  · have hil : i < st.length := by omega
    have gi := jget hil
    have hsp : w.isSp (i : Nat) = true := isSp_iff.2 (by omega)
    have hsi := hst2 i hil
    (conv => whnf); (repeat' ((first | refine bT ?_ | refine bF ?_ | refine bN ?_ | ((first | refine bD ?_ ?_ | refine bEq ?_ ?_ | refine bNe ?_ ?_) <;> intro hh <;> try (exfalso; omega)) | refine wIn (by omega) ?_ | refine nI (by omega) ?_) <;> conv => whnf))
    refine loop_i (α := Nat) (fun k => [(10, .int .i64 k), (9, .bool (useK (w.fsJ js) some i k)), (8, .int .i64 i), (7, .int .i64 ((some.length : Int) - sumU (useB (w.fsJ js) (toN some)) (stF st) i)), (4, .own 1 0), (3, .own 0 0), (2, .isl (some.map jAV))]) (fun k => [.box false w.cells, .box false [.isl (st.map jAV), .isl (js.map Job.av)]]) (fun k => k ≤ some.length) (fun k => some.length - k) 0 ?_ (Nat.zero_le _) ?_
    · exact (meets_id (by (repeat' apply And.intro) <;> first | rfl | exact True.intro | (intro hh; cases hh)))
    intro k hk0
    conv => whnf
    refine bD (fun h4 => ?_) (fun h4 => ?_)
    · have hkl : k < some.length := by omega
      have gk := jget hkl
      obtain ⟨x1, x2⟩ := hsm _ (getD_memI hkl)
      have hxj : (some.getD k 0).toNat < js.length := by omega
      have gj := getM Job.av js _ hxj
      have hjm := hj2 _ (List.getElem_mem hxj)
      have hE : w.eO (w.isSp (i : Nat) && w.isSl js[(some.getD k 0).toNat].mkr js[(some.getD k 0).toNat].sl) = 0 := by rw [hsp, hjm]; exact h0
      have e1 := p21 w i js[(some.getD k 0).toNat].mkr js[(some.getD k 0).toNat].sl hB.s hB.m hs hE
      have hsu := useK_succ (fs := w.fsJ js) (s := i) hkl
      have hin : ((i : Int) ∈ fsG (w.fsJ js) (some.getD k 0).toNat) ↔ w.fitsV i js[(some.getD k 0).toNat].mkr js[(some.getD k 0).toNat].sl = 1 := by
        rw [fsG_J hxj]
        unfold Shop.sures
        rw [mem_numF]
        unfold Shop.sure
        rw [beq_iff_eq]
        exact ⟨fun h => h.2, fun h => ⟨by omega, h⟩⟩
      cases hu : useK (w.fsJ js) some i k with
      | true =>
        have hsu2 : useK (w.fsJ js) some i (k + 1) = true := by rw [hsu, hu]; rfl
        (conv => whnf); (repeat' ((first | refine bT ?_ | refine bF ?_ | refine bN ?_ | ((first | refine bD ?_ ?_ | refine bEq ?_ ?_ | refine bNe ?_ ?_) <;> intro hh <;> try (exfalso; omega)) | (refine iaI (by omega) (by omega) gk ?_) | (refine iaI (by omega) (by omega) gj ?_) | (refine (e1).callq rfl rfl fun _ h => ?_; subst h) | refine wIn (by omega) ?_ | refine nI (by omega) ?_) <;> conv => whnf))
        refine ⟨k + 1, ?_, by omega, by omega⟩
        rw [hsu2]; exact (meets_id (by (repeat' apply And.intro) <;> first | rfl | exact True.intro | (intro hh; cases hh)))
      | false =>
        by_cases hv : w.fitsV i js[(some.getD k 0).toNat].mkr js[(some.getD k 0).toNat].sl = 1
        · rw [hv] at e1
          have hsu2 : useK (w.fsJ js) some i (k + 1) = true := by rw [hsu, hu, decide_eq_true (hin.2 hv)]; rfl
          (conv => whnf); (repeat' ((first | refine bT ?_ | refine bF ?_ | refine bN ?_ | ((first | refine bD ?_ ?_ | refine bEq ?_ ?_ | refine bNe ?_ ?_) <;> intro hh <;> try (exfalso; omega)) | (refine iaI (by omega) (by omega) gk ?_) | (refine iaI (by omega) (by omega) gj ?_) | (refine (e1).callq rfl rfl fun _ h => ?_; subst h) | refine wIn (by omega) ?_ | refine nI (by omega) ?_) <;> conv => whnf))
          refine ⟨k + 1, ?_, by omega, by omega⟩
          rw [hsu2]; exact (meets_id (by (repeat' apply And.intro) <;> first | rfl | exact True.intro | (intro hh; cases hh)))
        · have hsu2 : useK (w.fsJ js) some i (k + 1) = (w.fitsV i js[(some.getD k 0).toNat].mkr js[(some.getD k 0).toNat].sl == 1) := by
            rw [hsu, hu, decide_eq_false (fun h => hv (hin.1 h))]
            exact (beq_eq_false_iff_ne.2 hv).symm
          (conv => whnf); (repeat' ((first | refine bT ?_ | refine bF ?_ | refine bN ?_ | ((first | refine bD ?_ ?_ | refine bEq ?_ ?_ | refine bNe ?_ ?_) <;> intro hh <;> try (exfalso; omega)) | (refine iaI (by omega) (by omega) gk ?_) | (refine iaI (by omega) (by omega) gj ?_) | (refine (e1).callq rfl rfl fun _ h => ?_; subst h) | refine wIn (by omega) ?_ | refine nI (by omega) ?_) <;> conv => whnf))
          refine ⟨k + 1, ?_, by omega, by omega⟩
          rw [hsu2]; exact (meets_id (by (repeat' apply And.intro) <;> first | rfl | exact True.intro | (intro hh; cases hh)))
    · have hke : k = some.length := by omega
      subst hke
      have hfin : useK (w.fsJ js) some i some.length = useB (w.fsJ js) (toN some) i := by unfold useK; rw [List.take_length]
      rw [hfin]
      have hsum : sumU (useB (w.fsJ js) (toN some)) (stF st) (i + 1) = sumU (useB (w.fsJ js) (toN some)) (stF st) i + if useB (w.fsJ js) (toN some) i = true then stF st i else 0 := rfl
      cases hu : useB (w.fsJ js) (toN some) i with
      | true =>
        rw [hu, if_pos rfl] at hsum
        (conv => whnf); (repeat' ((first | refine bT ?_ | refine bF ?_ | refine bN ?_ | ((first | refine bD ?_ ?_ | refine bEq ?_ ?_ | refine bNe ?_ ?_) <;> intro hh <;> try (exfalso; omega)) | (refine iaI (by omega) (by omega) gi ?_) | refine wIn (by omega) ?_ | refine nI (by omega) ?_) <;> conv => whnf))
        refine ⟨i + 1, ?_, by omega, by omega⟩
        rw [hsum, show ((some.length : Int) - (sumU (useB (w.fsJ js) (toN some)) (stF st) i + stF st i)) = (some.length : Int) - sumU (useB (w.fsJ js) (toN some)) (stF st) i - st.getD i 0 by unfold stF; omega]
        exact (meets_id (by (repeat' apply And.intro) <;> first | rfl | exact True.intro | (intro hh; cases hh)))
      | false =>
        rw [hu, if_neg (by simp)] at hsum
        (conv => whnf); (repeat' ((first | refine bT ?_ | refine bF ?_ | refine bN ?_ | ((first | refine bD ?_ ?_ | refine bEq ?_ ?_ | refine bNe ?_ ?_) <;> intro hh <;> try (exfalso; omega)) | refine wIn (by omega) ?_ | refine nI (by omega) ?_) <;> conv => whnf))
        refine ⟨i + 1, ?_, by omega, by omega⟩
        rw [hsum, Int.add_zero]; exact (meets_id (by (repeat' apply And.intro) <;> first | rfl | exact True.intro | (intro hh; cases hh)))
  · have hie : i = st.length := by omega
    subst hie
    have hfin : lackS st (w.fsJ js) (toN some) = (some.length : Int) - sumU (useB (w.fsJ js) (toN some)) (stF st) st.length := by unfold lackS toN; rw [List.length_map]
    rw [hfin]
    (conv => whnf); (repeat' ((first | refine bT ?_ | refine bF ?_ | refine bN ?_ | ((first | refine bD ?_ ?_ | refine bEq ?_ ?_ | refine bNe ?_ ?_) <;> intro hh <;> try (exfalso; omega)) | refine wIn (by omega) ?_ | refine nI (by omega) ?_) <;> conv => whnf))
    all_goals rfl
theorem p36f (w : Shop) (st : List Int) (js : List Job) (hb : Bd w st js) (h : w.eO (w.isSt st && w.areJ js) = 0) : FnA Try.prog 36 [.agg w.cells, .isl (st.map jAV), .isl (js.map Job.av)] (fun r => ∃ left g, Best (w.fsJ js) st left g ∧ r = .tup [.isl (g.map jAV), .int .i64 0]) := by
  by_cases h0 : st.length = 0
  · exact p36e w st js hb h h0
  · exact p36 w st js hb h (by omega)
theorem p37f (w : Shop) (st : List Int) (js : List Job) (hb : Bd w st js) (h : w.eO (w.isSt st && w.areJ js) = 0) : FnA Try.prog 37 [.agg w.cells, .isl (st.map jAV), .isl (js.map Job.av)] (fun r => ∃ left g, Best (w.fsJ js) st left g ∧ ∃ t, ShortOk (w.fsJ js) left g t ∧ r = .tup [.isl ((shortI g t).map jAV), .int .i64 0]) := by
  by_cases h0 : st.length = 0
  · exact p37e w st js hb h h0
  · exact p37 w st js hb h (by omega)
theorem short_ar (g : List Int) (t : List Bool) : arB g.length (shortI g t) = true ∧ (shortI g t).length ≤ g.length := by
  refine ⟨?_, numF_len _ _⟩
  unfold arB
  rw [Bool.and_eq_true]
  exact ⟨List.all_eq_true.2 fun x hx => decide_eq_true (mem_numF.1 hx).1, numF_asc _ _⟩
theorem toN_short (g : List Int) (t : List Bool) (T : Int → Bool) (h : ∀ j, j < g.length → (g.getD j 0 == -1 || T (g.getD j 0)) = shortP g t (j : Nat)) : toN (shortI g t) = shortL g T := by
  unfold toN shortI shortL numF
  rw [List.filter_map, List.map_map]
  have : (Int.toNat ∘ fun j : Nat => (j : Int)) = id := by funext j; simp
  rw [this, List.map_id]
  apply List.filter_congr
  intro j hj
  exact (h j (List.mem_range.1 hj)).symm
theorem short_ok {w : Shop} {st : List Int} {js : List Job} {left g : List Int} {t : List Bool} (hst : w.isSt st = true) (hB : Best (w.fsJ js) st left g) (hs : ShortOk (w.fsJ js) left g t) : lackS st (w.fsJ js) (toN (shortI g t)) = lackN g := by
  have hsp := fsJ_spr (w := w) (js := js) (isSt_iff.1 hst).1
  have hfs : ∀ j, ∀ x ∈ fsG (w.fsJ js) j, 0 ≤ x ∧ x < st.length := fun j x hx => by
    have := fsJ_sp hx
    have := (isSt_iff.1 hst).1
    omega
  have hlen : t.length = st.length := by rw [hs.len, hB.ll]
  rw [toN_short g t (fun x => decide (0 ≤ x ∧ x < st.length) && trB t x) (fun j hj => by
    unfold shortP
    rw [show ((j : Nat) : Int).toNat = j by omega]
    rcases hB.gok j hj with h | h
    · rw [h]; rfl
    · rw [decide_eq_true (hfs j _ h), Bool.true_and])]
  refine short_lack (left := left) (best_valid hB) hsp (isSt_nn hst) (fun x hx => ?_) (fun x hx => ?_) hB.tot (fun j hj hgj x hx => ?_)
  · simp only [Bool.and_eq_true] at hx; exact of_decide_eq_true hx.1
  · simp only [Bool.and_eq_true] at hx ⊢
    have h1 := of_decide_eq_true hx.1
    obtain ⟨a, b⟩ := hs.shut x h1.1 hx.2
    exact ⟨a, fun j hj hgj y hy => ⟨decide_eq_true (hfs j y hy), b j hj hgj y hy⟩⟩
  · simp only [Bool.and_eq_true]
    exact ⟨decide_eq_true (hfs j x hx), hs.lack j hj hgj x hx⟩
theorem arB_iff {n : Nat} {some : List Int} (h : arB n some = true) : (∀ x ∈ some, 0 ≤ x ∧ x < n) ∧ (toN some).Pairwise (· < ·) ∧ ∀ x ∈ toN some, x < n := by
  unfold arB at h
  rw [Bool.and_eq_true, List.all_eq_true] at h
  have h1 : ∀ x ∈ some, 0 ≤ x ∧ x < n := fun x hx => of_decide_eq_true (h.1 x hx)
  refine ⟨h1, ?_, fun x hx => ?_⟩
  · unfold toN
    rw [List.pairwise_map]
    exact (asc_pw h.2).imp_of_mem fun ha hb hlt => by
      have := h1 _ ha
      have := h1 _ hb
      omega
  · obtain ⟨y, hy, rfl⟩ := List.mem_map.1 hx
    have := h1 y hy
    omega
set_option maxHeartbeats 1000000 in
/-- PartsProof -/
theorem k11 (w : Shop) (st : List Int) (js : List Job) (some : List Int) : FnA Try.prog 11 [.agg w.cells, .agg [.isl (st.map jAV), .isl (js.map Job.av)], .isl (some.map jAV)] (· = .bool true) := by
  have e1 := p41 w
  have l2 : (st.map jAV).length = st.length := by simp
  have l3 : (js.map Job.av).length = js.length := by simp
  have l4 : (some.map jAV).length = some.length := by simp
  cases hr : w.ready with
  | false =>
    rw [hr] at e1
    refine fnA 4 ok11 (by simp) ?_
    (conv => whnf); (repeat' ((first | refine bT ?_ | refine bF ?_ | refine bN ?_ | ((first | refine bD ?_ ?_ | refine bEq ?_ ?_ | refine bNe ?_ ?_) <;> intro hh <;> try (exfalso; omega)) | (refine (e1).callq rfl rfl fun _ h => ?_; subst h) | (refine (p15).callq rfl rfl fun _ h => ?_; subst h) | refine wIn (by omega) ?_ | refine nI (by omega) ?_) <;> conv => whnf))
    all_goals rfl
  | true =>
  rw [hr] at e1
  obtain ⟨hf, h0, hk⟩ := ready_ok hr
  have hB := hk.big
  by_cases hl1 : st.length ≤ 40
  case neg =>
    refine fnA 4 ok11 (by simp) ?_
    (conv => whnf); (repeat' ((first | refine bT ?_ | refine bF ?_ | refine bN ?_ | ((first | refine bD ?_ ?_ | refine bEq ?_ ?_ | refine bNe ?_ ?_) <;> intro hh <;> try (exfalso; omega)) | (refine (e1).callq rfl rfl fun _ h => ?_; subst h) | (refine (p15).callq rfl rfl fun _ h => ?_; subst h) | refine wIn (by omega) ?_ | refine nI (by omega) ?_) <;> conv => whnf))
    all_goals rfl
  by_cases hl2 : js.length ≤ 40
  case neg =>
    refine fnA 4 ok11 (by simp) ?_
    (conv => whnf); (repeat' ((first | refine bT ?_ | refine bF ?_ | refine bN ?_ | ((first | refine bD ?_ ?_ | refine bEq ?_ ?_ | refine bNe ?_ ?_) <;> intro hh <;> try (exfalso; omega)) | (refine (e1).callq rfl rfl fun _ h => ?_; subst h) | (refine (p15).callq rfl rfl fun _ h => ?_; subst h) | refine wIn (by omega) ?_ | refine nI (by omega) ?_) <;> conv => whnf))
    all_goals rfl
  by_cases hl3 : some.length ≤ 40
  case neg =>
    refine fnA 4 ok11 (by simp) ?_
    (conv => whnf); (repeat' ((first | refine bT ?_ | refine bF ?_ | refine bN ?_ | ((first | refine bD ?_ ?_ | refine bEq ?_ ?_ | refine bNe ?_ ?_) <;> intro hh <;> try (exfalso; omega)) | (refine (e1).callq rfl rfl fun _ h => ?_; subst h) | (refine (p15).callq rfl rfl fun _ h => ?_; subst h) | refine wIn (by omega) ?_ | refine nI (by omega) ?_) <;> conv => whnf))
    all_goals rfl
  have e2 := p33 w hB st js (by omega) (by omega)
  cases hT : (w.isSt st && w.areJ js) with
  | false =>
    rw [hT] at e2
    refine fnA 4 ok11 (by simp) ?_
    (conv => whnf); (repeat' ((first | refine bT ?_ | refine bF ?_ | refine bN ?_ | ((first | refine bD ?_ ?_ | refine bEq ?_ ?_ | refine bNe ?_ ?_) <;> intro hh <;> try (exfalso; omega)) | (refine (e1).callq rfl rfl fun _ h => ?_; subst h) | (refine (e2).callq rfl rfl fun _ h => ?_; subst h) | (refine (p15).callq rfl rfl fun _ h => ?_; subst h) | refine wIn (by omega) ?_ | refine nI (by omega) ?_) <;> conv => whnf))
    all_goals rfl
  | true =>
  rw [hT] at e2
  have hst : w.isSt st = true := (Bool.and_eq_true _ _ ▸ hT : _ ∧ _).1
  have hjs : w.areJ js = true := (Bool.and_eq_true _ _ ▸ hT : _ ∧ _).2
  have hE : w.eO (w.isSt st && w.areJ js) = 0 := by rw [hT]; exact h0
  have hbd : Bd w st js := ⟨hB.s, hB.m, fun x hx => (hB.sl x hx).1, by omega, by omega⟩
  have a1 := p34f w st js hbd hE
  have a2 := p36f w st js hbd hE
  have a3 := p37f w st js hbd hE
  refine fnA 4 ok11 (by simp) ?_
  (conv => whnf); (repeat' ((first | refine bT ?_ | refine bF ?_ | refine bN ?_ | ((first | refine bD ?_ ?_ | refine bEq ?_ ?_ | refine bNe ?_ ?_) <;> intro hh <;> try (exfalso; omega)) | (refine (e1).callq rfl rfl fun _ h => ?_; subst h) | (refine (e2).callq rfl rfl fun _ h => ?_; subst h) | (refine (a1).callq rfl rfl fun _ h => ?_; subst h) | refine wIn (by omega) ?_ | refine nI (by omega) ?_) <;> conv => whnf))
  refine a2.callzq rfl rfl (fun r hr => ?_)
  obtain ⟨left, g, hBst, rfl⟩ := hr
  (conv => whnf); (repeat' ((first | refine bT ?_ | refine bF ?_ | refine bN ?_ | ((first | refine bD ?_ ?_ | refine bEq ?_ ?_ | refine bNe ?_ ?_) <;> intro hh <;> try (exfalso; omega)) | refine wIn (by omega) ?_ | refine nI (by omega) ?_) <;> conv => whnf))
  refine a3.callzq rfl rfl (fun r hr => ?_)
  obtain ⟨left', g', hBst', t, hSh, rfl⟩ := hr
  have hm := best_mostN hst hBst
  have hm' := best_mostN hst hBst'
  have hg' : g'.length = js.length := by rw [hBst'.lg]; simp [Shop.fsJ]
  have hg : g.length = js.length := by rw [hBst.lg]; simp [Shop.fsJ]
  obtain ⟨q1, q2⟩ := short_ar g' t
  rw [hg'] at q1 q2
  have l5 : ((shortI g' t).map jAV).length = (shortI g' t).length := by simp
  have a4 := p39 js (shortI g' t) (by omega) (by omega)
  rw [q1] at a4
  have a5 := p38 w hB h0 st js g hst hjs (best_valid hBst)
  have a6 := p52 w hB h0 st js (shortI g' t) hst hjs (by omega) (arB_iff q1).1
  rw [short_ok hst hBst' hSh] at a6
  have hla := hasN_add g'
  have hla2 := hasN_add g
  have a7 := p39 js some (by omega) (by omega)
  rw [hm] at a5
  cases hA : arB js.length some with
  | false =>
    rw [hA] at a7
    (conv => whnf); (repeat' ((first | refine bT ?_ | refine bF ?_ | refine bN ?_ | ((first | refine bD ?_ ?_ | refine bEq ?_ ?_ | refine bNe ?_ ?_) <;> intro hh <;> try (exfalso; omega)) | (refine (a4).callq rfl rfl fun _ h => ?_; subst h) | (refine (a5).callq rfl rfl fun _ h => ?_; subst h) | (refine (a6).callq rfl rfl fun _ h => ?_; subst h) | (refine (a7).callq rfl rfl fun _ h => ?_; subst h) | (refine (p15).callq rfl rfl fun _ h => ?_; subst h) | refine wIn (by omega) ?_ | refine nI (by omega) ?_) <;> conv => whnf))
    all_goals rfl
  | true =>
    rw [hA] at a7
    obtain ⟨z1, z2, z3⟩ := arB_iff hA
    have a8 := p52 w hB h0 st js some hst hjs hl3 z1
    have hwd := weak_dual (best_valid hBst) (fsJ_spr (isSt_iff.1 hst).1) (isSt_nn hst) z2 (fun x hx => by rw [fsJ_len]; exact z3 x hx)
    (conv => whnf); (repeat' ((first | refine bT ?_ | refine bF ?_ | refine bN ?_ | ((first | refine bD ?_ ?_ | refine bEq ?_ ?_ | refine bNe ?_ ?_) <;> intro hh <;> try (exfalso; omega)) | (refine (a4).callq rfl rfl fun _ h => ?_; subst h) | (refine (a5).callq rfl rfl fun _ h => ?_; subst h) | (refine (a6).callq rfl rfl fun _ h => ?_; subst h) | (refine (a7).callq rfl rfl fun _ h => ?_; subst h) | (refine (a8).callq rfl rfl fun _ h => ?_; subst h) | (refine (p15).callq rfl rfl fun _ h => ?_; subst h) | refine wIn (by omega) ?_ | refine nI (by omega) ?_) <;> conv => whnf))
    all_goals rfl
theorem bestM_le : ∀ (fs : List (List Int)) (st : List Int), bestM st fs ≤ fs.length
  | [], st => by simp [bestM]
  | f :: fs, st => by
    unfold bestM
    obtain ⟨_, _, h⟩ := foldl_max (fun s : Int => 1 + bestM (st.set s.toNat (st.getD s.toNat 0 - 1)) fs) (f.filter fun s => decide (0 < st.getD s.toNat 0)) (bestM st fs)
    rcases h with h | ⟨s, _, h⟩
    · rw [h]; have := bestM_le fs st; simp; omega
    · rw [h]; have := bestM_le fs (st.set s.toNat (st.getD s.toNat 0 - 1)); rw [List.length_cons]; omega
def bstK (st : List Int) (f : List Int) (fs : List (List Int)) (k : Nat) : Nat := ((f.take k).filter fun s => decide (0 < st.getD s.toNat 0)).foldl (fun n s => max n (1 + bestM (st.set s.toNat (st.getD s.toNat 0 - 1)) fs)) (bestM st fs)
theorem bstK_succ {st f : List Int} {fs : List (List Int)} {k : Nat} (h : k < f.length) : bstK st f fs (k + 1) = if 0 < st.getD (f.getD k 0).toNat 0 then max (bstK st f fs k) (1 + bestM (st.set (f.getD k 0).toNat (st.getD (f.getD k 0).toNat 0 - 1)) fs) else bstK st f fs k := by
  unfold bstK
  have e : f.getD k 0 = f[k] := by simp [List.getD_eq_getElem?_getD, h]
  rw [e, List.take_succ_eq_append_getElem h, List.filter_append, List.foldl_append]
  by_cases hp : 0 < st.getD f[k].toNat 0
  · rw [if_pos hp]
    simp only [List.filter_cons, decide_eq_true hp, if_true, List.filter_nil, List.foldl_cons, List.foldl_nil]
  · rw [if_neg hp]
    simp only [List.filter_cons, decide_eq_false hp, Bool.false_eq_true, if_false, List.filter_nil, List.foldl_nil]
theorem bstK_le (st f : List Int) (fs : List (List Int)) (k : Nat) : bstK st f fs k ≤ fs.length + 1 := by
  unfold bstK
  obtain ⟨_, _, h⟩ := foldl_max (fun s : Int => 1 + bestM (st.set s.toNat (st.getD s.toNat 0 - 1)) fs) ((f.take k).filter fun s => decide (0 < st.getD s.toNat 0)) (bestM st fs)
  rcases h with h | ⟨s, _, h⟩
  · rw [h]; have := bestM_le fs st; omega
  · rw [h]; have := bestM_le fs (st.set s.toNat (st.getD s.toNat 0 - 1)); omega
theorem p94 : ∀ (fs : List (List Int)) (st : List Int), fs.length ≤ 1000 → (∀ f ∈ fs, f.length ≤ 1000) → st.length ≤ 1000 → Spr st fs → (∀ s, -1000 ≤ st.getD s 0 ∧ st.getD s 0 ≤ 1000) → FnA Try.prog 94 [.isl (st.map jAV), .isl (fs.map fAV)] (· = .int .i64 (bestM st fs : Nat))
  | [], st, _, _, _, _, _ => by
    refine fnA 2 ok94 (by simp) ?_
    (conv => whnf); (repeat' ((first | refine bT ?_ | refine bF ?_ | refine bN ?_ | ((first | refine bD ?_ ?_ | refine bEq ?_ ?_ | refine bNe ?_ ?_) <;> intro hh <;> try (exfalso; omega)) | refine wIn (by omega) ?_ | refine nI (by omega) ?_) <;> conv => whnf))
    all_goals rfl
  | f :: fs, st, h1, h2, h3, h4, h5 => by
    have l1 : ((f :: fs).map fAV).length = fs.length + 1 := by simp
    have l2 : (f.map jAV).length = f.length := by simp
    have l3 : (st.map jAV).length = st.length := by simp
    have l6 : ([] ++ st.map jAV).length = st.length := by simp
    have h1' : fs.length ≤ 1000 := by simp at h1; omega
    have hf := h2 f (by simp)
    have ih := fun st' => p94 fs st' h1' (fun f hf => h2 f (by simp [hf]))
    have g0 : ((f :: fs).map fAV).getD (0 : Int).toNat [] = fAV f := by simp [List.getD_eq_getElem?_getD]
    have hz : ∀ e ∈ (f :: fs).map fAV, e.length = 1 := fun e he => by obtain ⟨x, _, rfl⟩ := List.mem_map.1 he; rfl
    have htl : (((f :: fs).map fAV).take (↑((f :: fs).map fAV).length : Int).toNat).drop (1 : Int).toNat = fs.map fAV := by
      rw [show ((↑((f :: fs).map fAV).length : Int)).toNat = ((f :: fs).map fAV).length by omega, List.take_length]; rfl
    have hsp' : Spr st fs := fun x hx => h4 x (by simp [hx])
    have e1 := ih st h3 hsp' h5
    have hb1 := bestM_le fs st
    have hbe : bestM st (f :: fs) = bstK st f fs f.length := by unfold bestM bstK; rw [List.take_length]
    rw [hbe]
    generalize hLL : (f :: fs).map fAV = LL at *
    refine fnA 2 ok94 (by simp) ?_
    (conv => whnf); (repeat' ((first | refine bT ?_ | refine bF ?_ | refine bN ?_ | ((first | refine bD ?_ ?_ | refine bEq ?_ ?_ | refine bNe ?_ ?_) <;> intro hh <;> try (exfalso; omega)) | (refine slJ (by omega) (by omega) (by omega) hz htl ?_) | (refine (e1).callq rfl rfl fun _ h => ?_; subst h) | refine wIn (by omega) ?_ | refine nI (by omega) ?_) <;> conv => whnf))
    refine loop_i (α := Nat) (fun k => [(6, .int .i64 k), (5, .int .i64 (bstK st f fs k : Nat)), (1, .isl LL), (0, .isl (st.map jAV))]) (fun k => [.fresh, .fresh]) (fun k => k ≤ f.length) (fun k => f.length - k) 0 ?_ (Nat.zero_le _) ?_
    · have : bstK st f fs 0 = bestM st fs := rfl
      rw [this]; exact (meets_id (by (repeat' apply And.intro) <;> first | rfl | exact True.intro | (intro hh; cases hh)))
    intro k hk0
    have hbk := bstK_le st f fs k
    conv => whnf
    refine iaI (by omega) (by omega) g0 ?_
    conv => whnf
    refine bD (fun h6 => ?_) (fun h6 => ?_)
    · have hkl : k < f.length := by omega
      have gk := jget hkl
      obtain ⟨x1, x2⟩ := h4 f (by simp) _ (getD_memI hkl)
      have hx : (f.getD k 0).toNat < st.length := by omega
      have gx := jget hx
      have hsu := bstK_succ (st := st) (fs := fs) hkl
      have hb5 := h5 (f.getD k 0).toNat
      by_cases hp : 0 < st.getD (f.getD k 0).toNat 0
      · rw [if_pos hp] at hsu
        have hput : (st.map jAV).set (f.getD k 0).toNat [.int .i64 (st.getD (f.getD k 0).toNat 0 - 1)] = (st.set (f.getD k 0).toNat (st.getD (f.getD k 0).toNat 0 - 1)).map jAV := by rw [List.map_set]; rfl
        have e2 := ih (st.set (f.getD k 0).toNat (st.getD (f.getD k 0).toNat 0 - 1)) (by simpa using h3) (spr_set hsp' _ _) (fun s => by
          rw [getD_set _ _ _ _ hx]
          have := h5 s
          split <;> omega)
        rw [← hput] at e2
        have hb2 := bestM_le fs (st.set (f.getD k 0).toNat (st.getD (f.getD k 0).toNat 0 - 1))
        (conv => whnf); (repeat' ((first | refine bT ?_ | refine bF ?_ | refine bN ?_ | ((first | refine bD ?_ ?_ | refine bEq ?_ ?_ | refine bNe ?_ ?_) <;> intro hh <;> try (exfalso; omega)) | (refine iaI (by omega) (by omega) g0 ?_) | (refine iaI (by omega) (by omega) gk ?_) | (refine iaI (by omega) (by omega) gx ?_) | (refine apI (j_one st) (by simp only [l3, List.length_nil]; omega) ?_) | (refine slJ (by omega) (by omega) (by omega) hz htl ?_) | (refine (e2).lendq rfl fun _ h => ?_; subst h; refine ⟨rfl, ?_⟩) | refine wIn (by omega) ?_ | refine nI (by omega) ?_) <;> conv => whnf))
        refine ⟨k + 1, ?_, by omega, by omega⟩
        rw [hsu, show ((max (bstK st f fs k) (1 + bestM (st.set (f.getD k 0).toNat (st.getD (f.getD k 0).toNat 0 - 1)) fs) : Nat) : Int) = max ((bstK st f fs k : Nat) : Int) (1 + (bestM (st.set (f.getD k 0).toNat (st.getD (f.getD k 0).toNat 0 - 1)) fs : Nat)) by omega]
        exact (meets_id (by (repeat' apply And.intro) <;> first | rfl | exact True.intro | (intro hh; cases hh)))
      · rw [if_neg hp] at hsu
        (conv => whnf); (repeat' ((first | refine bT ?_ | refine bF ?_ | refine bN ?_ | ((first | refine bD ?_ ?_ | refine bEq ?_ ?_ | refine bNe ?_ ?_) <;> intro hh <;> try (exfalso; omega)) | (refine iaI (by omega) (by omega) g0 ?_) | (refine iaI (by omega) (by omega) gk ?_) | (refine iaI (by omega) (by omega) gx ?_) | refine wIn (by omega) ?_ | refine nI (by omega) ?_) <;> conv => whnf))
        refine ⟨k + 1, ?_, by omega, by omega⟩
        rw [hsu]; exact (meets_id (by (repeat' apply And.intro) <;> first | rfl | exact True.intro | (intro hh; cases hh)))
    · have hke : k = f.length := by omega
      subst hke
      (conv => whnf); (repeat' ((first | refine bT ?_ | refine bF ?_ | refine bN ?_ | ((first | refine bD ?_ ?_ | refine bEq ?_ ?_ | refine bNe ?_ ?_) <;> intro hh <;> try (exfalso; omega)) | refine wIn (by omega) ?_ | refine nI (by omega) ?_) <;> conv => whnf))
      all_goals rfl
theorem p95 (w : Shop) (hk : Ok w) (hc : ∀ x, w.isSp x = true → ∃ n, w.can x n = true) (js : List Job) (hj : w.areJ js = true) : FnA Try.prog 95 [.agg w.cells, .isl (js.map Job.av)] (· = .isl ((w.fsJ js).map fAV)) := by
  have hs1 := hk.s1
  obtain ⟨hj1, hj2⟩ := areJ_iff.1 hj
  have l1 : (w.sps.map Spare.av).length = w.sps.length := by simp
  have l3 : (js.map Job.av).length = js.length := by simp
  refine fnA 7 ok95 (by simp) ?_
  (conv => whnf); (repeat' ((first | refine bT ?_ | refine bF ?_ | refine bN ?_ | ((first | refine bD ?_ ?_ | refine bEq ?_ ?_ | refine bNe ?_ ?_) <;> intro hh <;> try (exfalso; omega)) | refine wIn (by omega) ?_ | refine nI (by omega) ?_) <;> conv => whnf))
  refine loop_i (α := Nat) (fun k => [(6, .int .i64 k), (5, .row 5), (2, .own 0 0), (1, .isl (js.map Job.av))]) (fun k => [.box false w.cells, .fresh, .fresh, .fresh, .fresh, .row false 42 1 ((w.fsJ (js.take k)).map fAV), .fresh]) (fun k => k ≤ js.length) (fun k => js.length - k) 0 (meets_as [(5, none)] (by (repeat' apply And.intro) <;> first | rfl | exact True.intro | (intro hh; cases hh))) (Nat.zero_le _) ?_
  intro k hk0
  conv => whnf
  refine bD (fun h3 => ?_) (fun h3 => ?_)
  · have hkl : k < js.length := by omega
    have gj := getM Job.av js k hkl
    have hjm := hj2 _ (List.getElem_mem hkl)
    have hsuc : (w.fsJ (js.take (k + 1))).map fAV = (w.fsJ (js.take k)).map fAV ++ [fAV (w.sures js[k].mkr js[k].sl)] := by
      unfold Shop.fsJ; rw [List.take_succ_eq_append_getElem hkl, List.map_append, List.map_append]; rfl
    have lf : ((w.fsJ (js.take k)).map fAV).length = k := by simp [Shop.fsJ]; omega
    (conv => whnf); (repeat' ((first | refine bT ?_ | refine bF ?_ | refine bN ?_ | ((first | refine bD ?_ ?_ | refine bEq ?_ ?_ | refine bNe ?_ ?_) <;> intro hh <;> try (exfalso; omega)) | refine wIn (by omega) ?_ | refine nI (by omega) ?_) <;> conv => whnf))
    refine loop_i (α := Nat) (fun i => [(8, .int .i64 i), (7, .row 6), (6, .int .i64 k), (5, .row 5), (2, .own 0 0), (1, .isl (js.map Job.av))]) (fun i => [.box false w.cells, .fresh, .fresh, .fresh, .fresh, .row false 42 1 ((w.fsJ (js.take k)).map fAV), .row false 3 1 ((numF i fun x => w.sure x js[k].mkr js[k].sl).map jAV)]) (fun i => i ≤ w.sps.length) (fun i => w.sps.length - i) 0 (meets_as [(6, none)] (by (repeat' apply And.intro) <;> first | rfl | exact True.intro | (intro hh; cases hh))) (Nat.zero_le _) ?_
    intro i hi0
    have hnl := numF_len i fun x => w.sure x js[k].mkr js[k].sl
    conv => whnf
    refine bD (fun h4 => ?_) (fun h4 => ?_)
    · have hil : i < w.sps.length := by omega
      have hsp : w.isSp (i : Nat) = true := isSp_iff.2 (by omega)
      have e2 := p75 w hk i js[k].mkr js[k].sl hsp hjm (hc _ hsp)
      by_cases hv : w.fitsV i js[k].mkr js[k].sl = 1
      · rw [hv] at e2
        have hy : (fun x => w.sure x js[k].mkr js[k].sl) (i : Nat) = true := by show w.sure _ _ _ = true; unfold Shop.sure; rw [hv]; rfl
        have hsu : (numF (i + 1) fun x => w.sure x js[k].mkr js[k].sl).map jAV = (numF i fun x => w.sure x js[k].mkr js[k].sl).map jAV ++ [[.int .i64 (i : Int)]] := by rw [numF_yes (n := i) (p := fun x => w.sure x js[k].mkr js[k].sl) hy, List.map_append]; rfl
        (conv => whnf); (repeat' ((first | refine bT ?_ | refine bF ?_ | refine bN ?_ | ((first | refine bD ?_ ?_ | refine bEq ?_ ?_ | refine bNe ?_ ?_) <;> intro hh <;> try (exfalso; omega)) | (refine iaI (by omega) (by omega) gj ?_) | (refine (e2).callq rfl rfl fun _ h => ?_; subst h) | (refine apI (by simp [AV.one]) (by simp; omega) ?_) | refine wIn (by omega) ?_ | refine nI (by omega) ?_) <;> conv => whnf))
        refine ⟨i + 1, ?_, by omega, by omega⟩
        rw [hsu]; exact (meets_as [(6, some 2)] (by (repeat' apply And.intro) <;> first | rfl | exact True.intro | (intro hh; cases hh)))
      · have hy : (fun x => w.sure x js[k].mkr js[k].sl) (i : Nat) = false := by show w.sure _ _ _ = false; unfold Shop.sure; exact beq_eq_false_iff_ne.2 hv
        have hsu := numF_no (n := i) (p := fun x => w.sure x js[k].mkr js[k].sl) hy
        (conv => whnf); (repeat' ((first | refine bT ?_ | refine bF ?_ | refine bN ?_ | ((first | refine bD ?_ ?_ | refine bEq ?_ ?_ | refine bNe ?_ ?_) <;> intro hh <;> try (exfalso; omega)) | (refine iaI (by omega) (by omega) gj ?_) | (refine (e2).callq rfl rfl fun _ h => ?_; subst h) | refine wIn (by omega) ?_ | refine nI (by omega) ?_) <;> conv => whnf))
        refine ⟨i + 1, ?_, by omega, by omega⟩
        rw [hsu]; exact (meets_id (by (repeat' apply And.intro) <;> first | rfl | exact True.intro | (intro hh; cases hh)))
    · have hie : i = w.sps.length := by omega
      subst hie
      have e : (numF w.sps.length fun x => w.sure x js[k].mkr js[k].sl) = w.sures js[k].mkr js[k].sl := rfl
      rw [e]
      (conv => whnf); (repeat' ((first | refine bT ?_ | refine bF ?_ | refine bN ?_ | ((first | refine bD ?_ ?_ | refine bEq ?_ ?_ | refine bNe ?_ ?_) <;> intro hh <;> try (exfalso; omega)) | (refine apI (by simp [AV.one]) (by simp only [lf]; simp; omega) ?_) | refine wIn (by omega) ?_ | refine nI (by omega) ?_) <;> conv => whnf))
      refine ⟨k + 1, ?_, by omega, by omega⟩
      rw [hsuc]; exact (meets_as [(5, some 4)] (by (repeat' apply And.intro) <;> first | rfl | exact True.intro | (intro hh; cases hh)))
  · have hke : k = js.length := by omega
    subst hke
    have e : js.take js.length = js := List.take_length
    rw [e]
    (conv => whnf); (repeat' ((first | refine bT ?_ | refine bF ?_ | refine bN ?_ | ((first | refine bD ?_ ?_ | refine bEq ?_ ?_ | refine bNe ?_ ?_) <;> intro hh <;> try (exfalso; omega)) | refine wIn (by omega) ?_ | refine nI (by omega) ?_) <;> conv => whnf))
    all_goals rfl
theorem p93 (w : Shop) (hB : Big w) (st : List Int) (js : List Job) (hst : st.length ≤ 1000000) (hj : js.length ≤ 1000000) : FnA Try.prog 93 [.agg w.cells, .isl (st.map jAV), .isl (js.map Job.av)] (· = .int .i64 (w.eO (w.isSt st && w.areJ js))) := by
  have e1 := p33 w hB st js hst hj
  have e2 := p71 w hB (w.isSt st && w.areJ js)
  refine fnA 1 ok93 (by simp) ?_
  (conv => whnf); (repeat' ((first | refine bT ?_ | refine bF ?_ | refine bN ?_ | ((first | refine bD ?_ ?_ | refine bEq ?_ ?_ | refine bNe ?_ ?_) <;> intro hh <;> try (exfalso; omega)) | (refine (e1).callq rfl rfl fun _ h => ?_; subst h) | (refine (e2).callq rfl rfl fun _ h => ?_; subst h) | refine wIn (by omega) ?_ | refine nI (by omega) ?_) <;> conv => whnf))
  all_goals rfl
theorem p35 (w : Shop) (hB : Big w) (st : List Int) (js : List Job) (h : w.eO (w.isSt st && w.areJ js) = 0) : FnA Try.prog 35 [.agg w.cells, .isl (st.map jAV), .isl (js.map Job.av)] (· = .tup [.int .i64 (w.mostN st js), .int .i64 0]) := by
  have hv := eO_v h
  have h' := h
  rw [hv] at h'
  have hk := chk_ok (chk_0 h)
  rw [Bool.and_eq_true] at hv
  have hs1 := hk.s1
  obtain ⟨hst1, hst2⟩ := isSt_iff.1 hv.1
  obtain ⟨hj1, hj2⟩ := areJ_iff.1 hv.2
  have e1 := p93 w hB st js (by omega) (by omega)
  rw [h] at e1
  have e2 := p95 w hk (fun x hx => can_ex h' hx) js hv.2
  have e3 := p94 (w.fsJ js) st (by rw [fsJ_len]; omega) (fun f hf => by
    unfold Shop.fsJ at hf
    obtain ⟨j, _, rfl⟩ := List.mem_map.1 hf
    have := sures_len w j.mkr j.sl
    omega) (by omega) (fsJ_spr hst1) (fun s => by
    by_cases hs : s < st.length
    · have := hst2 s hs; omega
    · rw [List.getD_eq_getElem?_getD, List.getElem?_eq_none (by omega)]; simp)
  have e : bestM st (w.fsJ js) = w.mostN st js := rfl
  rw [e] at e3
  refine fnA 2 ok35 (by simp) ?_
  (conv => whnf); (repeat' ((first | refine bT ?_ | refine bF ?_ | refine bN ?_ | ((first | refine bD ?_ ?_ | refine bEq ?_ ?_ | refine bNe ?_ ?_) <;> intro hh <;> try (exfalso; omega)) | (refine (e1).callq rfl rfl fun _ h => ?_; subst h) | (refine (e2).callzq rfl rfl fun _ h => ?_; subst h) | (refine (e3).callq rfl rfl fun _ h => ?_; subst h) | refine wIn (by omega) ?_ | refine nI (by omega) ?_) <;> conv => whnf))
  all_goals rfl
theorem p35e (w : Shop) (hB : Big w) (st : List Int) (js : List Job) (hst : st.length ≤ 1000000) (hj : js.length ≤ 1000000) (h : w.eO (w.isSt st && w.areJ js) ≠ 0) : FnA Try.prog 35 [.agg w.cells, .isl (st.map jAV), .isl (js.map Job.av)] (· = .tup [.int .i64 0, .int .i64 (w.eO (w.isSt st && w.areJ js))]) := by
  have e1 := p93 w hB st js hst hj
  refine fnA 2 ok35 (by simp) ?_
  (conv => whnf); (repeat' ((first | refine bT ?_ | refine bF ?_ | refine bN ?_ | ((first | refine bD ?_ ?_ | refine bEq ?_ ?_ | refine bNe ?_ ?_) <;> intro hh <;> try (exfalso; omega)) | (refine (e1).callq rfl rfl fun _ h => ?_; subst h) | refine wIn (by omega) ?_ | refine nI (by omega) ?_) <;> conv => whnf))
  all_goals rfl
/-- Lacks -/
theorem p40 (w : Shop) (hB : Big w) (h0 : w.eO true = 0) (st : List Int) (js : List Job) (some : List Int) (hst : w.isSt st = true) (hj : w.areJ js = true) (hs40 : some.length ≤ 40) (hsm : ∀ x ∈ some, 0 ≤ x ∧ x < js.length) : FnA Try.prog 40 [.agg w.cells, .isl (st.map jAV), .isl (js.map Job.av), .isl (some.map jAV)] (· = .int .i64 (lackS st (w.fsJ js) (toN some))) := by
  have hk := chk_ok (chk_0 h0)
  have hs1 := hk.s1
  obtain ⟨hst1, hst2⟩ := isSt_iff.1 hst
  obtain ⟨hj1, hj2⟩ := areJ_iff.1 hj
  have l2 : (st.map jAV).length = st.length := by simp
  have l3 : (js.map Job.av).length = js.length := by simp
  have l4 : (some.map jAV).length = some.length := by simp
  refine fnA 1 ok40 (by simp) ?_
  (conv => whnf); (repeat' ((first | refine bT ?_ | refine bF ?_ | refine bN ?_ | ((first | refine bD ?_ ?_ | refine bEq ?_ ?_ | refine bNe ?_ ?_) <;> intro hh <;> try (exfalso; omega)) | refine wIn (by omega) ?_ | refine nI (by omega) ?_) <;> conv => whnf))
  refine loop_i (α := Nat) (fun i => [(10, .int .i64 i), (9, .int .i64 ((some.length : Int) - sumU (useB (w.fsJ js) (toN some)) (stF st) i)), (4, .own 0 0), (3, .isl (some.map jAV)), (2, .isl (js.map Job.av)), (1, .isl (st.map jAV))]) (fun i => [.box false w.cells]) (fun i => i ≤ st.length) (fun i => st.length - i) 0 ?_ (Nat.zero_le _) ?_
  · have : ((some.length : Int) - sumU (useB (w.fsJ js) (toN some)) (stF st) 0) = ((some.map jAV).length : Int) := by rw [l4]; simp [sumU]
    rw [this]; exact (meets_id (by (repeat' apply And.intro) <;> first | rfl | exact True.intro | (intro hh; cases hh)))
  intro i hi0
  have hbd := sumU_bd (u := useB (w.fsJ js) (toN some)) (F := stF st) i (fun s hs => hst2 s (by omega))
  conv => whnf
  refine bD (fun h3 => ?_) (fun h3 => ?_)
  · have hil : i < st.length := by omega
    have gi := jget hil
    have hsp : w.isSp (i : Nat) = true := isSp_iff.2 (by omega)
    have hsi := hst2 i hil
    (conv => whnf); (repeat' ((first | refine bT ?_ | refine bF ?_ | refine bN ?_ | ((first | refine bD ?_ ?_ | refine bEq ?_ ?_ | refine bNe ?_ ?_) <;> intro hh <;> try (exfalso; omega)) | refine wIn (by omega) ?_ | refine nI (by omega) ?_) <;> conv => whnf))
    refine loop_i (α := Nat) (fun k => [(12, .int .i64 k), (11, .bool (useK (w.fsJ js) some i k)), (10, .int .i64 i), (9, .int .i64 ((some.length : Int) - sumU (useB (w.fsJ js) (toN some)) (stF st) i)), (4, .own 0 0), (3, .isl (some.map jAV)), (2, .isl (js.map Job.av)), (1, .isl (st.map jAV))]) (fun k => [.box false w.cells]) (fun k => k ≤ some.length) (fun k => some.length - k) 0 ?_ (Nat.zero_le _) ?_
    · exact (meets_id (by (repeat' apply And.intro) <;> first | rfl | exact True.intro | (intro hh; cases hh)))
    intro k hk0
    conv => whnf
    refine bD (fun h4 => ?_) (fun h4 => ?_)
    · have hkl : k < some.length := by omega
      have gk := jget hkl
      obtain ⟨x1, x2⟩ := hsm _ (getD_memI hkl)
      have hxj : (some.getD k 0).toNat < js.length := by omega
      have gj := getM Job.av js _ hxj
      have hjm := hj2 _ (List.getElem_mem hxj)
      have e1 := p75 w hk i js[(some.getD k 0).toNat].mkr js[(some.getD k 0).toNat].sl hsp hjm (can_ex h0 hsp)
      have hsu := useK_succ (fs := w.fsJ js) (s := i) hkl
      have hin : ((i : Int) ∈ fsG (w.fsJ js) (some.getD k 0).toNat) ↔ w.fitsV i js[(some.getD k 0).toNat].mkr js[(some.getD k 0).toNat].sl = 1 := by
        rw [fsG_J hxj]
        unfold Shop.sures
        rw [mem_numF]
        unfold Shop.sure
        rw [beq_iff_eq]
        exact ⟨fun h => h.2, fun h => ⟨by omega, h⟩⟩
      cases hu : useK (w.fsJ js) some i k with
      | true =>
        have hsu2 : useK (w.fsJ js) some i (k + 1) = true := by rw [hsu, hu]; rfl
        (conv => whnf); (repeat' ((first | refine bT ?_ | refine bF ?_ | refine bN ?_ | ((first | refine bD ?_ ?_ | refine bEq ?_ ?_ | refine bNe ?_ ?_) <;> intro hh <;> try (exfalso; omega)) | (refine iaI (by omega) (by omega) gk ?_) | (refine iaI (by omega) (by omega) gj ?_) | (refine (e1).callq rfl rfl fun _ h => ?_; subst h) | refine wIn (by omega) ?_ | refine nI (by omega) ?_) <;> conv => whnf))
        refine ⟨k + 1, ?_, by omega, by omega⟩
        rw [hsu2]; exact (meets_id (by (repeat' apply And.intro) <;> first | rfl | exact True.intro | (intro hh; cases hh)))
      | false =>
        have hsu2 : useK (w.fsJ js) some i (k + 1) = (w.fitsV i js[(some.getD k 0).toNat].mkr js[(some.getD k 0).toNat].sl == 1) := by
          rw [hsu, hu, Bool.false_or]
          by_cases hv : w.fitsV i js[(some.getD k 0).toNat].mkr js[(some.getD k 0).toNat].sl = 1
          · rw [decide_eq_true (hin.2 hv), hv]; rfl
          · rw [decide_eq_false (fun h => hv (hin.1 h))]
            exact (beq_eq_false_iff_ne.2 hv).symm
        (conv => whnf); (repeat' ((first | refine bT ?_ | refine bF ?_ | refine bN ?_ | ((first | refine bD ?_ ?_ | refine bEq ?_ ?_ | refine bNe ?_ ?_) <;> intro hh <;> try (exfalso; omega)) | (refine iaI (by omega) (by omega) gk ?_) | (refine iaI (by omega) (by omega) gj ?_) | (refine (e1).callq rfl rfl fun _ h => ?_; subst h) | refine wIn (by omega) ?_ | refine nI (by omega) ?_) <;> conv => whnf))
        refine ⟨k + 1, ?_, by omega, by omega⟩
        rw [hsu2]; exact (meets_id (by (repeat' apply And.intro) <;> first | rfl | exact True.intro | (intro hh; cases hh)))
    · have hke : k = some.length := by omega
      subst hke
      have hfin : useK (w.fsJ js) some i some.length = useB (w.fsJ js) (toN some) i := by unfold useK; rw [List.take_length]
      rw [hfin]
      have hsum : sumU (useB (w.fsJ js) (toN some)) (stF st) (i + 1) = sumU (useB (w.fsJ js) (toN some)) (stF st) i + if useB (w.fsJ js) (toN some) i = true then stF st i else 0 := rfl
      cases hu : useB (w.fsJ js) (toN some) i with
      | true =>
        rw [hu, if_pos rfl] at hsum
        (conv => whnf); (repeat' ((first | refine bT ?_ | refine bF ?_ | refine bN ?_ | ((first | refine bD ?_ ?_ | refine bEq ?_ ?_ | refine bNe ?_ ?_) <;> intro hh <;> try (exfalso; omega)) | (refine iaI (by omega) (by omega) gi ?_) | refine wIn (by omega) ?_ | refine nI (by omega) ?_) <;> conv => whnf))
        refine ⟨i + 1, ?_, by omega, by omega⟩
        rw [hsum, show ((some.length : Int) - (sumU (useB (w.fsJ js) (toN some)) (stF st) i + stF st i)) = (some.length : Int) - sumU (useB (w.fsJ js) (toN some)) (stF st) i - st.getD i 0 by unfold stF; omega]
        exact (meets_id (by (repeat' apply And.intro) <;> first | rfl | exact True.intro | (intro hh; cases hh)))
      | false =>
        rw [hu, if_neg (by simp)] at hsum
        (conv => whnf); (repeat' ((first | refine bT ?_ | refine bF ?_ | refine bN ?_ | ((first | refine bD ?_ ?_ | refine bEq ?_ ?_ | refine bNe ?_ ?_) <;> intro hh <;> try (exfalso; omega)) | refine wIn (by omega) ?_ | refine nI (by omega) ?_) <;> conv => whnf))
        refine ⟨i + 1, ?_, by omega, by omega⟩
        rw [hsum, Int.add_zero]; exact (meets_id (by (repeat' apply And.intro) <;> first | rfl | exact True.intro | (intro hh; cases hh)))
  · have hie : i = st.length := by omega
    subst hie
    have hfin : lackS st (w.fsJ js) (toN some) = (some.length : Int) - sumU (useB (w.fsJ js) (toN some)) (stF st) st.length := by unfold lackS toN; rw [List.length_map]
    rw [hfin]
    (conv => whnf); (repeat' ((first | refine bT ?_ | refine bF ?_ | refine bN ?_ | ((first | refine bD ?_ ?_ | refine bEq ?_ ?_ | refine bNe ?_ ?_) <;> intro hh <;> try (exfalso; omega)) | refine wIn (by omega) ?_ | refine nI (by omega) ?_) <;> conv => whnf))
    all_goals rfl
theorem jb_one (l : List Job) : ∀ e ∈ l.map Job.av, e.length = 2 ∧ e.all AV.one = true := fun e he => by
  obtain ⟨x, _, rfl⟩ := List.mem_map.1 he; simp [Job.av, AV.one]
set_option maxHeartbeats 2000000 in
/-- PartsMost -/
theorem k6 (w : Shop) (st : List Int) (js : List Job) : FnA Try.prog 6 [.agg w.cells, .agg [.isl (st.map jAV), .isl (js.map Job.av)]] (· = .bool true) := by
  have e1 := p14 w
  have l2 : (st.map jAV).length = st.length := by simp
  have l3 : (js.map Job.av).length = js.length := by simp
  cases hf : w.far with
  | true =>
    rw [hf] at e1
    refine fnA 20 ok6 (by simp) ?_
    (conv => whnf); (repeat' ((first | refine bT ?_ | refine bF ?_ | refine bN ?_ | ((first | refine bD ?_ ?_ | refine bEq ?_ ?_ | refine bNe ?_ ?_) <;> intro hh <;> try (exfalso; omega)) | (refine (e1).callq rfl rfl fun _ h => ?_; subst h) | (refine (p15).callq rfl rfl fun _ h => ?_; subst h) | refine wIn (by omega) ?_ | refine nI (by omega) ?_) <;> conv => whnf))
    all_goals rfl
  | false =>
  rw [hf] at e1
  have hB := sz_big (far_sz hf)
  have e2 := p16 w hB
  by_cases hl1 : st.length ≤ 40
  case neg =>
    refine fnA 20 ok6 (by simp) ?_
    (conv => whnf); (repeat' ((first | refine bT ?_ | refine bF ?_ | refine bN ?_ | ((first | refine bD ?_ ?_ | refine bEq ?_ ?_ | refine bNe ?_ ?_) <;> intro hh <;> try (exfalso; omega)) | (refine (e1).callq rfl rfl fun _ h => ?_; subst h) | (refine (p15).callq rfl rfl fun _ h => ?_; subst h) | refine wIn (by omega) ?_ | refine nI (by omega) ?_) <;> conv => whnf))
    all_goals rfl
  by_cases hl2 : js.length ≤ 40
  case neg =>
    refine fnA 20 ok6 (by simp) ?_
    (conv => whnf); (repeat' ((first | refine bT ?_ | refine bF ?_ | refine bN ?_ | ((first | refine bD ?_ ?_ | refine bEq ?_ ?_ | refine bNe ?_ ?_) <;> intro hh <;> try (exfalso; omega)) | (refine (e1).callq rfl rfl fun _ h => ?_; subst h) | (refine (p15).callq rfl rfl fun _ h => ?_; subst h) | refine wIn (by omega) ?_ | refine nI (by omega) ?_) <;> conv => whnf))
    all_goals rfl
  have e3 := p18 w hB
  have e4 := p33 w hB st js (by omega) (by omega)
  have hbd : Bd w st js := ⟨hB.s, hB.m, fun x hx => (hB.sl x hx).1, by omega, by omega⟩
  by_cases hE : w.eO (w.isSt st && w.areJ js) = 0
  · have hT := eO_v hE
    have hc0 := chk_0 hE
    rw [hT] at e4
    rw [hc0] at e3
    have h0 : w.eO true = 0 := by rw [← hT]; exact hE
    have hst : w.isSt st = true := (Bool.and_eq_true _ _ ▸ hT : _ ∧ _).1
    have hjs : w.areJ js = true := (Bool.and_eq_true _ _ ▸ hT : _ ∧ _).2
    by_cases hl5 : js.length ≤ 5
    case neg =>
      refine fnA 20 ok6 (by simp) ?_
      (conv => whnf); (repeat' ((first | refine bT ?_ | refine bF ?_ | refine bN ?_ | ((first | refine bD ?_ ?_ | refine bEq ?_ ?_ | refine bNe ?_ ?_) <;> intro hh <;> try (exfalso; omega)) | (refine (e1).callq rfl rfl fun _ h => ?_; subst h) | (refine (e3).callq rfl rfl fun _ h => ?_; subst h) | (refine (e4).callq rfl rfl fun _ h => ?_; subst h) | (refine (p15).callq rfl rfl fun _ h => ?_; subst h) | refine wIn (by omega) ?_ | refine nI (by omega) ?_) <;> conv => whnf))
      all_goals rfl
    have a1 := p34f w st js hbd hE
    have a2 := p35 w hB st js hE
    have a3 := p36f w st js hbd hE
    have a4 := p37f w st js hbd hE
    refine fnA 20 ok6 (by simp) ?_
    (conv => whnf); (repeat' ((first | refine bT ?_ | refine bF ?_ | refine bN ?_ | ((first | refine bD ?_ ?_ | refine bEq ?_ ?_ | refine bNe ?_ ?_) <;> intro hh <;> try (exfalso; omega)) | (refine (e1).callq rfl rfl fun _ h => ?_; subst h) | (refine (e2).callzq rfl rfl fun _ h => ?_; subst h) | (refine apI (j_one st) (by simp only [l2, List.length_nil]; omega) ?_) | (refine apI (jb_one js) (by simp only [l3, List.length_nil]; omega) ?_) | (refine (a1).lendq rfl fun _ h => ?_; subst h; refine ⟨rfl, ?_⟩) | (refine (a2).callq rfl rfl fun _ h => ?_; subst h) | refine wIn (by omega) ?_ | refine nI (by omega) ?_) <;> conv => whnf))
    refine a3.callzq rfl rfl (fun r hr => ?_)
    obtain ⟨left, g, hBst, rfl⟩ := hr
    (conv => whnf); (repeat' ((first | refine bT ?_ | refine bF ?_ | refine bN ?_ | ((first | refine bD ?_ ?_ | refine bEq ?_ ?_ | refine bNe ?_ ?_) <;> intro hh <;> try (exfalso; omega)) | (refine apI (j_one st) (by simp only [l2, List.length_nil]; omega) ?_) | (refine apI (jb_one js) (by simp only [l3, List.length_nil]; omega) ?_) | refine wIn (by omega) ?_ | refine nI (by omega) ?_) <;> conv => whnf))
    refine a4.callzq rfl rfl (fun r hr => ?_)
    obtain ⟨left', g', hBst', t, hSh, rfl⟩ := hr
    have hm := best_mostN hst hBst
    have hm' := best_mostN hst hBst'
    have hg' : g'.length = js.length := by rw [hBst'.lg]; simp [Shop.fsJ]
    have hg : g.length = js.length := by rw [hBst.lg]; simp [Shop.fsJ]
    obtain ⟨q1, q2⟩ := short_ar g' t
    rw [hg'] at q1 q2
    have l5 : ((shortI g' t).map jAV).length = (shortI g' t).length := by simp
    have a5 := p39 js (shortI g' t) (by omega) (by omega)
    rw [q1] at a5
    have a6 := p38 w hB h0 st js g hst hjs (best_valid hBst)
    have a7 := p40 w hB h0 st js (shortI g' t) hst hjs (by omega) (arB_iff q1).1
    rw [short_ok hst hBst' hSh] at a7
    have hla := hasN_add g'
    have hla2 := hasN_add g
    rw [hm] at a6
    (conv => whnf); (repeat' ((first | refine bT ?_ | refine bF ?_ | refine bN ?_ | ((first | refine bD ?_ ?_ | refine bEq ?_ ?_ | refine bNe ?_ ?_) <;> intro hh <;> try (exfalso; omega)) | (refine (a5).callq rfl rfl fun _ h => ?_; subst h) | (refine (a6).callq rfl rfl fun _ h => ?_; subst h) | (refine (a7).callq rfl rfl fun _ h => ?_; subst h) | (refine (p15).callq rfl rfl fun _ h => ?_; subst h) | refine wIn (by omega) ?_ | refine nI (by omega) ?_) <;> conv => whnf))
    all_goals rfl
  · have a1 := p34x w st js hbd hE
    have a2 := p35e w hB st js (by omega) (by omega) hE
    have a3 := p36x w st js hbd hE
    have a4 := p37x w st js hbd hE
    cases hT : (w.isSt st && w.areJ js) with
    | true =>
      rw [hT] at e4
      refine fnA 20 ok6 (by simp) ?_
      (conv => whnf); (repeat' ((first | refine bT ?_ | refine bF ?_ | refine bN ?_ | ((first | refine bD ?_ ?_ | refine bEq ?_ ?_ | refine bNe ?_ ?_) <;> intro hh <;> try (exfalso; omega)) | (refine (e1).callq rfl rfl fun _ h => ?_; subst h) | (refine (e3).callq rfl rfl fun _ h => ?_; subst h) | (refine (e4).callq rfl rfl fun _ h => ?_; subst h) | (refine (p15).callq rfl rfl fun _ h => ?_; subst h) | (refine (e2).callzq rfl rfl fun _ h => ?_; subst h) | (refine apI (j_one st) (by simp only [l2, List.length_nil]; omega) ?_) | (refine apI (jb_one js) (by simp only [l3, List.length_nil]; omega) ?_) | (refine (a1).lendq rfl fun _ h => ?_; subst h; refine ⟨rfl, ?_⟩) | (refine (a2).callq rfl rfl fun _ h => ?_; subst h) | (refine (a3).callzq rfl rfl fun _ h => ?_; subst h) | (refine (a4).callzq rfl rfl fun _ h => ?_; subst h) | (refine bKT ?_ ?_; (focus (simp; done))) | refine wIn (by omega) ?_ | refine nI (by omega) ?_) <;> conv => whnf))
      all_goals rfl
    | false =>
      rw [hT] at e4
      refine fnA 20 ok6 (by simp) ?_
      (conv => whnf); (repeat' ((first | refine bT ?_ | refine bF ?_ | refine bN ?_ | ((first | refine bD ?_ ?_ | refine bEq ?_ ?_ | refine bNe ?_ ?_) <;> intro hh <;> try (exfalso; omega)) | (refine (e1).callq rfl rfl fun _ h => ?_; subst h) | (refine (e3).callq rfl rfl fun _ h => ?_; subst h) | (refine (e4).callq rfl rfl fun _ h => ?_; subst h) | (refine (p15).callq rfl rfl fun _ h => ?_; subst h) | (refine (e2).callzq rfl rfl fun _ h => ?_; subst h) | (refine apI (j_one st) (by simp only [l2, List.length_nil]; omega) ?_) | (refine apI (jb_one js) (by simp only [l3, List.length_nil]; omega) ?_) | (refine (a1).lendq rfl fun _ h => ?_; subst h; refine ⟨rfl, ?_⟩) | (refine (a2).callq rfl rfl fun _ h => ?_; subst h) | (refine (a3).callzq rfl rfl fun _ h => ?_; subst h) | (refine (a4).callzq rfl rfl fun _ h => ?_; subst h) | (refine bKT ?_ ?_; (focus (simp; done))) | refine wIn (by omega) ?_ | refine nI (by omega) ?_) <;> conv => whnf))
      all_goals rfl
end Go.Proofs
