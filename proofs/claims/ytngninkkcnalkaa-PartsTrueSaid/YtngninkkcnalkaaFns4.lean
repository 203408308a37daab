/- What each function of this program answers, proved by walking its body: the contracts that the law rests on, part 4. -/
import Derived.Test.YtngninkkcnalkaaFns3
set_option linter.unusedSimpArgs false
set_option linter.unusedVariables false
set_option linter.unusedSectionVars false
namespace Go.Proofs
open Go.Eng
attribute [local irreducible] Go.Eng.brB Go.Eng.need Go.Eng.wrE Go.Eng.iaE Go.Eng.slE Go.Eng.apE Go.Eng.CallZ Go.Eng.CallE Go.Eng.VCallE Go.Eng.YldE Go.Eng.GoC Go.Eng.MeetsE Go.Eng.FnA Go.Eng.FnV Go.Eng.ItA Go.Eng.ItM
set_option maxRecDepth 100000
theorem cov_bit (w : Shop) (i n m : Int) : ∀ K s : Nat, (w.cov i n m K).testBit s = (decide (s < K) && w.fit i n m (s : Nat))
  | 0, s => by simp [Shop.cov]
  | K + 1, s => by
    have ih := cov_bit w i n m K
    simp only [Shop.cov]
    cases hf : w.fit i n m (K : Nat) with
    | true =>
      simp only [if_true]
      rw [← or_pow (cov_lt w i n m K), Nat.testBit_or, ih, Nat.testBit_two_pow]
      by_cases h : s = K
      · subst h; simp [hf]
      · have h1 : decide (K = s) = false := decide_eq_false (fun e => h e.symm)
        have h2 : decide (s < K + 1) = decide (s < K) := decide_eq_decide.2 (by omega)
        rw [h1, h2, Bool.or_false]
    | false =>
      simp only [Bool.false_eq_true, if_false, Nat.add_zero]
      rw [ih]
      by_cases h : s = K
      · subst h; simp [hf]
      · have h2 : decide (s < K + 1) = decide (s < K) := decide_eq_decide.2 (by omega)
        rw [h2]
/-- the slots that spares of these lengths fit together -/
def orN (w : Shop) (m : Int) (K : Nat) (l : List Int) (T : Int → Int) : Nat → Nat
  | 0 => 0
  | k + 1 => orN w m K l T k ||| w.cov (l.getD k 0) (T (l.getD k 0)) m K
theorem orN_rch {w : Shop} {m : Int} {K : Nat} {l : List Int} {T : Int → Int} : ∀ {k : Nat}, k ≤ l.length → (∀ x ∈ l, w.can x (T x) = true) → w.rch m K l k (orN w m K l T k)
  | 0, _, _ => rfl
  | k + 1, hk, h => ⟨_, _, orN_rch (by omega) h, h _ (getD_memI (by omega)), rfl⟩
theorem orN_bit {w : Shop} {m : Int} {K : Nat} {l : List Int} {T : Int → Int} : ∀ {k s : Nat}, k ≤ l.length → ((orN w m K l T k).testBit s = true ↔ s < K ∧ ∃ j, j < k ∧ w.fit (l.getD j 0) (T (l.getD j 0)) m (s : Nat) = true)
  | 0, s, _ => by simp [orN]
  | k + 1, s, h => by
    have ih := orN_bit (w := w) (m := m) (K := K) (l := l) (T := T) (k := k) (s := s) (by omega)
    unfold orN
    rw [Nat.testBit_or, Bool.or_eq_true, ih, cov_bit, Bool.and_eq_true, decide_eq_true_eq]
    constructor
    · rintro (⟨a, j, b, c⟩ | ⟨a, b⟩)
      · exact ⟨a, j, by omega, c⟩
      · exact ⟨a, k, by omega, b⟩
    · rintro ⟨a, j, b, c⟩
      by_cases e : j = k
      · subst e; exact .inr ⟨a, c⟩
      · exact .inl ⟨a, j, by omega, c⟩
theorem full_iff {K b : Nat} (h : b < 2 ^ K) : b = 2 ^ K - 1 ↔ ∀ s, s < K → b.testBit s = true := by
  constructor
  · rintro rfl s hs; rw [Nat.testBit_two_pow_sub_one]; exact decide_eq_true hs
  · intro hb
    apply Nat.eq_of_testBit_eq
    intro s
    rw [Nat.testBit_two_pow_sub_one]
    by_cases hs : s < K
    · rw [hb s hs, decide_eq_true hs]
    · rw [decide_eq_false hs]
      exact Nat.testBit_lt_two_pow (Nat.lt_of_lt_of_le h (Nat.pow_le_pow_right (by omega) (by omega)))
/-- each slot of a make is fitted, if spares have these lengths -/
def mended (w : Shop) (m : Int) (l : List Int) (T : Int → Int) : Bool := (List.range (w.slots m).length).all fun s => l.any fun x => w.fit x (T x) m (s : Nat)
theorem mended_iff {w : Shop} {m : Int} {l : List Int} {T : Int → Int} : mended w m l T = true ↔ orN w m (w.slots m).length l T l.length = 2 ^ (w.slots m).length - 1 := by
  have hlt : orN w m (w.slots m).length l T l.length < 2 ^ (w.slots m).length := by
    have : ∀ k, orN w m (w.slots m).length l T k < 2 ^ (w.slots m).length := fun k => by
      induction k with
      | zero => exact Nat.pow_pos (by omega)
      | succ k ih => exact Nat.or_lt_two_pow ih (cov_lt _ _ _ _ _)
    exact this _
  rw [full_iff hlt]
  unfold mended
  simp only [List.all_eq_true, List.mem_range, List.any_eq_true]
  constructor
  · intro h s hs
    obtain ⟨x, hx, hf⟩ := h s hs
    obtain ⟨j, hj, rfl⟩ := List.getElem_of_mem hx
    refine (orN_bit (Nat.le_refl _)).2 ⟨hs, j, hj, ?_⟩
    have e : l.getD j 0 = l[j] := by simp [List.getD_eq_getElem?_getD, hj]
    rw [e]; exact hf
  · intro h s hs
    obtain ⟨_, j, hj, hf⟩ := (orN_bit (Nat.le_refl _)).1 (h s hs)
    exact ⟨_, getD_memI hj, hf⟩
/-- a list surely mends a make: in each truth -/
theorem mends_1 {w : Shop} {m : Int} {l : List Int} (h : w.mendsV l m = 1) {T : Int → Int} (hT : ∀ x ∈ l, w.can x (T x) = true) : mended w m l T = true := by
  have hr := orN_rch (w := w) (m := m) (K := (w.slots m).length) (T := T) (Nat.le_refl l.length) hT
  unfold Shop.mendsV at h
  split at h
  · cases h
  · split at h
    · rename_i h2; exact mended_iff.2 (h2 _ hr)
    · cases h
theorem mends_2 {w : Shop} {m : Int} {l : List Int} (h : w.mendsV l m = 2) {T : Int → Int} (hT : ∀ x ∈ l, w.can x (T x) = true) : mended w m l T = false := by
  have hr := orN_rch (w := w) (m := m) (K := (w.slots m).length) (T := T) (Nat.le_refl l.length) hT
  unfold Shop.mendsV at h
  split at h
  · rename_i h2
    rw [Bool.eq_false_iff]; intro h3
    rw [mended_iff.1 h3] at hr; exact h2 hr
  · split at h <;> cases h
theorem mends_3 (w : Shop) (l : List Int) (m : Int) : w.mendsV l m = 1 ∨ w.mendsV l m = 2 ∨ w.mendsV l m = 3 := by
  unfold Shop.mendsV; split
  · simp
  · split <;> simp
def Shop.isT (w : Shop) (T : List Int) : Bool := (List.range (min T.length w.sps.length)).all (fun i => w.can (i : Nat) (T.getD i 0)) && decide (T.length = w.sps.length)
theorem p42 (w : Shop) (hk : Ok w) (T : List Int) : FnA Try.prog 42 [.agg w.cells, .isl (T.map jAV)] (· = .bool (w.isT T)) := by
  have l1 : (w.sps.map Spare.av).length = w.sps.length := by simp
  have l2 : (T.map jAV).length = T.length := by simp
  have hs1 := hk.s1
  unfold Shop.isT
  refine fnA 1 ok42 (by simp) ?_
  (conv => whnf); (repeat' ((first | refine bT ?_ | refine bF ?_ | refine bN ?_ | ((first | refine bD ?_ ?_ | refine bEq ?_ ?_ | refine bNe ?_ ?_) <;> intro hh <;> try (exfalso; omega)) | refine wIn (by omega) ?_ | refine nI (by omega) ?_) <;> conv => whnf))
  refine loop_i (α := Nat) (fun k => [(5, .int .i64 k), (2, .own 0 0), (1, .isl (T.map jAV))]) (fun k => [.box false w.cells]) (fun k => k ≤ T.length ∧ k ≤ w.sps.length ∧ ∀ i, i < k → w.can (i : Nat) (T.getD i 0) = true) (fun k => w.sps.length - k) 0 (meets_id (by (repeat' apply And.intro) <;> first | rfl | exact True.intro | (intro hh; cases hh))) ⟨by omega, by omega, fun i hi => by omega⟩ ?_
  rintro k ⟨k1, k2, k3⟩
  by_cases hlt : k < T.length ∧ k < w.sps.length
  · have hi : w.isSp (k : Nat) = true := isSp_iff.2 (by omega)
    have e1 := p44 w hk k (T.getD k 0) hi
    have gk := jget hlt.1
    cases hx : w.can (k : Nat) (T.getD k 0) with
    | true =>
      rw [hx] at e1
      (conv => whnf); (repeat' ((first | refine bT ?_ | refine bF ?_ | refine bN ?_ | ((first | refine bD ?_ ?_ | refine bEq ?_ ?_ | refine bNe ?_ ?_) <;> intro hh <;> try (exfalso; omega)) | (refine iaI (by omega) (by omega) gk ?_) | (refine (e1).callq rfl rfl fun _ h => ?_; subst h) | refine wIn (by omega) ?_ | refine nI (by omega) ?_) <;> conv => whnf))
      refine ⟨k + 1, (meets_id (by (repeat' apply And.intro) <;> first | rfl | exact True.intro | (intro hh; cases hh))), ⟨by omega, by omega, fun i hi => ?_⟩, by omega⟩
      by_cases e : i = k
      · rw [e]; exact hx
      · exact k3 i (by omega)
    | false =>
      rw [hx] at e1
      have h0 : (List.range (min T.length w.sps.length)).all (fun i => w.can (i : Nat) (T.getD i 0)) = false := by
        rw [Bool.eq_false_iff]; intro h
        have := List.all_eq_true.1 h k (List.mem_range.2 (by omega))
        rw [hx] at this; cases this
      rw [h0, Bool.false_and]
      (conv => whnf); (repeat' ((first | refine bT ?_ | refine bF ?_ | refine bN ?_ | ((first | refine bD ?_ ?_ | refine bEq ?_ ?_ | refine bNe ?_ ?_) <;> intro hh <;> try (exfalso; omega)) | (refine iaI (by omega) (by omega) gk ?_) | (refine (e1).callq rfl rfl fun _ h => ?_; subst h) | refine wIn (by omega) ?_ | refine nI (by omega) ?_) <;> conv => whnf))
      all_goals rfl
  · have h0 : (List.range (min T.length w.sps.length)).all (fun i => w.can (i : Nat) (T.getD i 0)) = true := by
      rw [List.all_eq_true]; intro i hi
      have := List.mem_range.1 hi
      exact k3 i (by omega)
    rw [h0, Bool.true_and]
    (conv => whnf); (repeat' ((first | refine bT ?_ | refine bF ?_ | refine bN ?_ | ((first | refine bD ?_ ?_ | refine bEq ?_ ?_ | refine bNe ?_ ?_) <;> intro hh <;> try (exfalso; omega)) | refine wIn (by omega) ?_ | refine nI (by omega) ?_) <;> conv => whnf))
    all_goals exact congrArg AV.bool (decide_eq_decide.2 (by omega))
theorem isT_iff {w : Shop} {T : List Int} (h : w.isT T = true) : T.length = w.sps.length ∧ ∀ i, w.isSp i = true → w.can i (T.getD i.toNat 0) = true := by
  unfold Shop.isT at h
  rw [Bool.and_eq_true, decide_eq_true_iff, List.all_eq_true] at h
  refine ⟨h.2, fun i hi => ?_⟩
  have hi := isSp_iff.1 hi
  have := h.1 i.toNat (List.mem_range.2 (by omega))
  rwa [show ((i.toNat : Nat) : Int) = i by omega] at this
theorem p43 (w : Shop) (hB : Big w) (i m k : Int) : FnA Try.prog 43 [.agg w.cells, .agg [.int .i64 i, .int .i64 m, .int .i64 k]] (· = .bool (w.isSp i && w.isSl m k)) := by
  have e1 := p47 w i hB.s
  have e2 := p53 w m k hB.m (fun x hx => (hB.sl x hx).1)
  refine fnA 2 ok43 (by simp) ?_
  cases hi : w.isSp i with
  | false =>
    rw [hi] at e1
    (conv => whnf); (repeat' ((first | refine bT ?_ | refine bF ?_ | refine bN ?_ | ((first | refine bD ?_ ?_ | refine bEq ?_ ?_ | refine bNe ?_ ?_) <;> intro hh <;> try (exfalso; omega)) | (refine (e1).callq rfl rfl fun _ h => ?_; subst h) | refine wIn (by omega) ?_ | refine nI (by omega) ?_) <;> conv => whnf))
    all_goals rfl
  | true =>
    rw [hi] at e1
    (conv => whnf); (repeat' ((first | refine bT ?_ | refine bF ?_ | refine bN ?_ | ((first | refine bD ?_ ?_ | refine bEq ?_ ?_ | refine bNe ?_ ?_) <;> intro hh <;> try (exfalso; omega)) | (refine (e1).callq rfl rfl fun _ h => ?_; subst h) | (refine (e2).callq rfl rfl fun _ h => ?_; subst h) | refine wIn (by omega) ?_ | refine nI (by omega) ?_) <;> conv => whnf))
    all_goals rfl
def agrB (v : Int) (b : Bool) : Bool := if v = 1 then b else if v = 2 then !b else decide (v = 3)
theorem p45 (v : Int) (b : Bool) : FnA Try.prog 45 [.int .i64 v, .bool b] (· = .bool (agrB v b)) := by
  unfold agrB
  refine fnA 0 ok45 (by simp) ?_
  by_cases h : v = 1
  · rw [if_pos h]
    (conv => whnf); (repeat' ((first | refine bT ?_ | refine bF ?_ | refine bN ?_ | ((first | refine bD ?_ ?_ | refine bEq ?_ ?_ | refine bNe ?_ ?_) <;> intro hh <;> try (exfalso; omega)) | refine wIn (by omega) ?_ | refine nI (by omega) ?_) <;> conv => whnf))
    all_goals rfl
  · rw [if_neg h]
    by_cases h2 : v = 2
    · rw [if_pos h2]
      (conv => whnf); (repeat' ((first | refine bT ?_ | refine bF ?_ | refine bN ?_ | ((first | refine bD ?_ ?_ | refine bEq ?_ ?_ | refine bNe ?_ ?_) <;> intro hh <;> try (exfalso; omega)) | refine wIn (by omega) ?_ | refine nI (by omega) ?_) <;> conv => whnf))
      all_goals rfl
    · rw [if_neg h2]
      (conv => whnf); (repeat' ((first | refine bT ?_ | refine bF ?_ | refine bN ?_ | ((first | refine bD ?_ ?_ | refine bEq ?_ ?_ | refine bNe ?_ ?_) <;> intro hh <;> try (exfalso; omega)) | refine wIn (by omega) ?_ | refine nI (by omega) ?_) <;> conv => whnf))
      all_goals first | rfl | exact congrArg AV.bool (decide_eq_decide.2 (by omega)) | exact congrArg AV.bool (decide_eq_true (by omega)).symm | exact congrArg AV.bool (decide_eq_false (by omega)).symm
def tF2 (T : List Int) (x : Int) : Int := T.getD x.toNat 0
theorem agr_fit {w : Shop} (hk : Ok w) {i m k n : Int} (hi : w.isSp i = true) (hm : w.isSl m k = true) (hc : w.can i n = true) : agrB (w.fitsV i m k) (w.fit i n m k) = true := by
  unfold agrB
  rcases fits_3 w i m k with h | h | h
  · rw [if_pos h]; exact (fits_1 hk hi hm ⟨n, hc⟩).1 h n hc
  · rw [if_neg (by omega), if_pos h, (fits_2 hk hi).1 h n hc]; rfl
  · rw [if_neg (by omega), if_neg (by omega)]; exact decide_eq_true h
theorem agr_mend {w : Shop} {m : Int} {l : List Int} {T : Int → Int} (hT : ∀ x ∈ l, w.can x (T x) = true) : agrB (w.mendsV l m) (mended w m l T) = true := by
  unfold agrB
  rcases mends_3 w l m with h | h | h
  · rw [if_pos h]; exact mends_1 h hT
  · rw [if_neg (by omega), if_pos h, mends_2 h hT]; rfl
  · rw [if_neg (by omega), if_neg (by omega)]; exact decide_eq_true h
def anyK (w : Shop) (m s : Int) (l : List Int) (T : Int → Int) (k : Nat) : Bool := (l.take k).any fun x => w.fit x (T x) m s
theorem anyK_succ {w : Shop} {m s : Int} {l : List Int} {T : Int → Int} {k : Nat} (hk : k < l.length) : anyK w m s l T (k + 1) = (anyK w m s l T k || w.fit (l.getD k 0) (T (l.getD k 0)) m s) := by
  unfold anyK
  have e : l.getD k 0 = l[k] := by simp [List.getD_eq_getElem?_getD, hk]
  rw [e, List.take_succ_eq_append_getElem hk, List.any_append]; simp
def allM (w : Shop) (m : Int) (l : List Int) (T : Int → Int) (s : Nat) : Bool := (List.range s).all fun s => l.any fun x => w.fit x (T x) m (s : Nat)
theorem allM_succ {w : Shop} {m : Int} {l : List Int} {T : Int → Int} {s : Nat} : allM w m l T (s + 1) = (allM w m l T s && anyK w m s l T l.length) := by
  unfold allM anyK
  rw [List.range_succ, List.all_append, List.take_length]; simp
/-- PartsTrue -/
theorem k7 (w : Shop) (T l : List Int) (i m k : Int) : FnA Try.prog 7 [.agg w.cells, .agg [.isl (T.map jAV), .isl (l.map jAV)], .agg [.int .i64 i, .int .i64 m, .int .i64 k]] (· = .bool true) := by
  have e1 := p41 w
  have ll : (l.map jAV).length = l.length := by simp
  cases hr : w.ready with
  | false =>
    rw [hr] at e1
    refine fnA 4 ok7 (by simp) ?_
    (conv => whnf); (repeat' ((first | refine bT ?_ | refine bF ?_ | refine bN ?_ | ((first | refine bD ?_ ?_ | refine bEq ?_ ?_ | refine bNe ?_ ?_) <;> intro hh <;> try (exfalso; omega)) | (refine (e1).callq rfl rfl fun _ h => ?_; subst h) | (refine (p15).callq rfl rfl fun _ h => ?_; subst h) | refine wIn (by omega) ?_ | refine nI (by omega) ?_) <;> conv => whnf))
    all_goals rfl
  | true =>
  rw [hr] at e1
  obtain ⟨hf, h0, hk⟩ := ready_ok hr
  have hB := hk.big
  have e2 := p42 w hk T
  cases hT : w.isT T with
  | false =>
    rw [hT] at e2
    refine fnA 4 ok7 (by simp) ?_
    (conv => whnf); (repeat' ((first | refine bT ?_ | refine bF ?_ | refine bN ?_ | ((first | refine bD ?_ ?_ | refine bEq ?_ ?_ | refine bNe ?_ ?_) <;> intro hh <;> try (exfalso; omega)) | (refine (e1).callq rfl rfl fun _ h => ?_; subst h) | (refine (e2).callq rfl rfl fun _ h => ?_; subst h) | (refine (p15).callq rfl rfl fun _ h => ?_; subst h) | refine wIn (by omega) ?_ | refine nI (by omega) ?_) <;> conv => whnf))
    all_goals rfl
  | true =>
  rw [hT] at e2
  obtain ⟨hTl, hTc⟩ := isT_iff hT
  have e3 := p43 w hB i m k
  cases ha : (w.isSp i && w.isSl m k) with
  | false =>
    rw [ha] at e3
    refine fnA 4 ok7 (by simp) ?_
    (conv => whnf); (repeat' ((first | refine bT ?_ | refine bF ?_ | refine bN ?_ | ((first | refine bD ?_ ?_ | refine bEq ?_ ?_ | refine bNe ?_ ?_) <;> intro hh <;> try (exfalso; omega)) | (refine (e1).callq rfl rfl fun _ h => ?_; subst h) | (refine (e2).callq rfl rfl fun _ h => ?_; subst h) | (refine (e3).callq rfl rfl fun _ h => ?_; subst h) | (refine (p15).callq rfl rfl fun _ h => ?_; subst h) | refine wIn (by omega) ?_ | refine nI (by omega) ?_) <;> conv => whnf))
    all_goals rfl
  | true =>
  rw [ha] at e3
  by_cases hl : l.length ≤ 20
  case neg =>
    refine fnA 4 ok7 (by simp) ?_
    (conv => whnf); (repeat' ((first | refine bT ?_ | refine bF ?_ | refine bN ?_ | ((first | refine bD ?_ ?_ | refine bEq ?_ ?_ | refine bNe ?_ ?_) <;> intro hh <;> try (exfalso; omega)) | (refine (e1).callq rfl rfl fun _ h => ?_; subst h) | (refine (e2).callq rfl rfl fun _ h => ?_; subst h) | (refine (e3).callq rfl rfl fun _ h => ?_; subst h) | (refine (p15).callq rfl rfl fun _ h => ?_; subst h) | refine wIn (by omega) ?_ | refine nI (by omega) ?_) <;> conv => whnf))
    all_goals rfl
  have ha' := ha
  rw [Bool.and_eq_true] at ha'
  obtain ⟨hi, hm⟩ := ha'
  have hi' := isSp_iff.1 hi
  have h0i : w.eO (w.isSp i) = 0 := by rw [hi]; exact h0
  have h0f : w.eO (w.isSp i && w.isSl m k) = 0 := by rw [ha]; exact h0
  have hs : ∀ x ∈ w.mks, x.length ≤ 1000000 := fun x hx => (hB.sl x hx).1
  have hci := hTc i hi
  obtain ⟨lo1, lo2⟩ := loN_ok hk hi ⟨_, hci⟩
  obtain ⟨hi1, hi2⟩ := hiN_ok hk hi ⟨_, hci⟩
  have q1 := lo2 _ hci
  have q2 := hi2 _ hci
  have lT : (T.map jAV).length = T.length := by simp
  have gT := jget (l := T) (i := i.toNat) (by omega)
  have a1 := p19 w i hB.s h0i
  have a2 := p21 w i m k hB.s hB.m hs h0f
  have a3 := p44 w hk i (w.loN i) hi
  rw [lo1] at a3
  have a4 := p44 w hk i (w.hiN i) hi
  rw [hi1] at a4
  have a5 := p46 w hk i (T.getD i.toNat 0) m k hi hm
  have a6 := p45 (w.fitsV i m k) (w.fit i (T.getD i.toNat 0) m k)
  rw [agr_fit hk hi hm hci] at a6
  have hmk := (isSl_iff.1 hm).1
  by_cases hL : w.eO (w.isLi l && w.isMk m) = 0
  case neg =>
    have a7 := p24e w l m hB.s hB.m (by omega) hL
    have he : w.eO (w.isLi l && w.isMk m) = 1 := by
      cases hb : (w.isLi l && w.isMk m) with
      | true => rw [hb] at hL; exact absurd h0 hL
      | false => unfold Shop.eO; rw [if_neg (by simpa using chk_0 h0)]; rfl
    rw [he] at a7
    refine fnA 4 ok7 (by simp) ?_
    (conv => whnf); (repeat' ((first | refine bT ?_ | refine bF ?_ | refine bN ?_ | ((first | refine bD ?_ ?_ | refine bEq ?_ ?_ | refine bNe ?_ ?_) <;> intro hh <;> try (exfalso; omega)) | (refine (e1).callq rfl rfl fun _ h => ?_; subst h) | (refine (e2).callq rfl rfl fun _ h => ?_; subst h) | (refine (e3).callq rfl rfl fun _ h => ?_; subst h) | (refine (a1).callq rfl rfl fun _ h => ?_; subst h) | (refine (a2).callq rfl rfl fun _ h => ?_; subst h) | (refine iaI (by omega) (by omega) gT ?_) | (refine (a3).callq rfl rfl fun _ h => ?_; subst h) | (refine (a4).callq rfl rfl fun _ h => ?_; subst h) | (refine (a5).callq rfl rfl fun _ h => ?_; subst h) | (refine (a6).callq rfl rfl fun _ h => ?_; subst h) | (refine (a7).callq rfl rfl fun _ h => ?_; subst h) | (refine (p15).callq rfl rfl fun _ h => ?_; subst h) | refine wIn (by omega) ?_ | refine nI (by omega) ?_) <;> conv => whnf))
    all_goals rfl
  have a7 := p24 w l m hB.s hB.m (by omega) hL
  have hLi := eO_v hL
  rw [Bool.and_eq_true] at hLi
  have hsp : ∀ x ∈ l, w.isSp x = true := by
    have := hLi.1
    unfold Shop.isLi at this
    rw [Bool.and_eq_true] at this
    exact List.all_eq_true.1 this.2
  have hcl : ∀ x ∈ l, w.can x (tF2 T x) = true := fun x hx => hTc x (hsp x hx)
  have a8 := p45 (w.mendsV l m) (mended w m l (tF2 T))
  rw [agr_mend hcl] at a8
  have hmk' := isMk_iff.1 hmk
  have l2 : (w.mks.map mkAV).length = w.mks.length := by simp
  have l3 : ((w.slots m).map Slot.av).length = (w.slots m).length := by simp
  have h4 := hk.slots hmk
  have hm6 := hk.m1
  have g2 := mkget hmk
  refine fnA 4 ok7 (by simp) ?_
  (conv => whnf); (repeat' ((first | refine bT ?_ | refine bF ?_ | refine bN ?_ | ((first | refine bD ?_ ?_ | refine bEq ?_ ?_ | refine bNe ?_ ?_) <;> intro hh <;> try (exfalso; omega)) | (refine (e1).callq rfl rfl fun _ h => ?_; subst h) | (refine (e2).callq rfl rfl fun _ h => ?_; subst h) | (refine (e3).callq rfl rfl fun _ h => ?_; subst h) | (refine (a1).callq rfl rfl fun _ h => ?_; subst h) | (refine (a2).callq rfl rfl fun _ h => ?_; subst h) | (refine iaI (by omega) (by omega) gT ?_) | (refine (a3).callq rfl rfl fun _ h => ?_; subst h) | (refine (a4).callq rfl rfl fun _ h => ?_; subst h) | (refine (a5).callq rfl rfl fun _ h => ?_; subst h) | (refine (a6).callq rfl rfl fun _ h => ?_; subst h) | (refine (a7).callq rfl rfl fun _ h => ?_; subst h) | (refine (p15).callq rfl rfl fun _ h => ?_; subst h) | refine wIn (by omega) ?_ | refine nI (by omega) ?_) <;> conv => whnf))
  refine loop_i (α := Nat) (fun s => [(14, .int .i64 s), (13, .bool (allM w m l (tF2 T) s)), (11, .int .i64 (w.mendsV l m)), (5, .own 2 0), (4, .own 1 0), (3, .own 0 0)]) (fun s => [.box false w.cells, .box false [.isl (T.map jAV), .isl (l.map jAV)], .box false [.int .i64 i, .int .i64 m, .int .i64 k], .fresh]) (fun s => s ≤ (w.slots m).length) (fun s => (w.slots m).length - s) 0 (meets_id (by (repeat' apply And.intro) <;> first | rfl | exact True.intro | (intro hh; cases hh))) (by omega) ?_
  intro s hs0
  conv => whnf
  refine iaI (by omega) (by omega) g2 ?_
  conv => whnf
  refine bD (fun h3 => ?_) (fun h3 => ?_)
  · have hsl : w.isSl m (s : Nat) = true := isSl_iff.2 ⟨hmk, by omega, by omega⟩
    (conv => whnf); (repeat' ((first | refine bT ?_ | refine bF ?_ | refine bN ?_ | ((first | refine bD ?_ ?_ | refine bEq ?_ ?_ | refine bNe ?_ ?_) <;> intro hh <;> try (exfalso; omega)) | refine wIn (by omega) ?_ | refine nI (by omega) ?_) <;> conv => whnf))
    refine loop_i (α := Nat) (fun j => [(16, .int .i64 j), (15, .bool (anyK w m s l (tF2 T) j)), (14, .int .i64 s), (13, .bool (allM w m l (tF2 T) s)), (11, .int .i64 (w.mendsV l m)), (5, .own 2 0), (4, .own 1 0), (3, .own 0 0)]) (fun j => [.box false w.cells, .box false [.isl (T.map jAV), .isl (l.map jAV)], .box false [.int .i64 i, .int .i64 m, .int .i64 k], .fresh]) (fun j => j ≤ l.length) (fun j => l.length - j) 0 (meets_id (by (repeat' apply And.intro) <;> first | rfl | exact True.intro | (intro hh; cases hh))) (by omega) ?_
    intro j hj0
    conv => whnf
    refine bD (fun h4 => ?_) (fun h4 => ?_)
    · have hj : j < l.length := by omega
      have gj := jget hj
      have hx := hsp _ (getD_memI hj)
      have hx' := isSp_iff.1 hx
      have gt := jget (l := T) (i := (l.getD j 0).toNat) (by omega)
      have b1 := p47 w (l.getD j 0) hB.s
      rw [hx] at b1
      have b2 := p46 w hk (l.getD j 0) (tF2 T (l.getD j 0)) m s hx hsl
      have hsu := anyK_succ (w := w) (m := m) (s := s) (T := tF2 T) hj
      cases hb : anyK w m s l (tF2 T) j with
      | true =>
        rw [hb, Bool.true_or] at hsu
        (conv => whnf); (repeat' ((first | refine bT ?_ | refine bF ?_ | refine bN ?_ | ((first | refine bD ?_ ?_ | refine bEq ?_ ?_ | refine bNe ?_ ?_) <;> intro hh <;> try (exfalso; omega)) | (refine iaI (by omega) (by omega) gj ?_) | (refine (b1).callq rfl rfl fun _ h => ?_; subst h) | refine wIn (by omega) ?_ | refine nI (by omega) ?_) <;> conv => whnf))
        refine ⟨j + 1, ?_, by omega, by omega⟩
        rw [hsu]; exact (meets_id (by (repeat' apply And.intro) <;> first | rfl | exact True.intro | (intro hh; cases hh)))
      | false =>
        rw [hb, Bool.false_or] at hsu
        (conv => whnf); (repeat' ((first | refine bT ?_ | refine bF ?_ | refine bN ?_ | ((first | refine bD ?_ ?_ | refine bEq ?_ ?_ | refine bNe ?_ ?_) <;> intro hh <;> try (exfalso; omega)) | (refine iaI (by omega) (by omega) gj ?_) | (refine (b1).callq rfl rfl fun _ h => ?_; subst h) | (refine iaI (by omega) (by omega) gt ?_) | (refine (b2).callq rfl rfl fun _ h => ?_; subst h) | refine wIn (by omega) ?_ | refine nI (by omega) ?_) <;> conv => whnf))
        refine ⟨j + 1, ?_, by omega, by omega⟩
        rw [hsu]; exact (meets_id (by (repeat' apply And.intro) <;> first | rfl | exact True.intro | (intro hh; cases hh)))
    · have : j = l.length := by omega
      subst this
      have hsu := allM_succ (w := w) (m := m) (l := l) (T := tF2 T) (s := s)
      cases hb : allM w m l (tF2 T) s with
      | true =>
        rw [hb, Bool.true_and] at hsu
        (conv => whnf); (repeat' ((first | refine bT ?_ | refine bF ?_ | refine bN ?_ | ((first | refine bD ?_ ?_ | refine bEq ?_ ?_ | refine bNe ?_ ?_) <;> intro hh <;> try (exfalso; omega)) | refine wIn (by omega) ?_ | refine nI (by omega) ?_) <;> conv => whnf))
        refine ⟨s + 1, ?_, by omega, by omega⟩
        rw [hsu]; exact (meets_id (by (repeat' apply And.intro) <;> first | rfl | exact True.intro | (intro hh; cases hh)))
      | false =>
        rw [hb, Bool.false_and] at hsu
        (conv => whnf); (repeat' ((first | refine bT ?_ | refine bF ?_ | refine bN ?_ | ((first | refine bD ?_ ?_ | refine bEq ?_ ?_ | refine bNe ?_ ?_) <;> intro hh <;> try (exfalso; omega)) | refine wIn (by omega) ?_ | refine nI (by omega) ?_) <;> conv => whnf))
        refine ⟨s + 1, ?_, by omega, by omega⟩
        rw [hsu]; exact (meets_id (by (repeat' apply And.intro) <;> first | rfl | exact True.intro | (intro hh; cases hh)))
  · have : s = (w.slots m).length := by omega
    subst this
    have e : allM w m l (tF2 T) (w.slots m).length = mended w m l (tF2 T) := rfl
    rw [e]
    (conv => whnf); (repeat' ((first | refine bT ?_ | refine bF ?_ | refine bN ?_ | ((first | refine bD ?_ ?_ | refine bEq ?_ ?_ | refine bNe ?_ ?_) <;> intro hh <;> try (exfalso; omega)) | (refine (a8).callq rfl rfl fun _ h => ?_; subst h) | (refine (p15).callq rfl rfl fun _ h => ?_; subst h) | refine wIn (by omega) ?_ | refine nI (by omega) ?_) <;> conv => whnf))
    all_goals rfl
end Go.Proofs
