/- What each function of this program answers, proved by walking its body: the contracts that the law rests on, part 3. -/
import Derived.Test.YtkkpokakjblenaaBFns2
set_option linter.unusedSimpArgs false
set_option linter.unusedVariables false
set_option linter.unusedSectionVars false
namespace Go.Proofs
open Go.Eng
attribute [local irreducible] Go.Eng.brB Go.Eng.need Go.Eng.wrE Go.Eng.iaE Go.Eng.slE Go.Eng.apE Go.Eng.CallZ Go.Eng.CallE Go.Eng.VCallE Go.Eng.YldE Go.Eng.GoC Go.Eng.MeetsE Go.Eng.FnA Go.Eng.FnV Go.Eng.ItA
set_option maxRecDepth 100000
/-- beginnings: each seam surely meets with them -/
def Fig.isB (f : Fig) (near : Int) (l : List Int) : Prop := l.length = f.N ∧ (∀ x ∈ l, 0 ≤ x ∧ x < f.per) ∧ ∀ i, i < f.N → ∃ s ∈ f.stp near i, l.getD ((i + 1) % f.N) 0 = (l.getD i 0 + s).tmod f.per
theorem pth_seq {f : Fig} (hp : 1 ≤ f.per ∧ f.per ≤ 60) {near start : Int} (hs : 0 ≤ start ∧ start < f.per) : ∀ (g : Nat) (w : Way) (x : Int), f.pth near start g w x ↔
    ∃ q : Nat → Int, q 0 = start ∧ q g = x ∧ (∀ i, i < g → ∃ s ∈ f.stp near i, q (i + 1) = (q i + s).tmod f.per) ∧ w.1 = (List.range g).map q ∧ w.2 = w.1.sum
  | 0, w, x => by
    constructor
    · rintro ⟨rfl, rfl⟩
      exact ⟨fun _ => x, rfl, rfl, fun i hi => by omega, rfl, rfl⟩
    · rintro ⟨q, h1, h2, _, h3, h4⟩
      refine ⟨?_, h2.symm.trans h1⟩
      obtain ⟨a, b⟩ := w
      simp only [List.range_zero, List.map_nil] at h3
      subst h3
      simp only [List.sum_nil] at h4
      subst h4; rfl
  | g + 1, w, x => by
    constructor
    · rintro ⟨v, y, h1, ⟨s, h2, h3⟩, h4⟩
      obtain ⟨q, a1, a2, a3, a4, a5⟩ := (pth_seq hp hs g v y).1 h1
      refine ⟨fun i => if i = g + 1 then x else q i, ?_, by simp, fun i hi => ?_, ?_, ?_⟩
      · simp only; rw [if_neg (by omega)]; exact a1
      · simp only
        rw [if_neg (show i ≠ g + 1 by omega)]
        by_cases hig : i = g
        · subst hig
          rw [if_pos rfl]
          exact ⟨s, h2, by rw [h3, a2]⟩
        · rw [if_neg (by omega)]
          exact a3 i (by omega)
      · rw [h4, List.range_succ, List.map_append]
        simp only [List.map_cons, List.map_nil]
        rw [if_neg (by omega), a2, a4]
        congr 1
        apply List.map_congr_left
        intro i hi
        have := List.mem_range.1 hi
        rw [if_neg (by omega)]
      · rw [h4]; simp [a5]
    · rintro ⟨q, a1, a2, a3, a4, a5⟩
      have a4' : w.1 = (List.range g).map q ++ [q g] := by rw [a4, List.range_succ, List.map_append]; rfl
      refine ⟨((List.range g).map q, ((List.range g).map q).sum), q g, (pth_seq hp hs g _ _).2 ⟨q, a1, rfl, fun i hi => a3 i (by omega), rfl, rfl⟩, ?_, ?_⟩
      · obtain ⟨s, h1, h2⟩ := a3 g (by omega)
        exact ⟨s, h1, by rw [← h2]; exact a2.symm⟩
      · obtain ⟨a, b⟩ := w
        simp only at a4' a5
        subst a4'
        rw [a5]; simp
theorem rng_iff {f : Fig} (hok : f.ok) (near : Int) (w : Way) : f.rng near w ↔ w.2 = w.1.sum ∧ f.isB near w.1 := by
  have hp := hok.2.1
  have hN := N_in hok
  constructor
  · rintro ⟨st, hs, h⟩
    obtain ⟨q, a1, a2, a3, a4, a5⟩ := (pth_seq hp hs f.N w st).1 h
    have hq : ∀ i, i ≤ f.N → 0 ≤ q i ∧ q i < f.per := fun i hi => by
      cases i with
      | zero => rw [a1]; exact hs
      | succ i =>
        obtain ⟨s, h1, h2⟩ := a3 i (by omega)
        have b := ((mem_stp (by omega)).1 h1).1
        have : ∀ j, j ≤ i → 0 ≤ q j ∧ q j < f.per := by
          intro j hj
          induction j with
          | zero => rw [a1]; exact hs
          | succ j ih =>
            obtain ⟨s', h1', h2'⟩ := a3 j (by omega)
            have b' := ((mem_stp (by omega)).1 h1').1
            have := ih (by omega)
            obtain ⟨c1, c2, c3⟩ := tmod_in (a := q j + s') (b := f.per) (by omega) hp.1
            omega
        have := this i (Nat.le_refl _)
        obtain ⟨c1, c2, c3⟩ := tmod_in (a := q i + s) (b := f.per) (by omega) hp.1
        omega
    have hg : ∀ i, i < f.N → w.1.getD i 0 = q i := fun i hi => by rw [a4]; simp [List.getD_eq_getElem?_getD, hi]
    refine ⟨a5, by rw [a4]; simp, fun x hx => ?_, fun i hi => ?_⟩
    · rw [a4] at hx
      obtain ⟨i, hi, rfl⟩ := List.mem_map.1 hx
      exact hq i (by have := List.mem_range.1 hi; omega)
    · obtain ⟨s, h1, h2⟩ := a3 i hi
      refine ⟨s, h1, ?_⟩
      rw [hg i hi, ← h2]
      by_cases hl : i + 1 = f.N
      · rw [hl, Nat.mod_self, hg 0 (by omega), a1, a2]
      · rw [Nat.mod_eq_of_lt (by omega), hg (i + 1) (by omega)]
  · rintro ⟨h1, h2, h3, h4⟩
    have h0 : w.1.getD 0 0 ∈ w.1 := by
      rw [List.getD_eq_getElem?_getD, List.getElem?_eq_getElem (by omega)]; exact List.getElem_mem _
    refine ⟨w.1.getD 0 0, h3 _ h0, (pth_seq hp (h3 _ h0) f.N w _).2 ⟨fun i => w.1.getD (i % f.N) 0, by simp, by simp, fun i hi => ?_, ?_, h1⟩⟩
    · obtain ⟨s, k1, k2⟩ := h4 i hi
      exact ⟨s, k1, by simp only [Nat.mod_eq_of_lt hi]; exact k2⟩
    · apply List.ext_getElem (by simp [h2])
      intro n k1 k2
      simp only [List.getElem_map, List.getElem_range]
      rw [Nat.mod_eq_of_lt (by omega)]
      simp [List.getD_eq_getElem?_getD, k1]
theorem sum_nn : ∀ {l : List Int}, (∀ x ∈ l, 0 ≤ x) → 0 ≤ l.sum
  | [], _ => by simp
  | x :: l, h => by
    have h1 := h x (by simp)
    have h2 := sum_nn (l := l) fun y hy => h y (by simp [hy])
    simp only [List.sum_cons]; omega
/-- there are beginnings -/
def Fig.hasB (f : Fig) : Prop := ∃ l, f.isB f.near l
theorem minB (f : Fig) (h : f.hasB) : ∃ l, f.isB f.near l ∧ ∀ l', f.isB f.near l' → l.sum ≤ l'.sum := by
  obtain ⟨l0, h0⟩ := h
  have key : ∀ (n : Nat) (l : List Int), f.isB f.near l → l.sum.toNat ≤ n → 0 ≤ l.sum → ∃ l, f.isB f.near l ∧ ∀ l', f.isB f.near l' → l.sum ≤ l'.sum := by
    intro n
    induction n with
    | zero =>
      intro l hl h1 h2
      refine ⟨l, hl, fun l' hl' => ?_⟩
      have : 0 ≤ l'.sum := sum_nn fun x hx => (hl'.2.1 x hx).1
      omega
    | succ n ih =>
      intro l hl h1 h2
      by_cases hex : ∃ l', f.isB f.near l' ∧ l'.sum < l.sum
      · obtain ⟨l', k1, k2⟩ := hex
        have : 0 ≤ l'.sum := sum_nn fun x hx => (k1.2.1 x hx).1
        exact ih l' k1 (by omega) this
      · exact ⟨l, hl, fun l' hl' => by
          by_cases hq : l.sum ≤ l'.sum
          · exact hq
          · exact absurd ⟨l', hl', by omega⟩ hex⟩
  exact key l0.sum.toNat l0 h0 (Nat.le_refl _) (sum_nn fun x hx => (h0.2.1 x hx).1)
open Classical in
/-- the least waste, and whether there is one -/
noncomputable def Fig.lw (f : Fig) : Int := if h : f.hasB then (minB f h).choose.sum else 0
open Classical in
noncomputable def Fig.lE (f : Fig) : Int := if f.hasB then 0 else 3
theorem lw_spec {f : Fig} (h : f.hasB) : f.lE = 0 ∧ (∃ l, f.isB f.near l ∧ l.sum = f.lw) ∧ ∀ l, f.isB f.near l → f.lw ≤ l.sum := by
  have hc := (minB f h).choose_spec
  have e : f.lw = (minB f h).choose.sum := by unfold Fig.lw; rw [dif_pos h]
  refine ⟨by unfold Fig.lE; rw [if_pos h], ⟨_, hc.1, e.symm⟩, fun l hl => by rw [e]; exact hc.2 l hl⟩
theorem lw_no {f : Fig} (h : ¬ f.hasB) : f.lE = 3 ∧ f.lw = 0 := ⟨by unfold Fig.lE; rw [if_neg h], by unfold Fig.lw; rw [dif_neg h]⟩
theorem lw_eq {f : Fig} {l : List Int} (h1 : f.isB f.near l) (h2 : ∀ l', f.isB f.near l' → l.sum ≤ l'.sum) : f.lE = 0 ∧ f.lw = l.sum := by
  have hs := lw_spec ⟨l, h1⟩
  obtain ⟨l', h3, h4⟩ := hs.2.1
  exact ⟨hs.1, by have := hs.2.2 l h1; have := h2 l' h3; omega⟩
def begS (f : Fig) (r : AV) : Prop := ∃ l, r = .tup [.isl (l.map iAV), .int .i64 f.lE] ∧ (f.hasB → f.isB f.near l ∧ l.sum = f.lw) ∧ (¬ f.hasB → l = [])
theorem s42 (f : Fig) (h : f.eF = 0) : FnA Try.prog 42 [.agg f.cells] (begS f) := by
  have hok := (eF_ok h).1
  have e1 := s61 f h
  have e2 := s76 f hok
  refine fnA 10 ok42 (by simp) ?_
  (conv => whnf); (repeat' ((first | refine bT ?_ | refine bF ?_ | refine bN ?_ | ((first | refine bD ?_ ?_ | refine bEq ?_ ?_ | refine bNe ?_ ?_) <;> intro hh <;> try (exfalso; omega)) | (refine (e1).callzq rfl rfl fun _ h => ?_; subst h) | refine wIn (by omega) ?_ | refine nI (by omega) ?_) <;> conv => whnf))
  refine e2.callzq rfl rfl (fun r hr => ?_)
  rcases hr with ⟨w, rfl, h1, h2⟩ | ⟨rfl, h2⟩
  · have hb := (rng_iff hok f.near w).1 h1
    have he := lw_eq hb.2 fun l' hl' => by
      have := h2 (l', l'.sum) ((rng_iff hok f.near _).2 ⟨rfl, hl'⟩)
      omega
    (conv => whnf); (repeat' ((first | refine bT ?_ | refine bF ?_ | refine bN ?_ | ((first | refine bD ?_ ?_ | refine bEq ?_ ?_ | refine bNe ?_ ?_) <;> intro hh <;> try (exfalso; omega)) | refine wIn (by omega) ?_ | refine nI (by omega) ?_) <;> conv => whnf))
    all_goals exact ⟨w.1, by rw [he.1], fun _ => ⟨hb.2, he.2.symm⟩, fun hn => absurd ⟨w.1, hb.2⟩ hn⟩
  · have hn : ¬ f.hasB := fun ⟨l, hl⟩ => h2 (l, l.sum) ((rng_iff hok f.near _).2 ⟨rfl, hl⟩)
    (conv => whnf); (repeat' ((first | refine bT ?_ | refine bF ?_ | refine bN ?_ | ((first | refine bD ?_ ?_ | refine bEq ?_ ?_ | refine bNe ?_ ?_) <;> intro hh <;> try (exfalso; omega)) | refine wIn (by omega) ?_ | refine nI (by omega) ?_) <;> conv => whnf))
    all_goals exact ⟨[], by rw [(lw_no hn).1]; rfl, fun h => absurd h hn, fun _ => rfl⟩
theorem sum_in2 {l : List Int} {a b : Int} (h : ∀ x ∈ l, a ≤ x ∧ x ≤ b) : l.length * a ≤ l.sum ∧ l.sum ≤ l.length * b := by
  induction l with
  | nil => simp
  | cons x l ih =>
    have h1 := h x (by simp)
    have h2 := ih fun y hy => h y (by simp [hy])
    simp only [List.length_cons, List.sum_cons]
    push_cast
    rw [Int.add_mul, Int.add_mul]
    omega
theorem s26 (f : Fig) (h : f.eF = 0) : FnA Try.prog 26 [.agg f.cells] (· = .tup [.int .i64 f.lw, .int .i64 f.lE]) := by
  have hok := (eF_ok h).1
  have hp := hok.2.1
  have hN := N_in hok
  have e1 := s42 f h
  refine fnA 2 ok26 (by simp) ?_
  (conv => whnf); (repeat' ((first | refine bT ?_ | refine bF ?_ | refine bN ?_ | ((first | refine bD ?_ ?_ | refine bEq ?_ ?_ | refine bNe ?_ ?_) <;> intro hh <;> try (exfalso; omega)) | refine wIn (by omega) ?_ | refine nI (by omega) ?_) <;> conv => whnf))
  refine e1.callzq rfl rfl (fun r hr => ?_); obtain ⟨l, rfl, h1, h2⟩ := hr
  have hl : l.length ≤ 16 ∧ (∀ x ∈ l, 0 ≤ x ∧ x ≤ 60) ∧ l.sum = f.lw := by
    by_cases hb : f.hasB
    · obtain ⟨h3, h4⟩ := h1 hb
      exact ⟨by have := h3.1; omega, fun x hx => (by have := h3.2.1 x hx; omega), h4⟩
    · have := h2 hb
      subst this
      exact ⟨by simp, by simp, by rw [(lw_no hb).2]; rfl⟩
  obtain ⟨hl1, hl2, hl3⟩ := hl
  have ll : (l.map iAV).length = l.length := by simp
  (conv => whnf); (repeat' ((first | refine bT ?_ | refine bF ?_ | refine bN ?_ | ((first | refine bD ?_ ?_ | refine bEq ?_ ?_ | refine bNe ?_ ?_) <;> intro hh <;> try (exfalso; omega)) | refine wIn (by omega) ?_ | refine nI (by omega) ?_) <;> conv => whnf))
  refine loop_i (α := Nat) (fun k => [(16, .int .i64 k), (15, .int .i64 ↑(l.map iAV).length), (14, .isl (l.map iAV)), (6, .int .i64 (l.take k).sum), (5, .int .i64 f.lE)]) (fun k => [.fresh, .fresh]) (fun k => k ≤ l.length) (fun k => l.length - k) 0 (meets_id (by (repeat' apply And.intro) <;> first | rfl | exact True.intro | (intro hh; cases hh))) (by omega) ?_
  intro k hk0
  conv => whnf
  refine bD (fun h4 => ?_) (fun h4 => ?_)
  · have hk : k < l.length := by omega
    have hx := hl2 _ (List.getElem_mem hk)
    have hs := sum_in2 (l := l.take k) (a := 0) (b := 60) fun x hx => hl2 x (List.mem_of_mem_take hx)
    have hlt : (l.take k).length ≤ 16 := by rw [List.length_take]; omega
    have hss := sum_succ hk
    conv => whnf
    refine iaI (by omega) (by omega) (getD_map iAV l k hk) ?_
    (conv => whnf); (repeat' ((first | refine bT ?_ | refine bF ?_ | refine bN ?_ | ((first | refine bD ?_ ?_ | refine bEq ?_ ?_ | refine bNe ?_ ?_) <;> intro hh <;> try (exfalso; omega)) | refine wIn (by omega) ?_ | refine nI (by omega) ?_) <;> conv => whnf))
    refine ⟨k + 1, ?_, by omega, by omega⟩
    rw [hss]
    exact (meets_id (by (repeat' apply And.intro) <;> first | rfl | exact True.intro | (intro hh; cases hh)))
  · have : k = l.length := by omega
    subst this
    rw [List.take_length, hl3]
    (conv => whnf); (repeat' ((first | refine bT ?_ | refine bF ?_ | refine bN ?_ | ((first | refine bD ?_ ?_ | refine bEq ?_ ?_ | refine bNe ?_ ?_) <;> intro hh <;> try (exfalso; omega)) | refine wIn (by omega) ?_ | refine nI (by omega) ?_) <;> conv => whnf))
    all_goals rfl
theorem s35 (a b : List Int) (ha : a.length ≤ 1000000) : FnA Try.prog 35 [.isl (a.map iAV), .isl (b.map iAV)] (· = .bool (decide (a = b))) := by
  have l1 : (a.map iAV).length = a.length := by simp
  have l2 : (b.map iAV).length = b.length := by simp
  refine fnA 0 ok35 (by simp) ?_
  by_cases hl : a.length = b.length
  case neg =>
    rw [decide_eq_false fun h : a = b => hl (by rw [h])]
    (conv => whnf); (repeat' ((first | refine bT ?_ | refine bF ?_ | refine bN ?_ | ((first | refine bD ?_ ?_ | refine bEq ?_ ?_ | refine bNe ?_ ?_) <;> intro hh <;> try (exfalso; omega)) | refine wIn (by omega) ?_ | refine nI (by omega) ?_) <;> conv => whnf))
    all_goals rfl
  (conv => whnf); (repeat' ((first | refine bT ?_ | refine bF ?_ | refine bN ?_ | ((first | refine bD ?_ ?_ | refine bEq ?_ ?_ | refine bNe ?_ ?_) <;> intro hh <;> try (exfalso; omega)) | refine wIn (by omega) ?_ | refine nI (by omega) ?_) <;> conv => whnf))
  refine loop_i (α := Nat) (fun k => [(5, .int .i64 k), (1, .isl (b.map iAV)), (0, .isl (a.map iAV))]) (fun k => []) (fun k => k ≤ a.length ∧ a.take k = b.take k) (fun k => a.length - k) 0 (meets_id (by (repeat' apply And.intro) <;> first | rfl | exact True.intro | (intro hh; cases hh))) ⟨by omega, by simp⟩ ?_
  rintro k ⟨hk0, hin⟩
  conv => whnf
  refine bD (fun h4 => ?_) (fun h4 => ?_)
  · have hk : k < a.length := by omega
    have hkb : k < b.length := by omega
    conv => whnf
    refine iaI (by omega) (by omega) (getD_map iAV a k hk) ?_
    (conv => whnf); (repeat' ((first | refine bT ?_ | refine bF ?_ | refine bN ?_ | ((first | refine bD ?_ ?_ | refine bEq ?_ ?_ | refine bNe ?_ ?_) <;> intro hh <;> try (exfalso; omega)) | refine wIn (by omega) ?_ | refine nI (by omega) ?_) <;> conv => whnf))
    refine iaI (by omega) (by omega) (getD_map iAV b k hkb) ?_
    by_cases he : a[k] = b[k]
    · (conv => whnf); (repeat' ((first | refine bT ?_ | refine bF ?_ | refine bN ?_ | ((first | refine bD ?_ ?_ | refine bEq ?_ ?_ | refine bNe ?_ ?_) <;> intro hh <;> try (exfalso; omega)) | refine wIn (by omega) ?_ | refine nI (by omega) ?_) <;> conv => whnf))
      refine ⟨k + 1, (meets_id (by (repeat' apply And.intro) <;> first | rfl | exact True.intro | (intro hh; cases hh))), ⟨by omega, ?_⟩, by omega⟩
      rw [List.take_succ_eq_append_getElem hk, List.take_succ_eq_append_getElem hkb, hin, he]
    · rw [decide_eq_false fun h : a = b => he (by subst h; rfl)]
      (conv => whnf); (repeat' ((first | refine bT ?_ | refine bF ?_ | refine bN ?_ | ((first | refine bD ?_ ?_ | refine bEq ?_ ?_ | refine bNe ?_ ?_) <;> intro hh <;> try (exfalso; omega)) | refine wIn (by omega) ?_ | refine nI (by omega) ?_) <;> conv => whnf))
      all_goals rfl
  · have : k = a.length := by omega
    rw [this, List.take_length, List.take_of_length_le (by omega)] at hin
    rw [decide_eq_true hin]
    (conv => whnf); (repeat' ((first | refine bT ?_ | refine bF ?_ | refine bN ?_ | ((first | refine bD ?_ ?_ | refine bEq ?_ ?_ | refine bNe ?_ ?_) <;> intro hh <;> try (exfalso; omega)) | refine wIn (by omega) ?_ | refine nI (by omega) ?_) <;> conv => whnf))
    all_goals rfl
theorem s23 (a : List Int) (x : Int) (ha : a.length ≤ 1000000) : FnA Try.prog 23 [.isl (a.map iAV), .int .i64 x] (· = .bool (decide (x ∈ a))) := by
  have l1 : (a.map iAV).length = a.length := by simp
  refine fnA 0 ok23 (by simp) ?_
  (conv => whnf); (repeat' ((first | refine bT ?_ | refine bF ?_ | refine bN ?_ | ((first | refine bD ?_ ?_ | refine bEq ?_ ?_ | refine bNe ?_ ?_) <;> intro hh <;> try (exfalso; omega)) | refine wIn (by omega) ?_ | refine nI (by omega) ?_) <;> conv => whnf))
  refine loop_i (α := Nat) (fun k => [(5, .int .i64 k), (1, .int .i64 x), (0, .isl (a.map iAV))]) (fun k => []) (fun k => k ≤ a.length ∧ x ∉ a.take k) (fun k => a.length - k) 0 (meets_id (by (repeat' apply And.intro) <;> first | rfl | exact True.intro | (intro hh; cases hh))) ⟨by omega, by simp⟩ ?_
  rintro k ⟨hk0, hin⟩
  conv => whnf
  refine bD (fun h4 => ?_) (fun h4 => ?_)
  · have hk : k < a.length := by omega
    conv => whnf
    refine iaI (by omega) (by omega) (getD_map iAV a k hk) ?_
    by_cases he : a[k] = x
    · rw [decide_eq_true (show x ∈ a from he ▸ List.getElem_mem hk)]
      (conv => whnf); (repeat' ((first | refine bT ?_ | refine bF ?_ | refine bN ?_ | ((first | refine bD ?_ ?_ | refine bEq ?_ ?_ | refine bNe ?_ ?_) <;> intro hh <;> try (exfalso; omega)) | refine wIn (by omega) ?_ | refine nI (by omega) ?_) <;> conv => whnf))
      all_goals rfl
    · (conv => whnf); (repeat' ((first | refine bT ?_ | refine bF ?_ | refine bN ?_ | ((first | refine bD ?_ ?_ | refine bEq ?_ ?_ | refine bNe ?_ ?_) <;> intro hh <;> try (exfalso; omega)) | refine wIn (by omega) ?_ | refine nI (by omega) ?_) <;> conv => whnf))
      refine ⟨k + 1, (meets_id (by (repeat' apply And.intro) <;> first | rfl | exact True.intro | (intro hh; cases hh))), ⟨by omega, fun hm => ?_⟩, by omega⟩
      rw [List.take_succ_eq_append_getElem hk] at hm
      rcases List.mem_append.1 hm with hm | hm
      · exact hin hm
      · simp only [List.mem_singleton] at hm; exact he hm.symm
  · have : k = a.length := by omega
    subst this
    rw [List.take_length] at hin
    rw [decide_eq_false hin]
    (conv => whnf); (repeat' ((first | refine bT ?_ | refine bF ?_ | refine bN ?_ | ((first | refine bD ?_ ?_ | refine bEq ?_ ?_ | refine bNe ?_ ?_) <;> intro hh <;> try (exfalso; omega)) | refine wIn (by omega) ?_ | refine nI (by omega) ?_) <;> conv => whnf))
    all_goals rfl
def exD : Dome := ⟨[⟨0, 20, [⟨1000, 1005, 1010⟩], 0⟩, ⟨0, 10, [], 0⟩], [0, 0, 1, 1], 5, [(400, 404), (600, 650), (803, 806)], [110, 165, 210], 50⟩
def exF : Fig := ⟨exD, 12, 100, 1, [0, 3, 8, 0], [5, 3, 8, 2]⟩
def exG : Fig := ⟨exD, 12, 100, 2, [0, 3, 8, 0], [5, 3, 8, 2]⟩
theorem s78 : FnO Try.prog 78 [] (fun r rows => r = .agg [.row 2, .row 3, .int .i64 5, .row 4, .row 5, .int .i64 50] ∧ rows = [(2, .row false 55 4 (exD.bs.map Bolt.av)), (3, .row false 3 1 (exD.gs.map iAV)), (4, .row false 50 2 (exD.rs.map pairAV)), (5, .row false 3 1 (exD.ws.map iAV))]) := by
  refine fnO 6 ok78 (by simp) ?_
  (conv => whnf); (repeat' ((first | refine bT ?_ | refine bF ?_ | refine bN ?_ | ((first | refine bD ?_ ?_ | refine bEq ?_ ?_ | refine bNe ?_ ?_) <;> intro hh <;> try (exfalso; omega)) | refine wIn (by omega) ?_ | refine nI (by omega) ?_) <;> conv => whnf))
  all_goals exact ⟨rfl, rfl⟩
theorem s57 : FnO Try.prog 57 [] (fun r rows => r = .agg [.row 1, .row 2, .int .i64 5, .row 3, .row 4, .int .i64 50, .int .i64 12, .int .i64 100, .int .i64 1, .row 5, .row 6] ∧ rows = [(1, .row false 55 4 (exD.bs.map Bolt.av)), (2, .row false 3 1 (exD.gs.map iAV)), (3, .row false 50 2 (exD.rs.map pairAV)), (4, .row false 3 1 (exD.ws.map iAV)), (5, .row false 3 1 (exF.st.map iAV)), (6, .row false 3 1 (exF.ti.map iAV))]) := by
  refine fnO 7 ok57 (by simp) ?_
  conv => whnf
  refine s78.callzq rfl rfl (fun r rows (hr : r = _ ∧ rows = _) => ?_); obtain ⟨hr1, hr2⟩ := hr; subst hr1; subst hr2; refine ⟨rfl, ?_⟩
  (conv => whnf); (repeat' ((first | refine bT ?_ | refine bF ?_ | refine bN ?_ | ((first | refine bD ?_ ?_ | refine bEq ?_ ?_ | refine bNe ?_ ?_) <;> intro hh <;> try (exfalso; omega)) | refine wIn (by omega) ?_ | refine nI (by omega) ?_) <;> conv => whnf))
  all_goals exact ⟨rfl, rfl⟩
theorem exD_ok : exD.ok := by
  constructor
  · unfold Dome.ok1; decide
  · unfold Dome.okB; decide
theorem exD_has : exD.has = true := by kernel_rfl
theorem exF_ok : exF.ok := ⟨exD_ok, by unfold Fig.okF; decide⟩
theorem exG_ok : exG.ok := ⟨exD_ok, by unfold Fig.okF; decide⟩
theorem exF_eF : exF.eF = 0 := by unfold Fig.eF; rw [if_pos exF_ok, show exF.d.has = true from exD_has]; rfl
theorem exG_eF : exG.eF = 0 := by unfold Fig.eF; rw [if_pos exG_ok, show exG.d.has = true from exD_has]; rfl
theorem exF_bad : exF.bad = [0, 3] := by kernel_rfl
theorem exF_clst : exF.clst = 2 := by kernel_rfl
theorem exF_snd : exF.snd = 13 := by kernel_rfl
/-- all ways from a start -/
def Fig.allP (f : Fig) (near start : Int) : Nat → List (Way × Int)
  | 0 => [(([], 0), start)]
  | g + 1 => (f.allP near start g).flatMap fun p => (f.stp near g).map fun s => ((p.1.1 ++ [p.2], p.1.2 + p.2), (p.2 + s).tmod f.per)
theorem mem_allP {f : Fig} {near start : Int} : ∀ {g : Nat} {w : Way} {x : Int}, (w, x) ∈ f.allP near start g ↔ f.pth near start g w x
  | 0, w, x => by simp [Fig.allP, Fig.pth]
  | g + 1, w, x => by
    simp only [Fig.allP, List.mem_flatMap, List.mem_map, Fig.pth]
    constructor
    · rintro ⟨⟨v, y⟩, h1, s, h2, h3⟩
      simp only [Prod.mk.injEq] at h3
      exact ⟨v, y, mem_allP.1 h1, ⟨s, h2, h3.2.symm⟩, h3.1.symm⟩
    · rintro ⟨v, y, h1, ⟨s, h2, h3⟩, h4⟩
      exact ⟨(v, y), mem_allP.2 h1, s, h2, by rw [h3, h4]⟩
theorem exG_min : ((List.range 12).all fun st => (exG.allP 2 st 4).all fun p => decide (p.2 = st → 12 ≤ p.1.2)) = true := by kernel_rfl
theorem exG_one : ((List.range 12).any fun st => (exG.allP 2 st 4).any fun p => decide (p.2 = st ∧ p.1.2 = 12)) = true := by kernel_rfl
theorem exG_lw : exG.lE = 0 ∧ exG.lw = 12 := by
  obtain ⟨st, h1, h2⟩ := List.any_eq_true.1 exG_one
  obtain ⟨⟨w, x⟩, h3, h4⟩ := List.any_eq_true.1 h2
  simp only [decide_eq_true_eq] at h4
  have hst := List.mem_range.1 h1
  have hr : exG.rng 2 w := ⟨st, ⟨by omega, by show (st : Int) < 12; omega⟩, by rw [← h4.1]; rw [← h4.1] at h3; exact mem_allP.1 h3⟩
  have hb := (rng_iff exG_ok 2 w).1 hr
  have := lw_eq (f := exG) (l := w.1) hb.2 fun l' hl' => by
    obtain ⟨st', k1, k2⟩ := (rng_iff exG_ok 2 (l', l'.sum)).2 ⟨rfl, hl'⟩
    have k1' : 0 ≤ st' ∧ st' < 12 := k1
    have h5 := List.all_eq_true.1 exG_min st'.toNat (List.mem_range.2 (by omega))
    have e : ((st'.toNat : Nat) : Int) = st' := by omega
    rw [e] at h5
    have h6 := List.all_eq_true.1 h5 _ (mem_allP.2 k2)
    simp only [decide_eq_true_eq] at h6
    have := h6 trivial
    rw [← hb.1, h4.2]; exact this
  exact ⟨this.1, by rw [this.2, ← hb.1]; exact h4.2⟩
theorem s20 : FnA Try.prog 20 [] (· = .bool true) := by
  have e1 := s22 exF exF_eF
  rw [exF_bad] at e1
  have e2 := s29 exF exF_eF
  rw [exF_clst] at e2
  have e3 := s31 exF exF_ok
  rw [exF_snd] at e3
  have e4 := s26 exG exG_eF
  rw [exG_lw.1, exG_lw.2] at e4
  have e5 := s35 [0, 3] [0, 3] (by decide)
  rw [decide_eq_true rfl] at e5
  refine fnA 9 ok20 (by simp) ?_
  conv => whnf
  refine s57.callzq rfl rfl (fun r rows (hr : r = _ ∧ rows = _) => ?_); obtain ⟨hr1, hr2⟩ := hr; subst hr1; subst hr2; refine ⟨rfl, ?_⟩
  (conv => whnf); (repeat' ((first | refine bT ?_ | refine bF ?_ | refine bN ?_ | ((first | refine bD ?_ ?_ | refine bEq ?_ ?_ | refine bNe ?_ ?_) <;> intro hh <;> try (exfalso; omega)) | (refine (e1).callzq rfl rfl fun _ h => ?_; subst h) | (refine (e2).lendq rfl fun _ h => ?_; subst h; refine ⟨rfl, ?_⟩) | (refine (e3).lendq rfl fun _ h => ?_; subst h; refine ⟨rfl, ?_⟩) | (refine (e4).lendq rfl fun _ h => ?_; subst h; refine ⟨rfl, ?_⟩) | (refine (e5).lendq rfl fun _ h => ?_; subst h; refine ⟨rfl, ?_⟩) | refine wIn (by omega) ?_ | refine nI (by omega) ?_) <;> conv => whnf))
  all_goals rfl
theorem s64 (l : List Int) (hl : l.length ≤ 1000000) (many lo hi : Int) : FnA Try.prog 64 [.isl (l.map iAV), .int .i64 many, .int .i64 lo, .int .i64 hi] (· = .bool (decide ((∀ x ∈ l, lo ≤ x ∧ x ≤ hi) ∧ (l.length : Int) = many))) := by
  have l1 : (l.map iAV).length = l.length := by simp
  refine fnA 0 ok64 (by simp) ?_
  (conv => whnf); (repeat' ((first | refine bT ?_ | refine bF ?_ | refine bN ?_ | ((first | refine bD ?_ ?_ | refine bEq ?_ ?_ | refine bNe ?_ ?_) <;> intro hh <;> try (exfalso; omega)) | refine wIn (by omega) ?_ | refine nI (by omega) ?_) <;> conv => whnf))
  refine loop_i (α := Nat) (fun k => [(9, .int .i64 k), (3, .int .i64 hi), (2, .int .i64 lo), (1, .int .i64 many), (0, .isl (l.map iAV))]) (fun k => []) (fun k => k ≤ l.length ∧ ∀ x ∈ l.take k, lo ≤ x ∧ x ≤ hi) (fun k => l.length - k) 0 (meets_id (by (repeat' apply And.intro) <;> first | rfl | exact True.intro | (intro hh; cases hh))) ⟨by omega, by simp⟩ ?_
  rintro k ⟨hk0, hin⟩
  conv => whnf
  refine bD (fun h4 => ?_) (fun h4 => ?_)
  · have hk : k < l.length := by omega
    by_cases hx : lo ≤ l[k] ∧ l[k] ≤ hi
    · (conv => whnf); (repeat' ((first | refine bT ?_ | refine bF ?_ | refine bN ?_ | ((first | refine bD ?_ ?_ | refine bEq ?_ ?_ | refine bNe ?_ ?_) <;> intro hh <;> try (exfalso; omega)) | (refine iaI (by omega) (by omega) (getD_map iAV l k hk) ?_) | refine wIn (by omega) ?_ | refine nI (by omega) ?_) <;> conv => whnf))
      exact ⟨k + 1, (meets_id (by (repeat' apply And.intro) <;> first | rfl | exact True.intro | (intro hh; cases hh))), ⟨by omega, all_take hk hin hx⟩, by omega⟩
    · rw [decide_eq_false fun h : (∀ x ∈ l, lo ≤ x ∧ x ≤ hi) ∧ (l.length : Int) = many => hx (h.1 _ (List.getElem_mem hk))]
      (conv => whnf); (repeat' ((first | refine bT ?_ | refine bF ?_ | refine bN ?_ | ((first | refine bD ?_ ?_ | refine bEq ?_ ?_ | refine bNe ?_ ?_) <;> intro hh <;> try (exfalso; omega)) | (refine iaI (by omega) (by omega) (getD_map iAV l k hk) ?_) | refine wIn (by omega) ?_ | refine nI (by omega) ?_) <;> conv => whnf))
      all_goals rfl
  · have : k = l.length := by omega
    subst this
    rw [List.take_length] at hin
    have e : decide ((∀ x ∈ l, lo ≤ x ∧ x ≤ hi) ∧ (l.length : Int) = many) = decide ((l.length : Int) = many) := decide_eq_decide.2 ⟨fun h => h.2, fun h => ⟨hin, h⟩⟩
    rw [e, ← l1]
    (conv => whnf); (repeat' ((first | refine bT ?_ | refine bF ?_ | refine bN ?_ | ((first | refine bD ?_ ?_ | refine bEq ?_ ?_ | refine bNe ?_ ?_) <;> intro hh <;> try (exfalso; omega)) | refine wIn (by omega) ?_ | refine nI (by omega) ?_) <;> conv => whnf))
    all_goals first | rfl | exact congrArg AV.bool (decide_eq_true (by omega)).symm | exact congrArg AV.bool (decide_eq_false (by omega)).symm
def Fig.small (f : Fig) : Prop := f.d.small ∧ f.st.length ≤ 60 ∧ f.ti.length ≤ 60
theorem s17 (f : Fig) : FnA Try.prog 17 [.agg f.cells] (fun r => ∃ b : Bool, r = .bool b ∧ (b = false → f.small)) := by
  have l2 : (f.st.map iAV).length = f.st.length := by simp
  have l3 : (f.ti.map iAV).length = f.ti.length := by simp
  refine fnA 1 ok17 (by simp) ?_
  (conv => whnf); (repeat' ((first | refine bT ?_ | refine bF ?_ | refine bN ?_ | ((first | refine bD ?_ ?_ | refine bEq ?_ ?_ | refine bNe ?_ ?_) <;> intro hh <;> try (exfalso; omega)) | refine wIn (by omega) ?_ | refine nI (by omega) ?_) <;> conv => whnf))
  refine (k33 f.d).callq rfl rfl (fun r hr => ?_); obtain ⟨b, rfl, hb⟩ := hr
  cases b with
  | true =>
    (conv => whnf); (repeat' ((first | refine bT ?_ | refine bF ?_ | refine bN ?_ | ((first | refine bD ?_ ?_ | refine bEq ?_ ?_ | refine bNe ?_ ?_) <;> intro hh <;> try (exfalso; omega)) | refine wIn (by omega) ?_ | refine nI (by omega) ?_) <;> conv => whnf))
    all_goals exact ⟨_, rfl, fun h => by cases h⟩
  | false =>
    by_cases c1 : f.st.length ≤ 60
    · by_cases c2 : f.ti.length ≤ 60
      · (conv => whnf); (repeat' ((first | refine bT ?_ | refine bF ?_ | refine bN ?_ | ((first | refine bD ?_ ?_ | refine bEq ?_ ?_ | refine bNe ?_ ?_) <;> intro hh <;> try (exfalso; omega)) | refine wIn (by omega) ?_ | refine nI (by omega) ?_) <;> conv => whnf))
        all_goals exact ⟨_, rfl, fun _ => ⟨hb rfl, c1, c2⟩⟩
      · (conv => whnf); (repeat' ((first | refine bT ?_ | refine bF ?_ | refine bN ?_ | ((first | refine bD ?_ ?_ | refine bEq ?_ ?_ | refine bNe ?_ ?_) <;> intro hh <;> try (exfalso; omega)) | refine wIn (by omega) ?_ | refine nI (by omega) ?_) <;> conv => whnf))
        all_goals exact ⟨_, rfl, fun h => by simp at h; omega⟩
    · (conv => whnf); (repeat' ((first | refine bT ?_ | refine bF ?_ | refine bN ?_ | ((first | refine bD ?_ ?_ | refine bEq ?_ ?_ | refine bNe ?_ ?_) <;> intro hh <;> try (exfalso; omega)) | refine wIn (by omega) ?_ | refine nI (by omega) ?_) <;> conv => whnf))
      all_goals exact ⟨_, rfl, fun h => by first | cases h | (simp at h; omega)⟩
theorem s32 (f : Fig) (hs : f.small) : FnA Try.prog 32 [.agg f.cells] (· = .int .i64 f.chk) := by
  have e0 := k28 f.d
  have l1 : (f.d.gs.map iAV).length = f.d.gs.length := by simp
  by_cases hd : f.d.ok
  case neg =>
    have h0 := chk_pos hd
    have : f.chk = f.d.chk := by unfold Fig.chk; rw [if_neg hd]
    rw [this]
    refine fnA 1 ok32 (by simp) ?_
    (conv => whnf); (repeat' ((first | refine bT ?_ | refine bF ?_ | refine bN ?_ | ((first | refine bD ?_ ?_ | refine bEq ?_ ?_ | refine bNe ?_ ?_) <;> intro hh <;> try (exfalso; omega)) | (refine (e0).callq rfl rfl fun _ h => ?_; subst h) | refine wIn (by omega) ?_ | refine nI (by omega) ?_) <;> conv => whnf))
    all_goals rfl
  rw [chk_ok hd] at e0
  have hF : f.chk = if f.okF then 0 else 40 := by unfold Fig.chk; rw [if_pos hd]
  have hh : f.okF ↔ ((1 ≤ f.per ∧ f.per ≤ 60) ∧ (0 ≤ f.run ∧ f.run ≤ 2000) ∧ (0 ≤ f.near ∧ f.near ≤ f.per.tdiv 2) ∧ ((∀ x ∈ f.st, 0 ≤ x ∧ x ≤ f.per - 1) ∧ (f.st.length : Int) = ↑(f.d.gs.map iAV).length) ∧ ((∀ x ∈ f.ti, 1 ≤ x ∧ x ≤ 99) ∧ (f.ti.length : Int) = ↑(f.d.gs.map iAV).length)) := by
    rw [l1]
    constructor
    · rintro ⟨h1, h2, h3, h4, h5, h6, h7⟩
      exact ⟨h1, h2, h3, ⟨h5, by omega⟩, h7, by omega⟩
    · rintro ⟨h1, h2, h3, ⟨h4, h5⟩, h6, h7⟩
      exact ⟨h1, h2, h3, by omega, h4, by omega, h6⟩
  have e1 := s64 f.st (by have := hs.2.1; omega) ↑(f.d.gs.map iAV).length 0 (f.per - 1)
  have e2 := s64 f.ti (by have := hs.2.2; omega) ↑(f.d.gs.map iAV).length 1 99
  rw [hF]
  by_cases c1 : 1 ≤ f.per ∧ f.per ≤ 60
  case neg =>
    rw [if_neg fun h => c1 h.1]
    refine fnA 1 ok32 (by simp) ?_
    (conv => whnf); (repeat' ((first | refine bT ?_ | refine bF ?_ | refine bN ?_ | ((first | refine bD ?_ ?_ | refine bEq ?_ ?_ | refine bNe ?_ ?_) <;> intro hh <;> try (exfalso; omega)) | (refine (e0).callq rfl rfl fun _ h => ?_; subst h) | refine wIn (by omega) ?_ | refine nI (by omega) ?_) <;> conv => whnf))
    all_goals rfl
  have hq : 0 ≤ f.per.tdiv 2 ∧ f.per.tdiv 2 ≤ 60 := by rw [Int.tdiv_eq_ediv_of_nonneg (by omega)]; omega
  by_cases c2 : (0 ≤ f.run ∧ f.run ≤ 2000) ∧ (0 ≤ f.near ∧ f.near ≤ f.per.tdiv 2)
  case neg =>
    rw [if_neg fun h => c2 ⟨h.2.1, h.2.2.1⟩]
    refine fnA 1 ok32 (by simp) ?_
    (conv => whnf); (repeat' ((first | refine bT ?_ | refine bF ?_ | refine bN ?_ | ((first | refine bD ?_ ?_ | refine bEq ?_ ?_ | refine bNe ?_ ?_) <;> intro hh <;> try (exfalso; omega)) | (refine (e0).callq rfl rfl fun _ h => ?_; subst h) | refine wIn (by omega) ?_ | refine nI (by omega) ?_) <;> conv => whnf))
    all_goals rfl
  by_cases c3 : (∀ x ∈ f.st, 0 ≤ x ∧ x ≤ f.per - 1) ∧ (f.st.length : Int) = ↑(f.d.gs.map iAV).length
  case neg =>
    rw [if_neg fun h => c3 (hh.1 h).2.2.2.1]
    rw [decide_eq_false c3] at e1
    refine fnA 1 ok32 (by simp) ?_
    (conv => whnf); (repeat' ((first | refine bT ?_ | refine bF ?_ | refine bN ?_ | ((first | refine bD ?_ ?_ | refine bEq ?_ ?_ | refine bNe ?_ ?_) <;> intro hh <;> try (exfalso; omega)) | (refine (e0).callq rfl rfl fun _ h => ?_; subst h) | (refine (e1).callq rfl rfl fun _ h => ?_; subst h) | refine wIn (by omega) ?_ | refine nI (by omega) ?_) <;> conv => whnf))
    all_goals rfl
  rw [decide_eq_true c3] at e1
  by_cases c4 : (∀ x ∈ f.ti, 1 ≤ x ∧ x ≤ 99) ∧ (f.ti.length : Int) = ↑(f.d.gs.map iAV).length
  case neg =>
    rw [if_neg fun h => c4 (hh.1 h).2.2.2.2]
    rw [decide_eq_false c4] at e2
    refine fnA 1 ok32 (by simp) ?_
    (conv => whnf); (repeat' ((first | refine bT ?_ | refine bF ?_ | refine bN ?_ | ((first | refine bD ?_ ?_ | refine bEq ?_ ?_ | refine bNe ?_ ?_) <;> intro hh <;> try (exfalso; omega)) | (refine (e0).callq rfl rfl fun _ h => ?_; subst h) | (refine (e1).callq rfl rfl fun _ h => ?_; subst h) | (refine (e2).callq rfl rfl fun _ h => ?_; subst h) | refine wIn (by omega) ?_ | refine nI (by omega) ?_) <;> conv => whnf))
    all_goals rfl
  rw [decide_eq_true c4] at e2
  rw [if_pos (hh.2 ⟨c1, c2.1, c2.2, c3, c4⟩)]
  refine fnA 1 ok32 (by simp) ?_
  (conv => whnf); (repeat' ((first | refine bT ?_ | refine bF ?_ | refine bN ?_ | ((first | refine bD ?_ ?_ | refine bEq ?_ ?_ | refine bNe ?_ ?_) <;> intro hh <;> try (exfalso; omega)) | (refine (e0).callq rfl rfl fun _ h => ?_; subst h) | (refine (e1).callq rfl rfl fun _ h => ?_; subst h) | (refine (e2).callq rfl rfl fun _ h => ?_; subst h) | refine wIn (by omega) ?_ | refine nI (by omega) ?_) <;> conv => whnf))
  all_goals rfl
theorem s39 (f : Fig) : FnA Try.prog 39 [.agg f.cells] (fun r => ∃ b : Bool, r = .bool b ∧ (b = false → f.small ∧ (f.ok → f.N ≤ 5 ∧ f.per ≤ 8))) := by
  have l2 : (f.st.map iAV).length = f.st.length := by simp
  refine fnA 1 ok39 (by simp) ?_
  conv => whnf
  refine (s17 f).callq rfl rfl (fun r hr => ?_); obtain ⟨b, rfl, hb⟩ := hr
  cases b with
  | true =>
    (conv => whnf); (repeat' ((first | refine bT ?_ | refine bF ?_ | refine bN ?_ | ((first | refine bD ?_ ?_ | refine bEq ?_ ?_ | refine bNe ?_ ?_) <;> intro hh <;> try (exfalso; omega)) | refine wIn (by omega) ?_ | refine nI (by omega) ?_) <;> conv => whnf))
    all_goals exact ⟨_, rfl, fun h => by cases h⟩
  | false =>
    have e1 := s32 f (hb rfl)
    by_cases hok : f.ok
    · rw [chkF_ok hok] at e1
      have hst : f.st.length = f.N := hok.2.2.2.2.1
      by_cases c1 : f.N ≤ 5
      · by_cases c2 : f.per ≤ 8
        · (conv => whnf); (repeat' ((first | refine bT ?_ | refine bF ?_ | refine bN ?_ | ((first | refine bD ?_ ?_ | refine bEq ?_ ?_ | refine bNe ?_ ?_) <;> intro hh <;> try (exfalso; omega)) | (refine (e1).callq rfl rfl fun _ h => ?_; subst h) | refine wIn (by omega) ?_ | refine nI (by omega) ?_) <;> conv => whnf))
          all_goals exact ⟨_, rfl, fun _ => ⟨hb rfl, fun _ => ⟨c1, c2⟩⟩⟩
        · (conv => whnf); (repeat' ((first | refine bT ?_ | refine bF ?_ | refine bN ?_ | ((first | refine bD ?_ ?_ | refine bEq ?_ ?_ | refine bNe ?_ ?_) <;> intro hh <;> try (exfalso; omega)) | (refine (e1).callq rfl rfl fun _ h => ?_; subst h) | refine wIn (by omega) ?_ | refine nI (by omega) ?_) <;> conv => whnf))
          all_goals exact ⟨_, rfl, fun h => by first | cases h | (simp at h; omega)⟩
      · (conv => whnf); (repeat' ((first | refine bT ?_ | refine bF ?_ | refine bN ?_ | ((first | refine bD ?_ ?_ | refine bEq ?_ ?_ | refine bNe ?_ ?_) <;> intro hh <;> try (exfalso; omega)) | (refine (e1).callq rfl rfl fun _ h => ?_; subst h) | refine wIn (by omega) ?_ | refine nI (by omega) ?_) <;> conv => whnf))
        all_goals exact ⟨_, rfl, fun h => by first | cases h | (simp at h; omega)⟩
    · have h0 := chkF_pos hok
      (conv => whnf); (repeat' ((first | refine bT ?_ | refine bF ?_ | refine bN ?_ | ((first | refine bD ?_ ?_ | refine bEq ?_ ?_ | refine bNe ?_ ?_) <;> intro hh <;> try (exfalso; omega)) | (refine (e1).callq rfl rfl fun _ h => ?_; subst h) | refine wIn (by omega) ?_ | refine nI (by omega) ?_) <;> conv => whnf))
      all_goals exact ⟨_, rfl, fun _ => ⟨hb rfl, fun h => absurd h hok⟩⟩
/-- the error of the reference's check -/
theorem s55 (f : Fig) (hs : f.small) (i : Int) : FnA Try.prog 55 [.agg f.cells, .int .i64 i] (· = .int .i64 (f.eM i)) := by
  have e0 := s32 f hs
  have l2 : (f.st.map iAV).length = f.st.length := by simp
  by_cases hok : f.ok
  case neg =>
    have h0 := chkF_pos hok
    have : f.eM i = f.chk := by unfold Fig.eM; rw [if_neg hok]
    rw [this]
    refine fnA 2 ok55 (by simp) ?_
    (conv => whnf); (repeat' ((first | refine bT ?_ | refine bF ?_ | refine bN ?_ | ((first | refine bD ?_ ?_ | refine bEq ?_ ?_ | refine bNe ?_ ?_) <;> intro hh <;> try (exfalso; omega)) | (refine (e0).callq rfl rfl fun _ h => ?_; subst h) | refine wIn (by omega) ?_ | refine nI (by omega) ?_) <;> conv => whnf))
    all_goals rfl
  rw [chkF_ok hok] at e0
  have hst : f.st.length = f.d.gs.length := hok.2.2.2.2.1
  by_cases hi : 0 ≤ i ∧ i < f.d.gs.length
  case neg =>
    have : f.eM i = 1 := by unfold Fig.eM; rw [if_pos hok, if_neg hi]
    rw [this]
    refine fnA 2 ok55 (by simp) ?_
    (conv => whnf); (repeat' ((first | refine bT ?_ | refine bF ?_ | refine bN ?_ | ((first | refine bD ?_ ?_ | refine bEq ?_ ?_ | refine bNe ?_ ?_) <;> intro hh <;> try (exfalso; omega)) | (refine (e0).callq rfl rfl fun _ h => ?_; subst h) | refine wIn (by omega) ?_ | refine nI (by omega) ?_) <;> conv => whnf))
    all_goals rfl
  have hbl := hok.1.1.1
  have hno : f.d.no 0 = 0 := by unfold Dome.no; rw [if_pos hok.1, if_pos ⟨by omega, by omega⟩]
  by_cases hh : f.d.has = true
  · have : f.eM i = 0 := by unfold Fig.eM; rw [if_pos hok, if_pos hi, if_pos hh]
    rw [this]
    have hB : f.d.eB 0 = 0 := by unfold Dome.eB; rw [if_pos hno, if_pos hh]
    have e1 := k35 f.d 0 hB (by omega)
    refine fnA 2 ok55 (by simp) ?_
    (conv => whnf); (repeat' ((first | refine bT ?_ | refine bF ?_ | refine bN ?_ | ((first | refine bD ?_ ?_ | refine bEq ?_ ?_ | refine bNe ?_ ?_) <;> intro hh <;> try (exfalso; omega)) | (refine (e0).callq rfl rfl fun _ h => ?_; subst h) | (refine (e1).callzq rfl rfl fun _ h => ?_; subst h) | refine wIn (by omega) ?_ | refine nI (by omega) ?_) <;> conv => whnf))
    all_goals rfl
  · have : f.eM i = 3 := by unfold Fig.eM; rw [if_pos hok, if_pos hi, if_neg hh]
    rw [this]
    have hB : f.d.eB 0 = 3 := by unfold Dome.eB; rw [if_pos hno, if_neg hh]
    have e1 := k35_no f.d 0 (by rw [hB]; decide)
    rw [hB] at e1
    refine fnA 2 ok55 (by simp) ?_
    (conv => whnf); (repeat' ((first | refine bT ?_ | refine bF ?_ | refine bN ?_ | ((first | refine bD ?_ ?_ | refine bEq ?_ ?_ | refine bNe ?_ ?_) <;> intro hh <;> try (exfalso; omega)) | (refine (e0).callq rfl rfl fun _ h => ?_; subst h) | (refine (e1).callzq rfl rfl fun _ h => ?_; subst h) | refine wIn (by omega) ?_ | refine nI (by omega) ?_) <;> conv => whnf))
    all_goals rfl
theorem eM_0 (f : Fig) : f.eM 0 = f.eF := by
  unfold Fig.eM Fig.eF
  by_cases hok : f.ok
  · have := hok.1.1.2.1
    rw [if_pos hok, if_pos hok, if_pos ⟨by omega, by omega⟩]
  · rw [if_neg hok, if_neg hok]
theorem s18 (f : Fig) (hs : f.small) : FnA Try.prog 18 [.agg f.cells] (· = .int .i64 f.eF) := by
  have e1 := s55 f hs 0
  rw [eM_0] at e1
  refine fnA 1 ok18 (by simp) ?_
  (conv => whnf); (repeat' ((first | refine bT ?_ | refine bF ?_ | refine bN ?_ | ((first | refine bD ?_ ?_ | refine bEq ?_ ?_ | refine bNe ?_ ?_) <;> intro hh <;> try (exfalso; omega)) | (refine (e1).callq rfl rfl fun _ h => ?_; subst h) | refine wIn (by omega) ?_ | refine nI (by omega) ?_) <;> conv => whnf))
  all_goals rfl
theorem eF_3 (f : Fig) : f.eF = 0 ∨ f.eF = 3 ∨ f.eF = 20 ∨ f.eF = 21 ∨ f.eF = 40 := by
  unfold Fig.eF
  split
  · split
    · exact .inl rfl
    · exact .inr (.inl rfl)
  · rename_i h
    rcases chkF_pos h with h | h | h <;> omega
theorem s25 (f : Fig) : FnA Try.prog 25 [.agg f.cells] (fun r => ∃ b : Bool, r = .bool b ∧ (b = true → f.small ∧ f.eF = 0 ∧ f.N ≤ 5 ∧ f.per ≤ 8)) := by
  refine fnA 1 ok25 (by simp) ?_
  conv => whnf
  refine (s39 f).callq rfl rfl (fun r hr => ?_); obtain ⟨b, rfl, hb⟩ := hr
  cases b with
  | true =>
    (conv => whnf); (repeat' ((first | refine bT ?_ | refine bF ?_ | refine bN ?_ | ((first | refine bD ?_ ?_ | refine bEq ?_ ?_ | refine bNe ?_ ?_) <;> intro hh <;> try (exfalso; omega)) | refine wIn (by omega) ?_ | refine nI (by omega) ?_) <;> conv => whnf))
    all_goals exact ⟨_, rfl, fun h => by cases h⟩
  | false =>
    obtain ⟨hs, hn⟩ := hb rfl
    have e1 := s18 f hs
    by_cases h0 : f.eF = 0
    · rw [h0] at e1
      (conv => whnf); (repeat' ((first | refine bT ?_ | refine bF ?_ | refine bN ?_ | ((first | refine bD ?_ ?_ | refine bEq ?_ ?_ | refine bNe ?_ ?_) <;> intro hh <;> try (exfalso; omega)) | (refine (e1).callq rfl rfl fun _ h => ?_; subst h) | refine wIn (by omega) ?_ | refine nI (by omega) ?_) <;> conv => whnf))
      all_goals exact ⟨_, rfl, fun _ => ⟨hs, h0, hn (eF_ok h0).1⟩⟩
    · have := eF_3 f
      (conv => whnf); (repeat' ((first | refine bT ?_ | refine bF ?_ | refine bN ?_ | ((first | refine bD ?_ ?_ | refine bEq ?_ ?_ | refine bNe ?_ ?_) <;> intro hh <;> try (exfalso; omega)) | (refine (e1).callq rfl rfl fun _ h => ?_; subst h) | refine wIn (by omega) ?_ | refine nI (by omega) ?_) <;> conv => whnf))
      all_goals exact ⟨_, rfl, fun h => by first | cases h | (simp at h; omega)⟩
theorem dist_eq {f : Fig} {a b : Int} (ha : 0 ≤ a ∧ a < f.per) (hb : 0 ≤ b ∧ b < f.per) : f.dist a b = min ((a - b) % f.per) ((b - a) % f.per) := by
  unfold Fig.dist
  rcases Int.lt_trichotomy a b with h | h | h
  · have h1 : (a - b) % f.per = a - b + f.per := by
      rw [← Int.add_emod_right, Int.emod_eq_of_lt (by omega) (by omega)]
    have h2 : (b - a) % f.per = b - a := Int.emod_eq_of_lt (by omega) (by omega)
    rw [h1, h2]; omega
  · subst h
    simp only [Int.sub_self, Int.zero_emod]; omega
  · have h1 : (b - a) % f.per = b - a + f.per := by
      rw [← Int.add_emod_right, Int.emod_eq_of_lt (by omega) (by omega)]
    have h2 : (a - b) % f.per = a - b := Int.emod_eq_of_lt (by omega) (by omega)
    rw [h1, h2]; omega
/-- a seam meets with a length of its run, with some starts -/
def Fig.mbL (f : Fig) (l : List Int) (i : Nat) (x : Int) : Bool := decide (f.dist ((l.getD i 0 + x).tmod f.per) (l.getD ((i + 1) % f.N) 0) ≤ f.near)
theorem mbL_st (f : Fig) (i : Nat) : f.mbL f.st i = f.mb i := rfl
theorem s63 (f : Fig) (hok : f.ok) (a b : Int) (ha : 0 ≤ a ∧ a < f.per) (hb : 0 ≤ b ∧ b < f.per) : FnA Try.prog 63 [.agg f.cells, .int .i64 a, .int .i64 b] (· = .bool (decide (f.dist a b ≤ f.near))) := by
  have hp := hok.2.1
  have e1 := s62 (a - b) f.per (by omega) (by omega)
  have e2 := s62 (b - a) f.per (by omega) (by omega)
  rw [dist_eq ha hb]
  refine fnA 1 ok63 (by simp) ?_
  (conv => whnf); (repeat' ((first | refine bT ?_ | refine bF ?_ | refine bN ?_ | ((first | refine bD ?_ ?_ | refine bEq ?_ ?_ | refine bNe ?_ ?_) <;> intro hh <;> try (exfalso; omega)) | (refine (e1).callq rfl rfl fun _ h => ?_; subst h) | (refine (e2).callq rfl rfl fun _ h => ?_; subst h) | refine wIn (by omega) ?_ | refine nI (by omega) ?_) <;> conv => whnf))
  all_goals rfl
theorem getD_in {l : List Int} {p : Int → Prop} (h : ∀ x ∈ l, p x) {i : Nat} (hi : i < l.length) : p (l.getD i 0) := by
  rw [List.getD_eq_getElem?_getD, List.getElem?_eq_getElem hi]; exact h _ (List.getElem_mem _)
theorem s24 (f : Fig) (hok : f.ok) (l : List Int) (hl : l.length = f.N) (hx : ∀ x ∈ l, 0 ≤ x ∧ x < f.per) (i : Nat) (hi : i < f.N) (s : Int) (hs : 0 ≤ s ∧ s ≤ 60) : FnA Try.prog 24 [.agg f.cells, .isl (l.map iAV), .int .i64 i, .int .i64 s] (· = .bool (f.mbL l i (f.leng s))) := by
  have l1 : (l.map iAV).length = l.length := by simp
  have hp := hok.2.1
  have hr := hok.2.2.1
  have hN := N_in hok
  have hnx : (i + 1) % f.N < f.N := Nat.mod_lt _ (by omega)
  have hxi := getD_in hx (i := i) (by omega)
  have hxn := getD_in hx (i := (i + 1) % f.N) (by omega)
  have e1 := k47 f.run s (by omega) (by omega)
  have hpin := pulled_in (n := f.run) (s := s) (by omega) (by omega)
  have hp0 : 0 ≤ pulled f.run s := by
    unfold pulled
    rw [Int.tdiv_eq_ediv_of_nonneg (Int.mul_nonneg (by omega) (by omega))]
    exact Int.ediv_nonneg (Int.mul_nonneg (by omega) (by omega)) (by omega)
  have hpm : pulled f.run s ≤ 2120 := by
    have h1 : f.run * (1000 + s) ≤ 2000 * 1060 := Int.mul_le_mul (by omega) (by omega) (by omega) (by omega)
    unfold pulled
    rw [Int.tdiv_eq_ediv_of_nonneg (Int.mul_nonneg (by omega) (by omega))]
    omega
  have e2 := s62 (l.getD i 0 + pulled f.run s) f.per (by omega) (by omega)
  have hm : (l.getD i 0 + pulled f.run s) % f.per = (l.getD i 0 + f.leng s).tmod f.per := by
    have h1 : f.leng s = (pulled f.run s) % f.per := Int.tmod_eq_emod_of_nonneg hp0
    have h2 := Int.emod_nonneg (pulled f.run s) (show f.per ≠ 0 by omega)
    rw [h1, Int.tmod_eq_emod_of_nonneg (by omega), Int.add_emod_emod]
  rw [hm] at e2
  have hin : 0 ≤ (l.getD i 0 + f.leng s).tmod f.per ∧ (l.getD i 0 + f.leng s).tmod f.per < f.per := by
    rw [← hm]; exact ⟨Int.emod_nonneg _ (by omega), Int.emod_lt_of_pos _ (by omega)⟩
  have e3 := s63 f hok ((l.getD i 0 + f.leng s).tmod f.per) (l.getD ((i + 1) % f.N) 0) hin hxn
  have ht : ((i : Int) + 1).tmod ↑(l.map iAV).length = (((i + 1) % f.N : Nat) : Int) := by
    rw [l1, hl, Int.tmod_eq_emod_of_nonneg (by omega)]; push_cast; rfl
  have g1 : (l.map iAV).getD i [] = [.int .i64 (l.getD i 0)] := row_at (by omega)
  have g2 : (l.map iAV).getD (((i : Int) + 1).tmod ↑(l.map iAV).length).toNat [] = [.int .i64 (l.getD ((i + 1) % f.N) 0)] := by
    rw [ht, Int.toNat_natCast]; exact row_at (by omega)
  refine fnA 1 ok24 (by simp) ?_
  (conv => whnf); (repeat' ((first | refine bT ?_ | refine bF ?_ | refine bN ?_ | ((first | refine bD ?_ ?_ | refine bEq ?_ ?_ | refine bNe ?_ ?_) <;> intro hh <;> try (exfalso; omega)) | refine wIn (by omega) ?_ | refine nI (by omega) ?_) <;> conv => whnf))
  refine iaI (by omega) (by omega) g1 ?_
  (conv => whnf); (repeat' ((first | refine bT ?_ | refine bF ?_ | refine bN ?_ | ((first | refine bD ?_ ?_ | refine bEq ?_ ?_ | refine bNe ?_ ?_) <;> intro hh <;> try (exfalso; omega)) | (refine (e1).callq rfl rfl fun _ h => ?_; subst h) | (refine (e2).callq rfl rfl fun _ h => ?_; subst h) | refine wIn (by omega) ?_ | refine nI (by omega) ?_) <;> conv => whnf))
  refine iaI (by omega) (by omega) g2 ?_
  (conv => whnf); (repeat' ((first | refine bT ?_ | refine bF ?_ | refine bN ?_ | ((first | refine bD ?_ ?_ | refine bEq ?_ ?_ | refine bNe ?_ ?_) <;> intro hh <;> try (exfalso; omega)) | (refine (e3).callq rfl rfl fun _ h => ?_; subst h) | refine wIn (by omega) ?_ | refine nI (by omega) ?_) <;> conv => whnf))
  all_goals rfl
def Fig.cntL (f : Fig) (l : List Int) (i : Nat) : Nat := ((f.rs i).filter (f.mbL l i)).length
theorem st_x {f : Fig} (hok : f.ok) : ∀ x ∈ f.st, 0 ≤ x ∧ x < f.per := fun x hx => by
  have := hok.2.2.2.2.2.1 x hx
  omega
theorem s28o (f : Fig) (hs : f.small) : FnO Try.prog 28 [.agg f.cells] (fun r rows => r = .agg [.row 3, .row 4, .int .i64 f.d.loss, .row 5, .row 6, .int .i64 f.d.slope, .int .i64 f.per, .int .i64 f.run, .int .i64 f.near, .row 8, .row 10] ∧ rows = [(3, .row false 55 4 (f.d.bs.map Bolt.av)), (4, .row false 3 1 (f.d.gs.map iAV)), (5, .row false 50 2 (f.d.rs.map pairAV)), (6, .row false 3 1 (f.d.ws.map iAV)), (8, .row false 3 1 (f.st.map iAV)), (10, .row false 3 1 (f.ti.map iAV))]) := by
  have e0 := k27o f.d hs.1
  have l2 : (f.st.map iAV).length = f.st.length := by simp
  have l3 : (f.ti.map iAV).length = f.ti.length := by simp
  obtain ⟨_, h2, h3⟩ := hs
  refine fnO 11 ok28 (by simp) ?_
  (conv => whnf); (repeat' ((first | refine bT ?_ | refine bF ?_ | refine bN ?_ | ((first | refine bD ?_ ?_ | refine bEq ?_ ?_ | refine bNe ?_ ?_) <;> intro hh <;> try (exfalso; omega)) | refine wIn (by omega) ?_ | refine nI (by omega) ?_) <;> conv => whnf))
  refine e0.callzq rfl rfl (fun r rows (hr : r = _ ∧ rows = _) => ?_); obtain ⟨hr1, hr2⟩ := hr; subst hr1; subst hr2; refine ⟨rfl, ?_⟩
  (conv => whnf); (repeat' ((first | refine bT ?_ | refine bF ?_ | refine bN ?_ | ((first | refine bD ?_ ?_ | refine bEq ?_ ?_ | refine bNe ?_ ?_) <;> intro hh <;> try (exfalso; omega)) | refine wIn (by omega) ?_ | refine nI (by omega) ?_) <;> conv => whnf))
  refine apI (one_iAV _) (by simp only [l2, List.length_nil]; omega) ?_
  (conv => whnf); (repeat' ((first | refine bT ?_ | refine bF ?_ | refine bN ?_ | ((first | refine bD ?_ ?_ | refine bEq ?_ ?_ | refine bNe ?_ ?_) <;> intro hh <;> try (exfalso; omega)) | refine wIn (by omega) ?_ | refine nI (by omega) ?_) <;> conv => whnf))
  refine apI (one_iAV _) (by simp only [l3, List.length_nil]; omega) ?_
  (conv => whnf); (repeat' ((first | refine bT ?_ | refine bF ?_ | refine bN ?_ | ((first | refine bD ?_ ?_ | refine bEq ?_ ?_ | refine bNe ?_ ?_) <;> intro hh <;> try (exfalso; omega)) | refine wIn (by omega) ?_ | refine nI (by omega) ?_) <;> conv => whnf))
  all_goals exact ⟨rfl, rfl⟩
theorem mem_nums {b : Bolt} {x : Int} (h : b.can x = true) : x ∈ b.nums := by
  have h1 : b.lo ≤ x ∧ x ≤ b.hi := by
    simp only [Bolt.can, Bool.and_eq_true, decide_eq_true_eq] at h; exact h.1
  unfold Bolt.nums Bolt.numsN
  refine List.mem_filter.2 ⟨List.mem_map.2 ⟨(x - b.lo).toNat, List.mem_range.2 (by unfold Bolt.nt; omega), by omega⟩, h⟩
theorem mem_bad {f : Fig} {i : Nat} (hi : i < f.N) : (i : Int) ∈ f.bad ↔ f.mv i ≠ 1 := by
  unfold Fig.bad Fig.badN
  simp only [List.mem_map, List.mem_filter, List.mem_range, decide_eq_true_eq]
  constructor
  · rintro ⟨k, ⟨_, h⟩, e⟩
    have : k = i := by omega
    subst this; exact h
  · intro h
    exact ⟨i, ⟨hi, h⟩, rfl⟩
theorem mv_cases (f : Fig) (i : Nat) : (f.mv i = 1 ∧ f.cnt i = (f.rs i).length) ∨ (f.mv i = 2 ∧ f.cnt i = 0) ∨ f.mv i = 3 := by
  unfold Fig.mv
  split
  · rename_i h; exact .inl ⟨rfl, h⟩
  · split
    · rename_i h; exact .inr (.inl ⟨rfl, h⟩)
    · exact .inr (.inr rfl)
theorem mv_1 {f : Fig} {i : Nat} : f.mv i = 1 ↔ ∀ x ∈ f.rs i, f.mb i x = true := by
  rw [← List.filter_eq_self]
  constructor
  · intro h
    rcases mv_cases f i with ⟨_, h1⟩ | ⟨h1, _⟩ | h1
    · exact List.filter_eq_self.2 fun x hx => by
        have : (f.rs i).filter (f.mb i) = f.rs i := (List.filter_sublist).eq_of_length h1
        rw [← this] at hx; exact (List.mem_filter.1 hx).2
    · omega
    · omega
  · intro h
    unfold Fig.mv Fig.cnt
    rw [h, if_pos rfl]
/-- SeamsTrue -/
theorem l3 (f : Fig) (t : List Int) (sm : Int) : FnA Try.prog 3 [.agg f.cells, .isl (t.map iAV), .int .i64 sm] (· = .bool true) := by
  have w := s20
  have l2 : (f.st.map iAV).length = f.st.length := by simp
  have l4 : (f.d.gs.map iAV).length = f.d.gs.length := by simp
  have l5 : (t.map iAV).length = t.length := by simp
  refine fnA 2 ok3 (by simp) ?_
  (conv => whnf); (repeat' ((first | refine bT ?_ | refine bF ?_ | refine bN ?_ | ((first | refine bD ?_ ?_ | refine bEq ?_ ?_ | refine bNe ?_ ?_) <;> intro hh <;> try (exfalso; omega)) | refine wIn (by omega) ?_ | refine nI (by omega) ?_) <;> conv => whnf))
  refine (s17 f).callq rfl rfl (fun r hr => ?_); obtain ⟨b, rfl, hb⟩ := hr
  cases b with
  | true =>
    (conv => whnf); (repeat' ((first | refine bT ?_ | refine bF ?_ | refine bN ?_ | ((first | refine bD ?_ ?_ | refine bEq ?_ ?_ | refine bNe ?_ ?_) <;> intro hh <;> try (exfalso; omega)) | (refine (w).callq rfl rfl fun _ h => ?_; subst h) | refine wIn (by omega) ?_ | refine nI (by omega) ?_) <;> conv => whnf))
    all_goals rfl
  | false =>
    have hs := hb rfl
    have e1 := s18 f hs
    by_cases h0 : f.eF = 0
    case neg =>
      (conv => whnf); (repeat' ((first | refine bT ?_ | refine bF ?_ | refine bN ?_ | ((first | refine bD ?_ ?_ | refine bEq ?_ ?_ | refine bNe ?_ ?_) <;> intro hh <;> try (exfalso; omega)) | (refine (e1).callq rfl rfl fun _ h => ?_; subst h) | (refine (w).callq rfl rfl fun _ h => ?_; subst h) | refine wIn (by omega) ?_ | refine nI (by omega) ?_) <;> conv => whnf))
      all_goals rfl
    rw [h0] at e1
    obtain ⟨hok, hh⟩ := eF_ok h0
    have e2 := k16 f.d t hok.1
    by_cases ht : f.d.isT t
    case neg =>
      rw [decide_eq_false ht] at e2
      (conv => whnf); (repeat' ((first | refine bT ?_ | refine bF ?_ | refine bN ?_ | ((first | refine bD ?_ ?_ | refine bEq ?_ ?_ | refine bNe ?_ ?_) <;> intro hh <;> try (exfalso; omega)) | (refine (e1).callq rfl rfl fun _ h => ?_; subst h) | (refine (e2).callq rfl rfl fun _ h => ?_; subst h) | (refine (w).callq rfl rfl fun _ h => ?_; subst h) | refine wIn (by omega) ?_ | refine nI (by omega) ?_) <;> conv => whnf))
      all_goals rfl
    rw [decide_eq_true ht] at e2
    have hst : f.st.length = f.N := hok.2.2.2.2.1
    by_cases hi : 0 ≤ sm ∧ sm < f.N
    case neg =>
      (conv => whnf); (repeat' ((first | refine bT ?_ | refine bF ?_ | refine bN ?_ | ((first | refine bD ?_ ?_ | refine bEq ?_ ?_ | refine bNe ?_ ?_) <;> intro hh <;> try (exfalso; omega)) | (refine (e1).callq rfl rfl fun _ h => ?_; subst h) | (refine (e2).callq rfl rfl fun _ h => ?_; subst h) | (refine (w).callq rfl rfl fun _ h => ?_; subst h) | refine wIn (by omega) ?_ | refine nI (by omega) ?_) <;> conv => whnf))
      all_goals rfl
    obtain ⟨i, rfl⟩ : ∃ i : Nat, sm = i := ⟨sm.toNat, by omega⟩
    have hiN : i < f.N := by omega
    have hig : i < f.d.gs.length := hiN
    have e3 := s21 f i (by unfold Fig.eM; rw [if_pos hok, if_pos ⟨by omega, by omega⟩, if_pos hh])
    have e4 := s22 f h0
    have hbl : f.bad.length ≤ 1000000 := by have := badN_le f f.d.gs.length; have := hok.1.1.2.1; unfold Fig.bad; omega
    have e5 := s23 f.bad i hbl
    have e5' : FnA Try.prog 23 [.isl (f.bad.map iAV), .int .i64 i] (· = .bool (decide (f.mv i ≠ 1))) := by
      rw [show decide ((i : Int) ∈ f.bad) = decide (f.mv i ≠ 1) from decide_eq_decide.2 (mem_bad hiN)] at e5; exact e5
    have hg := gore_ok hok hig
    have htl := ht.1
    have hgt : f.d.gs[i].toNat < t.length := by omega
    have hcan := ht.2 f.d.gs[i].toNat (by omega) hgt
    have hmem := mem_nums hcan
    have htn := nums_in (hok.1.2 _ (List.getElem_mem (show f.d.gs[i].toNat < f.d.bs.length by omega))) _ hmem
    have e6 := s24 f hok f.st hst (st_x hok) i hiN t[f.d.gs[i].toNat] htn
    rw [mbL_st] at e6
    have hrs : f.leng t[f.d.gs[i].toNat] ∈ f.rs i := by
      obtain ⟨b, hb, h1, h2⟩ := rs_eq hok hig
      have : b = f.d.bs[f.d.gs[i].toNat]'(by omega) := by
        rw [← h1]; simp [List.getD_eq_getElem?_getD, show f.d.gs[i].toNat < f.d.bs.length by omega]
      rw [h2, this]
      exact List.mem_map.2 ⟨_, hmem, rfl⟩
    have g1 := getD_map iAV f.d.gs i hig
    have g2 := getD_map iAV t f.d.gs[i].toNat hgt
    rcases mv_cases f i with ⟨m1, m2⟩ | ⟨m1, m2⟩ | m1
    · have : f.mb i (f.leng t[f.d.gs[i].toNat]) = true := mv_1.1 m1 _ hrs
      rw [this] at e6
      rw [m1] at e3
      rw [m1, show decide ((1 : Int) ≠ 1) = false from rfl] at e5'
      (conv => whnf); (repeat' ((first | refine bT ?_ | refine bF ?_ | refine bN ?_ | ((first | refine bD ?_ ?_ | refine bEq ?_ ?_ | refine bNe ?_ ?_) <;> intro hh <;> try (exfalso; omega)) | (refine (e1).callq rfl rfl fun _ h => ?_; subst h) | (refine (e2).callq rfl rfl fun _ h => ?_; subst h) | (refine (e3).callq rfl rfl fun _ h => ?_; subst h) | (refine (e4).callzq rfl rfl fun _ h => ?_; subst h) | (refine (e5').callq rfl rfl fun _ h => ?_; subst h) | refine wIn (by omega) ?_ | refine nI (by omega) ?_) <;> conv => whnf))
      refine iaI (by omega) (by omega) g1 ?_
      (conv => whnf); (repeat' ((first | refine bT ?_ | refine bF ?_ | refine bN ?_ | ((first | refine bD ?_ ?_ | refine bEq ?_ ?_ | refine bNe ?_ ?_) <;> intro hh <;> try (exfalso; omega)) | refine wIn (by omega) ?_ | refine nI (by omega) ?_) <;> conv => whnf))
      refine iaI (by omega) (by omega) g2 ?_
      (conv => whnf); (repeat' ((first | refine bT ?_ | refine bF ?_ | refine bN ?_ | ((first | refine bD ?_ ?_ | refine bEq ?_ ?_ | refine bNe ?_ ?_) <;> intro hh <;> try (exfalso; omega)) | (refine (e6).callq rfl rfl fun _ h => ?_; subst h) | (refine (w).callq rfl rfl fun _ h => ?_; subst h) | refine wIn (by omega) ?_ | refine nI (by omega) ?_) <;> conv => whnf))
      all_goals rfl
    · have : f.mb i (f.leng t[f.d.gs[i].toNat]) = false := by
        have h1 : (f.rs i).filter (f.mb i) = [] := List.eq_nil_of_length_eq_zero m2
        have := List.filter_eq_nil_iff.1 h1 _ hrs
        simpa using this
      rw [this] at e6
      rw [m1] at e3
      rw [m1, show decide ((2 : Int) ≠ 1) = true from rfl] at e5'
      (conv => whnf); (repeat' ((first | refine bT ?_ | refine bF ?_ | refine bN ?_ | ((first | refine bD ?_ ?_ | refine bEq ?_ ?_ | refine bNe ?_ ?_) <;> intro hh <;> try (exfalso; omega)) | (refine (e1).callq rfl rfl fun _ h => ?_; subst h) | (refine (e2).callq rfl rfl fun _ h => ?_; subst h) | (refine (e3).callq rfl rfl fun _ h => ?_; subst h) | (refine (e4).callzq rfl rfl fun _ h => ?_; subst h) | (refine (e5').callq rfl rfl fun _ h => ?_; subst h) | refine wIn (by omega) ?_ | refine nI (by omega) ?_) <;> conv => whnf))
      refine iaI (by omega) (by omega) g1 ?_
      (conv => whnf); (repeat' ((first | refine bT ?_ | refine bF ?_ | refine bN ?_ | ((first | refine bD ?_ ?_ | refine bEq ?_ ?_ | refine bNe ?_ ?_) <;> intro hh <;> try (exfalso; omega)) | refine wIn (by omega) ?_ | refine nI (by omega) ?_) <;> conv => whnf))
      refine iaI (by omega) (by omega) g2 ?_
      (conv => whnf); (repeat' ((first | refine bT ?_ | refine bF ?_ | refine bN ?_ | ((first | refine bD ?_ ?_ | refine bEq ?_ ?_ | refine bNe ?_ ?_) <;> intro hh <;> try (exfalso; omega)) | (refine (e6).callq rfl rfl fun _ h => ?_; subst h) | (refine (w).callq rfl rfl fun _ h => ?_; subst h) | refine wIn (by omega) ?_ | refine nI (by omega) ?_) <;> conv => whnf))
      all_goals rfl
    · rw [m1] at e3
      rw [m1, show decide ((3 : Int) ≠ 1) = true from rfl] at e5'
      (conv => whnf); (repeat' ((first | refine bT ?_ | refine bF ?_ | refine bN ?_ | ((first | refine bD ?_ ?_ | refine bEq ?_ ?_ | refine bNe ?_ ?_) <;> intro hh <;> try (exfalso; omega)) | (refine (e1).callq rfl rfl fun _ h => ?_; subst h) | (refine (e2).callq rfl rfl fun _ h => ?_; subst h) | (refine (e3).callq rfl rfl fun _ h => ?_; subst h) | (refine (e4).callzq rfl rfl fun _ h => ?_; subst h) | (refine (e5').callq rfl rfl fun _ h => ?_; subst h) | refine wIn (by omega) ?_ | refine nI (by omega) ?_) <;> conv => whnf))
      refine iaI (by omega) (by omega) g1 ?_
      (conv => whnf); (repeat' ((first | refine bT ?_ | refine bF ?_ | refine bN ?_ | ((first | refine bD ?_ ?_ | refine bEq ?_ ?_ | refine bNe ?_ ?_) <;> intro hh <;> try (exfalso; omega)) | refine wIn (by omega) ?_ | refine nI (by omega) ?_) <;> conv => whnf))
      refine iaI (by omega) (by omega) g2 ?_
      (conv => whnf); (repeat' ((first | refine bT ?_ | refine bF ?_ | refine bN ?_ | ((first | refine bD ?_ ?_ | refine bEq ?_ ?_ | refine bNe ?_ ?_) <;> intro hh <;> try (exfalso; omega)) | (refine (e6).callq rfl rfl fun _ h => ?_; subst h) | (refine (w).callq rfl rfl fun _ h => ?_; subst h) | refine wIn (by omega) ?_ | refine nI (by omega) ?_) <;> conv => whnf))
      all_goals rfl
/-- beginnings, as the reference says it -/
def Fig.areB (f : Fig) (l : List Int) : Prop := l.length = f.N ∧ (∀ x ∈ l, 0 ≤ x ∧ x < f.per) ∧ ∀ i, i < f.N → ∀ x ∈ f.rs i, f.mbL l i x = true
def Fig.metN (f : Fig) (l : List Int) (k : Nat) : Bool := (List.range k).all fun i => decide ((f.rs i).length ≤ f.cntL l i)
theorem metN_iff {f : Fig} {l : List Int} : f.metN l f.N = true ↔ ∀ i, i < f.N → ∀ x ∈ f.rs i, f.mbL l i x = true := by
  unfold Fig.metN
  rw [List.all_eq_true]
  constructor
  · intro h i hi x hx
    have this : (f.rs i).length ≤ ((f.rs i).filter (f.mbL l i)).length := of_decide_eq_true (h i (List.mem_range.2 hi))
    have h2 : (f.rs i).filter (f.mbL l i) = f.rs i := (List.filter_sublist).eq_of_length (Nat.le_antisymm (List.length_filter_le _ _) this)
    rw [← h2] at hx; exact (List.mem_filter.1 hx).2
  · intro h i hi
    refine decide_eq_true ?_
    show (f.rs i).length ≤ ((f.rs i).filter (f.mbL l i)).length
    rw [List.filter_eq_self.2 (h i (List.mem_range.1 hi))]
    exact Nat.le_refl _
instance (f : Fig) (l : List Int) : Decidable (f.areB l) := decidable_of_iff (l.length = f.N ∧ (∀ x ∈ l, 0 ≤ x ∧ x < f.per) ∧ f.metN l f.N = true) (by unfold Fig.areB; rw [metN_iff])
theorem sum_pth {f : Fig} (hp : 1 ≤ f.per ∧ f.per ≤ 60) {near : Int} : ∀ (g : Nat) (x : Int), x ∈ f.sumL near g → ∃ w, f.pth near 0 g w x
  | 0, x, h => by simp only [Fig.sumL, List.mem_singleton] at h; subst h; exact ⟨_, rfl, rfl⟩
  | g + 1, x, h => by
    obtain ⟨y, h1, s, h2, rfl⟩ := (mem_sumL hp.1).1 h
    obtain ⟨w, h3⟩ := sum_pth hp g y h1
    exact ⟨_, w, y, h3, ⟨s, h2, rfl⟩, rfl⟩
theorem pth_sum {f : Fig} (hp : 1 ≤ f.per ∧ f.per ≤ 60) {near st : Int} (hs : 0 ≤ st ∧ st < f.per) : ∀ (g : Nat) (w : Way) (x : Int), f.pth near st g w x → (x - st) % f.per ∈ f.sumL near g
  | 0, w, x, h => by obtain ⟨_, rfl⟩ := h; simp [Fig.sumL]
  | g + 1, w, x, h => by
    obtain ⟨v, y, h1, ⟨s, h2, rfl⟩, _⟩ := h
    have a := pth_in hp hs g v y h1
    have b := ((mem_stp (by omega)).1 h2).1
    obtain ⟨c1, c2, c3⟩ := tmod_in (a := y + s) (b := f.per) (by omega) hp.1
    refine (mem_sumL hp.1).2 ⟨_, pth_sum hp hs g v y h1, s, h2, ?_⟩
    have h0 := Int.emod_nonneg (y - st) (show f.per ≠ 0 by omega)
    rw [c1, Int.tmod_eq_emod_of_nonneg (by omega), Int.emod_add_emod, Int.sub_emod, Int.emod_emod_of_dvd _ (Int.dvd_refl _), ← Int.sub_emod]
    congr 1; omega
theorem clo_iff {f : Fig} (hok : f.ok) (near : Int) : f.clo near = true ↔ ∃ l, f.isB near l := by
  have hp := hok.2.1
  unfold Fig.clo
  rw [decide_eq_true_eq]
  constructor
  · intro h
    obtain ⟨w, hw⟩ := sum_pth hp _ _ h
    exact ⟨w.1, ((rng_iff hok near w).1 ⟨0, ⟨by omega, by omega⟩, hw⟩).2⟩
  · rintro ⟨l, hl⟩
    obtain ⟨st, hs, hw⟩ := (rng_iff hok near (l, l.sum)).2 ⟨rfl, hl⟩
    have h := pth_sum hp hs _ _ _ hw
    rw [Int.sub_self, Int.zero_emod] at h
    exact h
theorem dist_half {f : Fig} (hp : 1 ≤ f.per) {a b : Int} (ha : 0 ≤ a ∧ a < f.per) (hb : 0 ≤ b ∧ b < f.per) : f.dist a b ≤ f.per.tdiv 2 := by
  rw [Int.tdiv_eq_ediv_of_nonneg (by omega)]
  unfold Fig.dist
  omega
theorem half_B {f : Fig} (hok : f.ok) : ∃ l, f.isB (f.per.tdiv 2) l := by
  have hp := hok.2.1
  have hN := N_in hok
  have hq : 0 ≤ f.per.tdiv 2 := by rw [Int.tdiv_eq_ediv_of_nonneg (by omega)]; omega
  refine ⟨List.replicate f.N 0, by simp, fun x hx => ?_, fun i hi => ⟨0, (mem_stp (by omega)).2 ⟨by omega, List.all_eq_true.2 fun r hr => decide_eq_true (dist_half hp.1 (by omega) (rs_in hok hi r hr))⟩, ?_⟩⟩
  · have := List.eq_of_mem_replicate hx; omega
  · have h1 : ∀ j, (List.replicate f.N (0 : Int)).getD j 0 = 0 := fun j => by
      simp only [List.getD_eq_getElem?_getD, List.getElem?_replicate]; split <;> rfl
    rw [h1, h1]; simp
theorem clst_spec {f : Fig} (hok : f.ok) : (0 ≤ f.clst ∧ f.clst ≤ f.per.tdiv 2) ∧ (∃ l, f.isB f.clst l) ∧ ∀ near, 0 ≤ near → (∃ l, f.isB near l) → f.clst ≤ near := by
  have hp := hok.2.1
  have hq : 0 ≤ f.per.tdiv 2 := by rw [Int.tdiv_eq_ediv_of_nonneg (by omega)]; omega
  unfold Fig.clst
  split
  · rename_i k hk
    obtain ⟨h1, h2, h3⟩ := List.find?_range_eq_some.1 hk
    have := List.mem_range.1 h2
    refine ⟨by omega, (clo_iff hok _).1 h1, fun near h0 hn => ?_⟩
    by_cases hlt : near < k
    · have := h3 near.toNat (by omega)
      rw [show ((near.toNat : Nat) : Int) = near by omega, (clo_iff hok near).2 hn] at this
      cases this
    · omega
  · rename_i hk
    have h3 := List.find?_range_eq_none.1 hk
    refine ⟨by omega, half_B hok, fun near h0 hn => ?_⟩
    by_cases hlt : near < f.per.tdiv 2
    · have := h3 near.toNat (by omega)
      rw [show ((near.toNat : Nat) : Int) = near by omega, (clo_iff hok near).2 hn] at this
      cases this
    · omega
/-- a list that is changed up to a place -/
def prt (g : Int → Int) (l : List Int) (k : Nat) : List Int := (l.take k).map g ++ l.drop k
theorem prt_len (g : Int → Int) (l : List Int) (k : Nat) : (prt g l k).length = l.length := by
  simp only [prt, List.length_append, List.length_map, List.length_take, List.length_drop]; omega
theorem prt_all (g : Int → Int) (l : List Int) : prt g l l.length = l.map g := by simp [prt]
theorem prt_0 (g : Int → Int) (l : List Int) : prt g l 0 = l := by simp [prt]
theorem prt_get (g : Int → Int) {l : List Int} {k : Nat} (h : k < l.length) : (prt g l k).getD k 0 = l[k] := by
  unfold prt
  rw [List.getD_eq_getElem?_getD, List.getElem?_append_right (by simp; omega)]
  simp only [List.length_map, List.length_take, List.getElem?_drop]
  rw [show k + (k - min k l.length) = k by omega, List.getElem?_eq_getElem h]; rfl
theorem prt_set (g : Int → Int) {l : List Int} {k : Nat} (h : k < l.length) : ((prt g l k).map iAV).set k [.int .i64 (g l[k])] = (prt g l (k + 1)).map iAV := by
  have : (prt g l k).set k (g l[k]) = prt g l (k + 1) := by
    unfold prt
    rw [List.take_succ_eq_append_getElem h, List.map_append, List.drop_eq_getElem_cons h, List.set_append_right _ _ (by simp; omega)]
    simp only [List.length_map, List.length_take, List.map_cons, List.map_nil, List.append_assoc, List.cons_append, List.nil_append]
    rw [show k - min k l.length = 0 by omega]; rfl
  rw [← this, List.map_set]; rfl
/-- how soon an arc can have ended -/
def Fig.E (f : Fig) (m i : Nat) : Int := arcE (f.arcsT m) m i
theorem arcE_stab (f : Fig) {m i : Nat} : ∀ k, m ≤ k → arcE (f.arcsT k) m i = f.E m i := by
  intro k hk
  induction k with
  | zero => obtain rfl : m = 0 := by omega
            rfl
  | succ k ih =>
    by_cases h : m = k + 1
    · subst h; rfl
    · rw [← ih (by omega)]
      have hl := arcsT_len f k
      unfold arcE
      congr 2
      simp only [Fig.arcsT, List.getD_eq_getElem?_getD]
      rw [List.getElem?_append_left (by omega)]
theorem soonN_min {f : Fig} (hok : f.ok) {A : List (List (Int × Int))} (hA : arcsOk f A) {first : Nat} (hf : first < f.N) : ∀ b, b ≤ A.length → ∀ c, c < b → (f.soonN A first b).1 ≤ f.endB A first c
  | 0, _ => fun c hc => by omega
  | b + 1, hb => fun c hc => by
    have ih := soonN_min hok hA hf b (by omega)
    simp only [Fig.soonN]
    split
    · rename_i h
      by_cases hcb : c = b
      · subst hcb; exact Int.le_refl _
      · have := ih c (by omega)
        show f.endB A first b ≤ _
        omega
    · rename_i h
      by_cases hcb : c = b
      · subst hcb; omega
      · exact ih c (by omega)
/-- the end of an arc of which a seam is begun last -/
def Fig.V (f : Fig) (m i b : Nat) : Int := max (f.E b i) (f.E (m - b) (((i + b) % f.N + 1) % f.N)) + f.T ((i + b) % f.N)
theorem E_0 {f : Fig} (hok : f.ok) {i : Nat} (hi : i < f.N) : f.E 0 i = 0 := by
  simp only [Fig.E, arcE, Fig.arcsT, List.getD_eq_getElem?_getD, List.getElem?_cons_zero, Option.getD_some, List.getElem?_replicate, if_pos hi]
theorem E_min {f : Fig} (hok : f.ok) {m i : Nat} (hm : m + 1 < f.N) (hi : i < f.N) : (∃ b, b ≤ m ∧ f.E (m + 1) i = f.V m i b) ∧ ∀ b, b ≤ m → f.E (m + 1) i ≤ f.V m i b := by
  have hA := arcsT_ok hok m (by omega)
  have hl := arcsT_len f m
  have he : f.E (m + 1) i = (f.soon (f.arcsT m) i).1 := by
    have hnew : (f.arcsT (m + 1)).getD (m + 1) [] = (List.range f.N).map (f.soon (f.arcsT m)) := by
      simp only [Fig.arcsT, List.getD_eq_getElem?_getD]
      rw [List.getElem?_append_right (by omega), hl]; simp
    unfold Fig.E arcE; rw [hnew]; simp [List.getD_eq_getElem?_getD, hi]
  have hV : ∀ b, b ≤ m → f.endB (f.arcsT m) i b = f.V m i b := fun b hb => by
    unfold Fig.endB Fig.V
    rw [hl, arcE_stab f m (by omega), arcE_stab f m (by omega), show m + 1 - 1 - b = m - b by omega]
  refine ⟨?_, fun b hb => ?_⟩
  · rcases soonN_in hok hA hi (f.arcsT m).length (Nat.le_refl _) with ⟨h1, _⟩ | ⟨_, c, h2, h3⟩
    · omega
    · exact ⟨c, by omega, by rw [he, ← hV c (by omega)]; unfold Fig.soon; rw [h3]⟩
  · rw [he, ← hV b hb]
    exact soonN_min hok hA hi _ (Nat.le_refl _) b (by omega)
theorem whN_min {f : Fig} (hok : f.ok) {A : List (List (Int × Int))} (hA : arcsOk f A) : ∀ b, b ≤ f.N → ∀ c, c < b → (f.whN A b).1 ≤ f.endW A c
  | 0, _ => fun c hc => by omega
  | b + 1, hb => fun c hc => by
    have ih := whN_min hok hA b (by omega)
    simp only [Fig.whN]
    split
    · rename_i h
      by_cases hcb : c = b
      · subst hcb; exact Int.le_refl _
      · have := ih c (by omega)
        show f.endW A b ≤ _
        omega
    · rename_i h
      by_cases hcb : c = b
      · subst hcb; omega
      · exact ih c (by omega)
theorem snd_min {f : Fig} (hok : f.ok) : (∃ k, k < f.N ∧ f.snd = f.E (f.N - 1) ((k + 1) % f.N) + f.T k) ∧ ∀ k, k < f.N → f.snd ≤ f.E (f.N - 1) ((k + 1) % f.N) + f.T k := by
  have hN := N_in hok
  have hW : ∀ k, f.endW f.A k = f.E (f.N - 1) ((k + 1) % f.N) + f.T k := fun k => by
    unfold Fig.endW; rw [A_len hok]; rfl
  obtain ⟨_, h2, h3⟩ := wh_eq hok
  refine ⟨⟨f.wl, h2, ?_⟩, fun k hk => ?_⟩
  · rw [← hW]; unfold Fig.snd; rw [h3]
  · rw [← hW]; exact whN_min hok (A_ok hok) _ (Nat.le_refl _) k hk
theorem add_mod_ne {i j b N : Nat} (h1 : j < N) (h2 : b < N) (h : j ≠ b) : (i + j) % N ≠ (i + b) % N := fun e => by
  have h3 : (i + j) % N = (i % N + j) % N := by rw [Nat.mod_add_mod]
  have h4 : (i + b) % N = (i % N + b) % N := by rw [Nat.mod_add_mod]
  rw [h3, h4] at e
  have hi : i % N < N := Nat.mod_lt _ (by omega)
  generalize i % N = q at *
  by_cases c1 : q + j < N <;> by_cases c2 : q + b < N
  · rw [Nat.mod_eq_of_lt c1, Nat.mod_eq_of_lt c2] at e; omega
  · rw [Nat.mod_eq_of_lt c1, Nat.mod_eq_sub_mod (by omega), Nat.mod_eq_of_lt (by omega)] at e; omega
  · rw [Nat.mod_eq_sub_mod (by omega), Nat.mod_eq_of_lt (by omega), Nat.mod_eq_of_lt c2] at e; omega
  · rw [Nat.mod_eq_sub_mod (by omega), Nat.mod_eq_of_lt (by omega), Nat.mod_eq_sub_mod (by omega), Nat.mod_eq_of_lt (by omega)] at e; omega
/-- two figures with as many seams; the times of one are the other's, but for one seam, which is quicker by d -/
structure Qk (f g : Fig) (sm : Nat) (d : Int) : Prop where
  of : f.ok
  og : g.ok
  n : g.N = f.N
  dn : 0 ≤ d
  s : sm < f.N
  at_ : g.T sm = f.T sm - d
  ne : ∀ i, i < f.N → i ≠ sm → g.T i = f.T i
theorem Qk.same {f g : Fig} {sm : Nat} {d : Int} (q : Qk f g sm d) : ∀ (n m i : Nat), m ≤ n → m < f.N → i < f.N → (∀ j, j < m → (i + j) % f.N ≠ sm) → f.E m i = g.E m i
  | 0, m, i, hmn, hm, hi, h => by
    obtain rfl : m = 0 := by omega
    rw [E_0 q.of hi, E_0 q.og (by rw [q.n]; exact hi)]
  | n + 1, m, i, hmn, hm, hi, h => by
    have hN := N_in q.of
    cases m with
    | zero => rw [E_0 q.of hi, E_0 q.og (by rw [q.n]; exact hi)]
    | succ m =>
      have hmod : ∀ x, x % f.N < f.N := fun x => Nat.mod_lt _ (by omega)
      have hV : ∀ b, b ≤ m → f.V m i b = g.V m i b := fun b hb => by
        unfold Fig.V
        rw [q.n, Qk.same q n b i (by omega) (by omega) hi fun j hj => h j (by omega),
          Qk.same q n (m - b) (((i + b) % f.N + 1) % f.N) (by omega) (by omega) (hmod _) fun j hj => by
            have := h (b + 1 + j) (by omega)
            rwa [show (((i + b) % f.N + 1) % f.N + j) % f.N = (i + (b + 1 + j)) % f.N by simp only [Nat.mod_add_mod]; congr 1; omega],
          q.ne _ (hmod _) (h b (by omega))]
      obtain ⟨⟨b1, h1, h2⟩, h3⟩ := E_min q.of (m := m) (by omega) hi
      obtain ⟨⟨b2, h4, h5⟩, h6⟩ := E_min q.og (m := m) (i := i) (by rw [q.n]; omega) (by rw [q.n]; exact hi)
      have h7 := h3 b2 h4
      have h8 := h6 b1 h1
      rw [hV b2 h4] at h7
      rw [← hV b1 h1] at h8
      omega
theorem Qk.less {f g : Fig} {sm : Nat} {d : Int} (q : Qk f g sm d) : ∀ (n m i : Nat), m ≤ n → m < f.N → i < f.N → g.E m i ≤ f.E m i ∧ f.E m i ≤ g.E m i + d
  | 0, m, i, hmn, hm, hi => by
    obtain rfl : m = 0 := by omega
    rw [E_0 q.of hi, E_0 q.og (by rw [q.n]; exact hi)]
    have := q.dn; omega
  | n + 1, m, i, hmn, hm, hi => by
    have hN := N_in q.of
    have hd := q.dn
    cases m with
    | zero => rw [E_0 q.of hi, E_0 q.og (by rw [q.n]; exact hi)]; omega
    | succ m =>
      have hmod : ∀ x, x % f.N < f.N := fun x => Nat.mod_lt _ (by omega)
      have hV : ∀ b, b ≤ m → g.V m i b ≤ f.V m i b ∧ f.V m i b ≤ g.V m i b + d := fun b hb => by
        have a1 := Qk.less q n b i (by omega) (by omega) hi
        have a2 := Qk.less q n (m - b) (((i + b) % f.N + 1) % f.N) (by omega) (by omega) (hmod _)
        unfold Fig.V
        rw [q.n]
        by_cases hs : (i + b) % f.N = sm
        · have b1 := Qk.same q n b i (by omega) (by omega) hi fun j hj => by rw [← hs]; exact add_mod_ne (by omega) (by omega) (by omega)
          have b2 := Qk.same q n (m - b) (((i + b) % f.N + 1) % f.N) (by omega) (by omega) (hmod _) fun j hj => by
            rw [show (((i + b) % f.N + 1) % f.N + j) % f.N = (i + (b + 1 + j)) % f.N by simp only [Nat.mod_add_mod]; congr 1; omega, ← hs]
            exact add_mod_ne (by omega) (by omega) (by omega)
          rw [hs] at b2 a2 ⊢
          rw [q.at_, b1, b2]; omega
        · rw [q.ne _ (hmod _) hs]; omega
      obtain ⟨⟨b1, h1, h2⟩, h3⟩ := E_min q.of (m := m) (by omega) hi
      obtain ⟨⟨b2, h4, h5⟩, h6⟩ := E_min q.og (m := m) (i := i) (by rw [q.n]; omega) (by rw [q.n]; exact hi)
      have h7 := h3 b2 h4
      have h8 := h6 b1 h1
      have := hV b1 h1
      have := hV b2 h4
      omega
theorem Qk.snd {f g : Fig} {sm : Nat} {d : Int} (q : Qk f g sm d) : g.snd ≤ f.snd ∧ f.snd ≤ g.snd + d := by
  have hN := N_in q.of
  have hd := q.dn
  have hmod : ∀ x, x % f.N < f.N := fun x => Nat.mod_lt _ (by omega)
  have hV : ∀ k, k < f.N → g.E (g.N - 1) ((k + 1) % g.N) + g.T k ≤ f.E (f.N - 1) ((k + 1) % f.N) + f.T k ∧ f.E (f.N - 1) ((k + 1) % f.N) + f.T k ≤ g.E (g.N - 1) ((k + 1) % g.N) + g.T k + d := fun k hk => by
    rw [q.n]
    have a1 := q.less (f.N - 1) (f.N - 1) ((k + 1) % f.N) (by omega) (by omega) (hmod _)
    by_cases hs : k = sm
    · have b1 := q.same (f.N - 1) (f.N - 1) ((k + 1) % f.N) (by omega) (by omega) (hmod _) fun j hj => by
        rw [Nat.mod_add_mod, ← hs]
        have := add_mod_ne (i := k) (j := 1 + j) (b := 0) (N := f.N) (by omega) (by omega) (by omega)
        rw [Nat.add_zero, Nat.mod_eq_of_lt hk] at this
        rw [show k + 1 + j = k + (1 + j) by omega]; exact this
      rw [b1]
      rw [hs, q.at_]; omega
    · rw [q.ne _ hk hs]; omega
  obtain ⟨⟨k1, h1, h2⟩, h3⟩ := snd_min q.of
  obtain ⟨⟨k2, h4, h5⟩, h6⟩ := snd_min q.og
  rw [q.n] at h4
  have h7 := h3 k2 h4
  have h8 := h6 k1 (by rw [q.n]; exact h1)
  have := hV k1 h1
  have := hV k2 h4
  omega
/-- times that are twice as great -/
structure Tw (f g : Fig) : Prop where
  of : f.ok
  og : g.ok
  n : g.N = f.N
  t : ∀ i, i < f.N → g.T i = 2 * f.T i
theorem Tw.E {f g : Fig} (q : Tw f g) : ∀ (n m i : Nat), m ≤ n → m < f.N → i < f.N → g.E m i = 2 * f.E m i
  | 0, m, i, hmn, hm, hi => by
    obtain rfl : m = 0 := by omega
    rw [E_0 q.of hi, E_0 q.og (by rw [q.n]; exact hi)]; rfl
  | n + 1, m, i, hmn, hm, hi => by
    have hN := N_in q.of
    cases m with
    | zero => rw [E_0 q.of hi, E_0 q.og (by rw [q.n]; exact hi)]; rfl
    | succ m =>
      have hmod : ∀ x, x % f.N < f.N := fun x => Nat.mod_lt _ (by omega)
      have hV : ∀ b, b ≤ m → g.V m i b = 2 * f.V m i b := fun b hb => by
        unfold Fig.V
        rw [q.n, Tw.E q n b i (by omega) (by omega) hi, Tw.E q n (m - b) (((i + b) % f.N + 1) % f.N) (by omega) (by omega) (hmod _), q.t _ (hmod _)]
        omega
      obtain ⟨⟨b1, h1, h2⟩, h3⟩ := E_min q.of (m := m) (by omega) hi
      obtain ⟨⟨b2, h4, h5⟩, h6⟩ := E_min q.og (m := m) (i := i) (by rw [q.n]; omega) (by rw [q.n]; exact hi)
      have h7 := h3 b2 h4
      have h8 := h6 b1 h1
      have := hV b1 h1
      have := hV b2 h4
      omega
theorem Tw.snd {f g : Fig} (q : Tw f g) : g.snd = 2 * f.snd := by
  have hN := N_in q.of
  have hmod : ∀ x, x % f.N < f.N := fun x => Nat.mod_lt _ (by omega)
  have hV : ∀ k, k < f.N → g.E (g.N - 1) ((k + 1) % g.N) + g.T k = 2 * (f.E (f.N - 1) ((k + 1) % f.N) + f.T k) := fun k hk => by
    rw [q.n, q.E (f.N - 1) (f.N - 1) ((k + 1) % f.N) (by omega) (by omega) (hmod _), q.t k hk]; omega
  obtain ⟨⟨k1, h1, h2⟩, h3⟩ := snd_min q.of
  obtain ⟨⟨k2, h4, h5⟩, h6⟩ := snd_min q.og
  rw [q.n] at h4
  have h7 := h3 k2 h4
  have h8 := h6 k1 (by rw [q.n]; exact h1)
  have := hV k1 h1
  have := hV k2 h4
  omega
def Fig.qk (f : Fig) (sm : Nat) (d : Int) : Fig := { f with ti := f.ti.set sm (f.T sm - d) }
def Fig.tw (f : Fig) : Fig := { f with ti := prt (fun x => x * 2) f.ti f.ti.length }
theorem ti_len {f : Fig} (hok : f.ok) : f.ti.length = f.N := hok.2.2.2.2.2.2.1
theorem qk_ok {f : Fig} (hok : f.ok) {sm : Nat} {d : Int} (hs : sm < f.N) (hd : 0 ≤ d ∧ d < f.T sm) : (f.qk sm d).ok := by
  have hT := T_in hok hs
  refine ⟨hok.1, hok.2.1, hok.2.2.1, hok.2.2.2.1, hok.2.2.2.2.1, hok.2.2.2.2.2.1, ?_, fun x hx => ?_⟩
  · show (f.ti.set sm _).length = _
    rw [List.length_set]; exact hok.2.2.2.2.2.2.1
  · rcases List.mem_or_eq_of_mem_set hx with h | h
    · exact hok.2.2.2.2.2.2.2 x h
    · omega
theorem qk_T {f : Fig} (hok : f.ok) {sm : Nat} {d : Int} (hs : sm < f.N) (i : Nat) : (f.qk sm d).T i = if i = sm then f.T sm - d else f.T i := by
  have hl := ti_len hok
  show (f.ti.set sm (f.T sm - d)).getD i 0 = _
  unfold Fig.T
  simp only [List.getD_eq_getElem?_getD, List.getElem?_set]
  split
  · rename_i h; subst h
    rw [if_pos (by omega), if_pos rfl]; rfl
  · rename_i h
    rw [if_neg (fun e => h e.symm)]
theorem qk_Qk {f : Fig} (hok : f.ok) {sm : Nat} {d : Int} (hs : sm < f.N) (hd : 0 ≤ d ∧ d < f.T sm) : Qk f (f.qk sm d) sm d := by
  refine ⟨hok, qk_ok hok hs hd, rfl, hd.1, hs, ?_, fun i hi hne => ?_⟩
  · rw [qk_T hok hs, if_pos rfl]
  · rw [qk_T hok hs, if_neg hne]
theorem tw_Tw {f : Fig} (hok : f.ok) (h : f.tw.ok) : Tw f f.tw := by
  refine ⟨hok, h, rfl, fun i hi => ?_⟩
  have hl := ti_len hok
  show (prt (fun x => x * 2) f.ti f.ti.length).getD i 0 = _
  rw [prt_all]
  unfold Fig.T
  simp only [List.getD_eq_getElem?_getD, List.getElem?_map, List.getElem?_eq_getElem (show i < f.ti.length by omega), Option.map_some, Option.getD_some]
  omega
/-- SeamsQuicker -/
theorem l9 (f : Fig) (sm d : Int) : FnA Try.prog 9 [.agg f.cells, .int .i64 sm, .int .i64 d] (· = .bool true) := by
  have w := s20
  have l3 : (f.ti.map iAV).length = f.ti.length := by simp
  refine fnA 15 ok9 (by simp) ?_
  conv => whnf
  refine (s17 f).callq rfl rfl (fun r hr => ?_); obtain ⟨b, rfl, hb⟩ := hr
  cases b with
  | true =>
    (conv => whnf); (repeat' ((first | refine bT ?_ | refine bF ?_ | refine bN ?_ | ((first | refine bD ?_ ?_ | refine bEq ?_ ?_ | refine bNe ?_ ?_) <;> intro hh <;> try (exfalso; omega)) | (refine (w).callq rfl rfl fun _ h => ?_; subst h) | refine wIn (by omega) ?_ | refine nI (by omega) ?_) <;> conv => whnf))
    all_goals rfl
  | false =>
    have hs := hb rfl
    have c0 := s32 f hs
    by_cases hok : f.ok
    case neg =>
      have h0 := chkF_pos hok
      (conv => whnf); (repeat' ((first | refine bT ?_ | refine bF ?_ | refine bN ?_ | ((first | refine bD ?_ ?_ | refine bEq ?_ ?_ | refine bNe ?_ ?_) <;> intro hh <;> try (exfalso; omega)) | (refine (c0).callq rfl rfl fun _ h => ?_; subst h) | (refine (w).callq rfl rfl fun _ h => ?_; subst h) | refine wIn (by omega) ?_ | refine nI (by omega) ?_) <;> conv => whnf))
      all_goals rfl
    rw [chkF_ok hok] at c0
    have hN := N_in hok
    have hl := ti_len hok
    by_cases hi : 0 ≤ sm ∧ sm < f.N
    case neg =>
      (conv => whnf); (repeat' ((first | refine bT ?_ | refine bF ?_ | refine bN ?_ | ((first | refine bD ?_ ?_ | refine bEq ?_ ?_ | refine bNe ?_ ?_) <;> intro hh <;> try (exfalso; omega)) | (refine (c0).callq rfl rfl fun _ h => ?_; subst h) | (refine (w).callq rfl rfl fun _ h => ?_; subst h) | refine wIn (by omega) ?_ | refine nI (by omega) ?_) <;> conv => whnf))
      all_goals rfl
    obtain ⟨i, rfl⟩ : ∃ i : Nat, sm = i := ⟨sm.toNat, by omega⟩
    have hiN : i < f.N := by omega
    have g1 : (f.ti.map iAV).getD i [] = [.int .i64 (f.T i)] := row_at (by omega)
    have hT := T_in hok hiN
    by_cases hd0 : 0 ≤ d
    case neg =>
      (conv => whnf); (repeat' ((first | refine bT ?_ | refine bF ?_ | refine bN ?_ | ((first | refine bD ?_ ?_ | refine bEq ?_ ?_ | refine bNe ?_ ?_) <;> intro hh <;> try (exfalso; omega)) | (refine (c0).callq rfl rfl fun _ h => ?_; subst h) | (refine (w).callq rfl rfl fun _ h => ?_; subst h) | refine wIn (by omega) ?_ | refine nI (by omega) ?_) <;> conv => whnf))
      all_goals rfl
    by_cases hd1 : d < f.T i
    case neg =>
      (conv => whnf); (repeat' ((first | refine bT ?_ | refine bF ?_ | refine bN ?_ | ((first | refine bD ?_ ?_ | refine bEq ?_ ?_ | refine bNe ?_ ?_) <;> intro hh <;> try (exfalso; omega)) | (refine (c0).callq rfl rfl fun _ h => ?_; subst h) | (refine iaI (by omega) (by omega) g1 ?_) | (refine (w).callq rfl rfl fun _ h => ?_; subst h) | refine wIn (by omega) ?_ | refine nI (by omega) ?_) <;> conv => whnf))
      all_goals rfl
    have e0 := s28o f hs
    have hoq := qk_ok hok hiN ⟨hd0, hd1⟩
    have q := qk_Qk hok hiN ⟨hd0, hd1⟩
    have hq := q.snd
    have a1 := s31 f hok
    have a2 := s31 (f.qk i d) hoq
    have hset : (f.ti.map iAV).set i [.int .i64 (f.T i - d)] = (f.qk i d).ti.map iAV := by
      show _ = (f.ti.set i (f.T i - d)).map iAV
      rw [List.map_set]; rfl
    have hcq : (f.qk i d).cells = f.d.cells ++ [.int .i64 f.per, .int .i64 f.run, .int .i64 f.near, .isl (f.st.map iAV), .isl ((f.ti.map iAV).set i [.int .i64 (f.T i - d)])] := by rw [hset]; rfl
    rw [hcq] at a2
    obtain ⟨hsn1, hsn2⟩ := (wh_eq hok).1
    obtain ⟨hsq1, hsq2⟩ := (wh_eq hoq).1
    have hst : f.tw.small := ⟨hs.1, hs.2.1, by show (prt _ f.ti f.ti.length).length ≤ 60; rw [prt_len]; exact hs.2.2⟩
    have c1 := s32 f.tw hst
    have hsl : ((f.ti.map iAV).set i [AV.int .i64 (f.T i - d)]).length = f.ti.length := by simp
    (conv => whnf); (repeat' ((first | refine bT ?_ | refine bF ?_ | refine bN ?_ | ((first | refine bD ?_ ?_ | refine bEq ?_ ?_ | refine bNe ?_ ?_) <;> intro hh <;> try (exfalso; omega)) | (refine (c0).callq rfl rfl fun _ h => ?_; subst h) | (refine iaI (by omega) (by omega) g1 ?_) | refine wIn (by omega) ?_ | refine nI (by omega) ?_) <;> conv => whnf))
    refine e0.callzq rfl rfl (fun r rows (hr : r = _ ∧ rows = _) => ?_); obtain ⟨hr1, hr2⟩ := hr; subst hr1; subst hr2; refine ⟨rfl, ?_⟩
    (conv => whnf); (repeat' ((first | refine bT ?_ | refine bF ?_ | refine bN ?_ | ((first | refine bD ?_ ?_ | refine bEq ?_ ?_ | refine bNe ?_ ?_) <;> intro hh <;> try (exfalso; omega)) | refine wIn (by omega) ?_ | refine nI (by omega) ?_) <;> conv => whnf))
    refine e0.callzq rfl rfl (fun r rows (hr : r = _ ∧ rows = _) => ?_); obtain ⟨hr1, hr2⟩ := hr; subst hr1; subst hr2; refine ⟨rfl, ?_⟩
    (conv => whnf); (repeat' ((first | refine bT ?_ | refine bF ?_ | refine bN ?_ | ((first | refine bD ?_ ?_ | refine bEq ?_ ?_ | refine bNe ?_ ?_) <;> intro hh <;> try (exfalso; omega)) | refine wIn (by omega) ?_ | refine nI (by omega) ?_) <;> conv => whnf))
    refine iaI (by omega) (by omega) g1 ?_
    (conv => whnf); (repeat' ((first | refine bT ?_ | refine bF ?_ | refine bN ?_ | ((first | refine bD ?_ ?_ | refine bEq ?_ ?_ | refine bNe ?_ ?_) <;> intro hh <;> try (exfalso; omega)) | refine wIn (by omega) ?_ | refine nI (by omega) ?_) <;> conv => whnf))
    refine iaI (by omega) (by omega) g1 ?_
    (conv => whnf); (repeat' ((first | refine bT ?_ | refine bF ?_ | refine bN ?_ | ((first | refine bD ?_ ?_ | refine bEq ?_ ?_ | refine bNe ?_ ?_) <;> intro hh <;> try (exfalso; omega)) | refine wIn (by omega) ?_ | refine nI (by omega) ?_) <;> conv => whnf))
    refine loop_i (α := Nat) (fun k => [(9, .int .i64 k), (8, .own 14 0), (7, .own 13 0), (3, .own 0 0), (2, .int .i64 d), (1, .int .i64 i)]) (fun k => [.box false f.cells, .row false 55 4 (f.d.bs.map Bolt.av), .row false 3 1 (f.d.gs.map iAV), .row false 50 2 (f.d.rs.map pairAV), .row false 3 1 (f.d.ws.map iAV), .row false 3 1 (f.st.map iAV), .row false 3 1 ((f.ti.map iAV).set i [.int .i64 (f.T i - d)]),
      .row false 55 4 (f.d.bs.map Bolt.av), .row false 3 1 (f.d.gs.map iAV), .row false 50 2 (f.d.rs.map pairAV), .row false 3 1 (f.d.ws.map iAV), .row false 3 1 (f.st.map iAV), .row false 3 1 ((prt (fun x => x * 2) f.ti k).map iAV),
      .box false [.row 1, .row 2, .int .i64 f.d.loss, .row 3, .row 4, .int .i64 f.d.slope, .int .i64 f.per, .int .i64 f.run, .int .i64 f.near, .row 5, .row 6], .box false [.row 7, .row 8, .int .i64 f.d.loss, .row 9, .row 10, .int .i64 f.d.slope, .int .i64 f.per, .int .i64 f.run, .int .i64 f.near, .row 11, .row 12]]) (fun k => k ≤ f.ti.length) (fun k => f.ti.length - k) 0 ?_ (by omega) ?_
    · rw [prt_0]; exact (meets_id (by (repeat' apply And.intro) <;> first | rfl | exact True.intro | (intro hh; cases hh)))
    intro k hk0
    have hpl : ((prt (fun x => x * 2) f.ti k).map iAV).length = f.ti.length := by rw [List.length_map, prt_len]
    conv => whnf
    refine bD (fun h4 => ?_) (fun h4 => ?_)
    · have hk : k < f.ti.length := by omega
      have hx := hok.2.2.2.2.2.2.2 _ (List.getElem_mem hk)
      have g2 : ((prt (fun x => x * 2) f.ti k).map iAV).getD k [] = [.int .i64 f.ti[k]] := by
        rw [← prt_get (fun x => x * 2) hk]; exact row_at (by rw [prt_len]; exact hk)
      have hset := prt_set (fun x => x * 2) hk
      (conv => whnf); (repeat' ((first | refine bT ?_ | refine bF ?_ | refine bN ?_ | ((first | refine bD ?_ ?_ | refine bEq ?_ ?_ | refine bNe ?_ ?_) <;> intro hh <;> try (exfalso; omega)) | refine wIn (by omega) ?_ | refine nI (by omega) ?_) <;> conv => whnf))
      refine iaI (by omega) (by omega) g2 ?_
      (conv => whnf); (repeat' ((first | refine bT ?_ | refine bF ?_ | refine bN ?_ | ((first | refine bD ?_ ?_ | refine bEq ?_ ?_ | refine bNe ?_ ?_) <;> intro hh <;> try (exfalso; omega)) | refine wIn (by omega) ?_ | refine nI (by omega) ?_) <;> conv => whnf))
      refine iaI (by omega) (by omega) g2 ?_
      (conv => whnf); (repeat' ((first | refine bT ?_ | refine bF ?_ | refine bN ?_ | ((first | refine bD ?_ ?_ | refine bEq ?_ ?_ | refine bNe ?_ ?_) <;> intro hh <;> try (exfalso; omega)) | refine wIn (by omega) ?_ | refine nI (by omega) ?_) <;> conv => whnf))
      refine ⟨k + 1, ?_, by omega, by omega⟩
      rw [← hset]
      exact (meets_id (by (repeat' apply And.intro) <;> first | rfl | exact True.intro | (intro hh; cases hh)))
    · have : k = f.ti.length := by omega
      subst this
      by_cases hot : f.tw.ok
      · have a3 := s31 f.tw hot
        rw [chkF_ok hot] at c1
        have ht := (tw_Tw hok hot).snd
        rw [ht] at a3
        (conv => whnf); (repeat' ((first | refine bT ?_ | refine bF ?_ | refine bN ?_ | ((first | refine bD ?_ ?_ | refine bEq ?_ ?_ | refine bNe ?_ ?_) <;> intro hh <;> try (exfalso; omega)) | (refine (a1).callq rfl rfl fun _ h => ?_; subst h) | (refine (a2).lendq rfl fun _ h => ?_; subst h; refine ⟨rfl, ?_⟩) | (refine (c1).lendq rfl fun _ h => ?_; subst h; refine ⟨rfl, ?_⟩) | (refine (a3).lendq rfl fun _ h => ?_; subst h; refine ⟨rfl, ?_⟩) | (refine (w).callq rfl rfl fun _ h => ?_; subst h) | refine wIn (by omega) ?_ | refine nI (by omega) ?_) <;> conv => whnf))
        all_goals rfl
      · have h0 := chkF_pos hot
        (conv => whnf); (repeat' ((first | refine bT ?_ | refine bF ?_ | refine bN ?_ | ((first | refine bD ?_ ?_ | refine bEq ?_ ?_ | refine bNe ?_ ?_) <;> intro hh <;> try (exfalso; omega)) | (refine (a1).callq rfl rfl fun _ h => ?_; subst h) | (refine (a2).lendq rfl fun _ h => ?_; subst h; refine ⟨rfl, ?_⟩) | (refine (c1).lendq rfl fun _ h => ?_; subst h; refine ⟨rfl, ?_⟩) | (refine (w).callq rfl rfl fun _ h => ?_; subst h) | refine wIn (by omega) ?_ | refine nI (by omega) ?_) <;> conv => whnf))
        all_goals rfl
/-- counted from another one on, up to a place -/
def rotK (l : List Int) (c k : Nat) : List Int := (List.range l.length).map fun i => if i < k then l.getD ((i + c) % l.length) 0 else l.getD i 0
def rotL (l : List Int) (c : Nat) : List Int := rotK l c l.length
theorem rotK_len (l : List Int) (c k : Nat) : (rotK l c k).length = l.length := by simp [rotK]
theorem rotL_len (l : List Int) (c : Nat) : (rotL l c).length = l.length := rotK_len l c _
theorem rotK_0 (l : List Int) (c : Nat) : rotK l c 0 = l := by
  apply List.ext_getElem (by simp [rotK])
  intro n h1 h2
  simp [rotK, List.getD_eq_getElem?_getD, h2]
theorem rotL_get (l : List Int) (c : Nat) {i : Nat} (hi : i < l.length) : (rotL l c).getD i 0 = l.getD ((i + c) % l.length) 0 := by
  simp [rotL, rotK, List.getD_eq_getElem?_getD, hi]
theorem rotK_set (l : List Int) (c : Nat) {k : Nat} (hk : k < l.length) : ((rotK l c k).map iAV).set k [.int .i64 (l.getD ((k + c) % l.length) 0)] = (rotK l c (k + 1)).map iAV := by
  have : (rotK l c k).set k (l.getD ((k + c) % l.length) 0) = rotK l c (k + 1) := by
    apply List.ext_getElem (by simp [rotK])
    intro n h1 h2
    rw [List.getElem_set]
    simp only [rotK, List.getElem_map, List.getElem_range]
    by_cases h : k = n
    · subst h; simp
    · rw [if_neg h]
      by_cases h3 : n < k
      · rw [if_pos h3, if_pos (by omega)]
      · rw [if_neg h3, if_neg (by omega)]
  rw [← this, List.map_set]; rfl
theorem rotL_mem {l : List Int} {c : Nat} {x : Int} (h : x ∈ rotL l c) : x ∈ l := by
  simp only [rotL, rotK, List.mem_map, List.mem_range] at h
  obtain ⟨i, hi, rfl⟩ := h
  rw [if_pos hi]
  have hm : (i + c) % l.length < l.length := Nat.mod_lt _ (by omega)
  rw [List.getD_eq_getElem?_getD, List.getElem?_eq_getElem hm]
  exact List.getElem_mem _
theorem list_ext0 {a b : List Int} (hl : a.length = b.length) (h : ∀ i, i < a.length → a.getD i 0 = b.getD i 0) : a = b := by
  apply List.ext_getElem hl
  intro n h1 h2
  have := h n h1
  simpa [List.getD_eq_getElem?_getD, h1, h2] using this
theorem rotL_sum (l : List Int) (c : Nat) : (rotL l c).sum = l.sum := by
  by_cases h0 : l.length = 0
  · have : l = [] := List.eq_nil_of_length_eq_zero h0
    subst this; rfl
  have hm : c % l.length < l.length := Nat.mod_lt _ (by omega)
  have : rotL l c = l.drop (c % l.length) ++ l.take (c % l.length) := by
    refine list_ext0 (by rw [rotL_len, List.length_append, List.length_drop, List.length_take]; omega) fun i hi => ?_
    rw [rotL_len] at hi
    rw [rotL_get l c hi]
    simp only [List.getD_eq_getElem?_getD]
    have e : (i + c) % l.length = (i + c % l.length) % l.length := by rw [Nat.add_mod_mod]
    rw [e]
    generalize c % l.length = q at *
    by_cases h1 : i + q < l.length
    · rw [Nat.mod_eq_of_lt h1, List.getElem?_append_left (by rw [List.length_drop]; omega), List.getElem?_drop, Nat.add_comm]
    · rw [Nat.mod_eq_sub_mod (by omega), Nat.mod_eq_of_lt (by omega), List.getElem?_append_right (by rw [List.length_drop]; omega), List.length_drop, List.getElem?_take, if_pos (by omega)]
      congr 2; omega
  rw [this, List.sum_append]
  have := List.sum_append (l₁ := l.take (c % l.length)) (l₂ := l.drop (c % l.length))
  rw [List.take_append_drop] at this
  omega
theorem rotL_back {l : List Int} {c : Nat} : rotL (rotL l c) (l.length - c % l.length) = l := by
  by_cases h0 : l.length = 0
  · have : l = [] := List.eq_nil_of_length_eq_zero h0
    subst this; rfl
  refine list_ext0 (by rw [rotL_len, rotL_len]) fun i hi => ?_
  rw [rotL_len, rotL_len] at hi
  rw [rotL_get _ _ (by rw [rotL_len]; exact hi), rotL_len, rotL_get l c (Nat.mod_lt _ (by omega))]
  congr 1
  have hm : c % l.length < l.length := Nat.mod_lt _ (by omega)
  rw [Nat.mod_add_mod]
  have e : i + (l.length - c % l.length) + c = i + l.length * (c / l.length + 1) := by
    have := Nat.div_add_mod c l.length
    rw [Nat.mul_add, Nat.mul_one]; omega
  rw [e, Nat.add_mul_mod_self_left, Nat.mod_eq_of_lt hi]
def Fig.trn (f : Fig) (c : Nat) : Fig := { f with d := { f.d with gs := rotL f.d.gs c }, st := rotL f.st c, ti := rotL f.ti c }
theorem trn_N (f : Fig) (c : Nat) : (f.trn c).N = f.N := rotL_len _ _
theorem trn_ok {f : Fig} (hok : f.ok) (c : Nat) : (f.trn c).ok := by
  obtain ⟨⟨⟨h1, h2, h3, h4, h5⟩, h6⟩, k1, k2, k3, k4, k5, k6, k7⟩ := hok
  refine ⟨⟨⟨h1, ?_, fun g hg => h3 g (rotL_mem hg), h4, h5⟩, h6⟩, k1, k2, k3, ?_, fun x hx => k5 x (rotL_mem hx), ?_, fun x hx => k7 x (rotL_mem hx)⟩
  · show 3 ≤ (rotL f.d.gs c).length ∧ (rotL f.d.gs c).length ≤ 16
    rw [rotL_len]; exact h2
  · show (rotL f.st c).length = (rotL f.d.gs c).length
    rw [rotL_len, rotL_len]; exact k4
  · show (rotL f.ti c).length = (rotL f.d.gs c).length
    rw [rotL_len, rotL_len]; exact k6
theorem trn_back {f : Fig} (hok : f.ok) (c : Nat) : (f.trn c).trn (f.N - c % f.N) = f := by
  have h1 : f.st.length = f.N := hok.2.2.2.2.1
  have h2 := ti_len hok
  have e1 : rotL (rotL f.d.gs c) (f.N - c % f.N) = f.d.gs := rotL_back
  have e2 : rotL (rotL f.st c) (f.N - c % f.N) = f.st := by rw [← h1]; exact rotL_back
  have e3 : rotL (rotL f.ti c) (f.N - c % f.N) = f.ti := by rw [← h2]; exact rotL_back
  show Fig.mk { f.d with gs := rotL (rotL f.d.gs c) (f.N - c % f.N) } f.per f.run f.near (rotL (rotL f.st c) (f.N - c % f.N)) (rotL (rotL f.ti c) (f.N - c % f.N)) = f
  rw [e1, e2, e3]
theorem trn_rs {f : Fig} {c i : Nat} (hi : i < f.N) : (f.trn c).rs i = f.rs ((i + c) % f.N) := by
  have : (rotL f.d.gs c).getD i 0 = f.d.gs.getD ((i + c) % f.N) 0 := rotL_get _ _ hi
  show (f.runsL).getD ((rotL f.d.gs c).getD i 0).toNat [] = _
  rw [this]; rfl
theorem mod_sh (i c N : Nat) : ((i + 1) % N + c) % N = ((i + c) % N + 1) % N := by
  rw [Nat.mod_add_mod, Nat.mod_add_mod]; congr 1; omega
theorem trn_stp {f : Fig} {c i : Nat} (near : Int) (hi : i < f.N) : (f.trn c).stp near i = f.stp near ((i + c) % f.N) := by
  unfold Fig.stp Fig.stN
  rw [trn_rs hi]; rfl
theorem trn_isB {f : Fig} (hok : f.ok) (c : Nat) {near : Int} {l : List Int} (h : f.isB near l) : (f.trn c).isB near (rotL l c) := by
  have hN := N_in hok
  obtain ⟨h1, h2, h3⟩ := h
  refine ⟨by rw [rotL_len, trn_N]; exact h1, fun x hx => h2 x (rotL_mem hx), fun i hi => ?_⟩
  rw [trn_N] at hi ⊢
  have hm := Nat.mod_lt (i + c) (show 0 < f.N by omega)
  obtain ⟨s, k1, k2⟩ := h3 _ hm
  refine ⟨s, by rw [trn_stp near hi]; exact k1, ?_⟩
  rw [rotL_get l c (by rw [h1]; exact Nat.mod_lt _ (by omega)), rotL_get l c (by rw [h1]; exact hi), h1, mod_sh]
  exact k2
theorem lw_two {f g : Fig} (h1 : ∀ l, f.isB f.near l → ∃ l', g.isB g.near l' ∧ l'.sum = l.sum) (h2 : ∀ l, g.isB g.near l → ∃ l', f.isB f.near l' ∧ l'.sum = l.sum) : f.lw = g.lw ∧ f.lE = g.lE := by
  by_cases hb : f.hasB
  · obtain ⟨a1, ⟨l, a2, a3⟩, a4⟩ := lw_spec hb
    obtain ⟨l', b1, b2⟩ := h1 l a2
    have := lw_eq (f := g) b1 fun l'' hl'' => by
      obtain ⟨l3, b3, b4⟩ := h2 l'' hl''
      have := a4 l3 b3
      omega
    exact ⟨by omega, by omega⟩
  · have hg : ¬ g.hasB := fun ⟨l, hl⟩ => hb (by obtain ⟨l', h, _⟩ := h2 l hl; exact ⟨l', h⟩)
    rw [(lw_no hb).1, (lw_no hb).2, (lw_no hg).1, (lw_no hg).2]; exact ⟨rfl, rfl⟩
theorem trn_lw {f : Fig} (hok : f.ok) (c : Nat) : f.lw = (f.trn c).lw ∧ f.lE = (f.trn c).lE := by
  refine lw_two (fun l h => ⟨rotL l c, trn_isB hok c h, rotL_sum _ _⟩) fun l h => ⟨rotL l (f.N - c % f.N), ?_, rotL_sum _ _⟩
  have := trn_isB (trn_ok hok c) (f.N - c % f.N) h
  rw [trn_back hok c] at this
  exact this
theorem trn_clst {f : Fig} (hok : f.ok) (c : Nat) : f.clst = (f.trn c).clst := by
  have key : ∀ (g : Fig) (c : Nat), g.ok → (g.trn c).clst ≤ g.clst := fun g c hg => by
    obtain ⟨h1, ⟨l, h2⟩, _⟩ := clst_spec hg
    exact (clst_spec (trn_ok hg c)).2.2 _ h1.1 ⟨_, trn_isB hg c h2⟩
  have h1 := key f c hok
  have h2 := key (f.trn c) (f.N - c % f.N) (trn_ok hok c)
  rw [trn_back hok c] at h2
  omega
theorem trn_T {f : Fig} (hok : f.ok) {c i : Nat} (hi : i < f.N) : (f.trn c).T i = f.T ((i + c) % f.N) := by
  have h2 := ti_len hok
  show (rotL f.ti c).getD i 0 = _
  rw [rotL_get _ _ (by omega), h2]; rfl
theorem trn_E {f : Fig} (hok : f.ok) (c : Nat) : ∀ (n m i : Nat), m ≤ n → m < f.N → i < f.N → (f.trn c).E m i = f.E m ((i + c) % f.N)
  | 0, m, i, hmn, hm, hi => by
    obtain rfl : m = 0 := by omega
    rw [E_0 hok (Nat.mod_lt _ (by omega)), E_0 (trn_ok hok c) (by rw [trn_N]; exact hi)]
  | n + 1, m, i, hmn, hm, hi => by
    have hN := N_in hok
    have hmod : ∀ x, x % f.N < f.N := fun x => Nat.mod_lt _ (by omega)
    cases m with
    | zero => rw [E_0 hok (hmod _), E_0 (trn_ok hok c) (by rw [trn_N]; exact hi)]
    | succ m =>
      have hV : ∀ b, b ≤ m → (f.trn c).V m i b = f.V m ((i + c) % f.N) b := fun b hb => by
        unfold Fig.V
        rw [trn_N, trn_E hok c n b i (by omega) (by omega) hi, trn_E hok c n (m - b) _ (by omega) (by omega) (hmod _), trn_T hok (hmod _)]
        have e1 : ((i + b) % f.N + c) % f.N = ((i + c) % f.N + b) % f.N := by rw [Nat.mod_add_mod, Nat.mod_add_mod]; congr 1; omega
        rw [mod_sh, e1]
      obtain ⟨⟨b1, h1, h2⟩, h3⟩ := E_min hok (m := m) (i := (i + c) % f.N) (by omega) (hmod _)
      obtain ⟨⟨b2, h4, h5⟩, h6⟩ := E_min (trn_ok hok c) (m := m) (i := i) (by rw [trn_N]; omega) (by rw [trn_N]; exact hi)
      have h7 := h3 b2 h4
      have h8 := h6 b1 h1
      rw [hV b2 h4] at h5
      rw [hV b1 h1] at h8
      omega
theorem trn_snd {f : Fig} (hok : f.ok) (c : Nat) : f.snd = (f.trn c).snd := by
  have key : ∀ (g : Fig) (c : Nat), g.ok → g.snd ≤ (g.trn c).snd := fun g c hg => by
    have hN := N_in hg
    have hmod : ∀ x, x % g.N < g.N := fun x => Nat.mod_lt _ (by omega)
    obtain ⟨⟨k, h1, h2⟩, _⟩ := snd_min (trn_ok hg c)
    rw [trn_N] at h1 h2
    rw [trn_E hg c (g.N - 1) _ _ (by omega) (by omega) (hmod _), trn_T hg h1, mod_sh] at h2
    have := (snd_min hg).2 ((k + c) % g.N) (hmod _)
    omega
  have h1 := key f c hok
  have h2 := key (f.trn c) (f.N - c % f.N) (trn_ok hok c)
  rw [trn_back hok c] at h2
  omega
theorem trn_mv {f : Fig} (hok : f.ok) {c i : Nat} (hi : i < f.N) : (f.trn c).mv i = f.mv ((i + c) % f.N) := by
  have hN := N_in hok
  have hst : f.st.length = f.N := hok.2.2.2.2.1
  have hmod : ∀ x, x % f.N < f.N := fun x => Nat.mod_lt _ (by omega)
  have hg : ∀ j, j < f.N → (f.trn c).st.getD j 0 = f.st.getD ((j + c) % f.N) 0 := fun j hj => by
    show (rotL f.st c).getD j 0 = _
    rw [rotL_get _ _ (by omega), hst]
  have hmb : (f.trn c).mb i = f.mb ((i + c) % f.N) := by
    funext x
    unfold Fig.mb
    have e : (f.trn c).nx i = (i + 1) % f.N := by
      show (i + 1) % (rotL f.d.gs c).length = _
      rw [rotL_len]; rfl
    rw [e, hg i hi, hg _ (hmod _), mod_sh]; rfl
  have hcnt : (f.trn c).cnt i = f.cnt ((i + c) % f.N) := by
    unfold Fig.cnt
    rw [trn_rs hi, hmb]
  unfold Fig.mv
  rw [hcnt, trn_rs hi]
theorem s30 (f : Fig) (hs : f.small) (hok : f.ok) (c : Nat) (hc : c ≤ 1000) : FnO Try.prog 30 [.agg f.cells, .int .i64 c] (fun r rows => r = .agg [.row 2, .row 3, .int .i64 f.d.loss, .row 4, .row 5, .int .i64 f.d.slope, .int .i64 f.per, .int .i64 f.run, .int .i64 f.near, .row 6, .row 7] ∧
    rows = [(2, .row false 55 4 (f.d.bs.map Bolt.av)), (3, .row false 3 1 ((rotL f.d.gs c).map iAV)), (4, .row false 50 2 (f.d.rs.map pairAV)), (5, .row false 3 1 (f.d.ws.map iAV)), (6, .row false 3 1 ((rotL f.st c).map iAV)), (7, .row false 3 1 ((rotL f.ti c).map iAV))]) := by
  have e0 := s28o f hs
  have hN := N_in hok
  have h1 : f.st.length = f.N := hok.2.2.2.2.1
  have h2 := ti_len hok
  have h3 : f.d.gs.length = f.N := rfl
  have l1 : (f.st.map iAV).length = f.N := by rw [List.length_map, h1]
  have l2 : (f.ti.map iAV).length = f.N := by rw [List.length_map, h2]
  have l3 : (f.d.gs.map iAV).length = f.N := by rw [List.length_map]; rfl
  refine fnO 9 ok30 (by simp) ?_
  (conv => whnf); (repeat' ((first | refine bT ?_ | refine bF ?_ | refine bN ?_ | ((first | refine bD ?_ ?_ | refine bEq ?_ ?_ | refine bNe ?_ ?_) <;> intro hh <;> try (exfalso; omega)) | refine wIn (by omega) ?_ | refine nI (by omega) ?_) <;> conv => whnf))
  refine e0.callzq rfl rfl (fun r rows (hr : r = _ ∧ rows = _) => ?_); obtain ⟨hr1, hr2⟩ := hr; subst hr1; subst hr2; refine ⟨rfl, ?_⟩
  (conv => whnf); (repeat' ((first | refine bT ?_ | refine bF ?_ | refine bN ?_ | ((first | refine bD ?_ ?_ | refine bEq ?_ ?_ | refine bNe ?_ ?_) <;> intro hh <;> try (exfalso; omega)) | refine wIn (by omega) ?_ | refine nI (by omega) ?_) <;> conv => whnf))
  refine loop_i (α := Nat) (fun k => [(7, .int .i64 k), (6, .int .i64 ↑(f.st.map iAV).length), (5, .own 8 0), (4, .own 1 0), (2, .own 0 0), (1, .int .i64 c)]) (fun k => [.box false f.cells, .box false [.nils, .nils, .int .i64 0, .nils, .nils, .int .i64 0, .int .i64 0, .int .i64 0, .int .i64 0, .nils, .nils], .row false 55 4 (f.d.bs.map Bolt.av), .row false 3 1 ((rotK f.d.gs c k).map iAV), .row false 50 2 (f.d.rs.map pairAV), .row false 3 1 (f.d.ws.map iAV), .row false 3 1 ((rotK f.st c k).map iAV), .row false 3 1 ((rotK f.ti c k).map iAV), .box false [.row 2, .row 3, .int .i64 f.d.loss, .row 4, .row 5, .int .i64 f.d.slope, .int .i64 f.per, .int .i64 f.run, .int .i64 f.near, .row 6, .row 7]]) (fun k => k ≤ f.N) (fun k => f.N - k) 0 ?_ (by omega) ?_
  · rw [rotK_0, rotK_0, rotK_0]; exact (meets_id (by (repeat' apply And.intro) <;> first | rfl | exact True.intro | (intro hh; cases hh)))
  intro k hk0
  have p1 : ((rotK f.st c k).map iAV).length = f.N := by rw [List.length_map, rotK_len, h1]
  have p2 : ((rotK f.ti c k).map iAV).length = f.N := by rw [List.length_map, rotK_len, h2]
  have p3 : ((rotK f.d.gs c k).map iAV).length = f.N := by rw [List.length_map, rotK_len]; rfl
  conv => whnf
  refine bD (fun h4 => ?_) (fun h4 => ?_)
  · have hk : k < f.N := by omega
    have hm : ((k : Int) + c).tmod ↑(f.st.map iAV).length = (((k + c) % f.N : Nat) : Int) := by
      rw [l1, Int.tmod_eq_emod_of_nonneg (by omega)]; push_cast; rfl
    have hmb : (k + c) % f.N < f.N := Nat.mod_lt _ (by omega)
    have g1 : (f.st.map iAV).getD (((k : Int) + c).tmod ↑(f.st.map iAV).length).toNat [] = [.int .i64 (f.st.getD ((k + c) % f.st.length) 0)] := by
      rw [hm, Int.toNat_natCast, h1]; exact row_at (by omega)
    have g2 : (f.ti.map iAV).getD (((k : Int) + c).tmod ↑(f.st.map iAV).length).toNat [] = [.int .i64 (f.ti.getD ((k + c) % f.ti.length) 0)] := by
      rw [hm, Int.toNat_natCast, h2]; exact row_at (by omega)
    have g3 : (f.d.gs.map iAV).getD (((k : Int) + c).tmod ↑(f.st.map iAV).length).toNat [] = [.int .i64 (f.d.gs.getD ((k + c) % f.d.gs.length) 0)] := by
      rw [hm, Int.toNat_natCast]; exact row_at hmb
    have q1 : ((rotK f.st c k).map iAV).getD k [] = [.int .i64 ((rotK f.st c k).getD k 0)] := row_at (by rw [rotK_len]; omega)
    have q2 : ((rotK f.ti c k).map iAV).getD k [] = [.int .i64 ((rotK f.ti c k).getD k 0)] := row_at (by rw [rotK_len]; omega)
    have q3 : ((rotK f.d.gs c k).map iAV).getD k [] = [.int .i64 ((rotK f.d.gs c k).getD k 0)] := row_at (by rw [rotK_len]; omega)
    have t1 := rotK_set f.st c (k := k) (by omega)
    have t2 := rotK_set f.ti c (k := k) (by omega)
    have t3 := rotK_set f.d.gs c (k := k) (by omega)
    (conv => whnf); (repeat' ((first | refine bT ?_ | refine bF ?_ | refine bN ?_ | ((first | refine bD ?_ ?_ | refine bEq ?_ ?_ | refine bNe ?_ ?_) <;> intro hh <;> try (exfalso; omega)) | refine wIn (by omega) ?_ | refine nI (by omega) ?_) <;> conv => whnf))
    refine iaI (by omega) (by omega) g1 ?_
    (conv => whnf); (repeat' ((first | refine bT ?_ | refine bF ?_ | refine bN ?_ | ((first | refine bD ?_ ?_ | refine bEq ?_ ?_ | refine bNe ?_ ?_) <;> intro hh <;> try (exfalso; omega)) | refine wIn (by omega) ?_ | refine nI (by omega) ?_) <;> conv => whnf))
    refine iaI (by omega) (by omega) g2 ?_
    (conv => whnf); (repeat' ((first | refine bT ?_ | refine bF ?_ | refine bN ?_ | ((first | refine bD ?_ ?_ | refine bEq ?_ ?_ | refine bNe ?_ ?_) <;> intro hh <;> try (exfalso; omega)) | refine wIn (by omega) ?_ | refine nI (by omega) ?_) <;> conv => whnf))
    refine iaI (by omega) (by omega) g3 ?_
    (conv => whnf); (repeat' ((first | refine bT ?_ | refine bF ?_ | refine bN ?_ | ((first | refine bD ?_ ?_ | refine bEq ?_ ?_ | refine bNe ?_ ?_) <;> intro hh <;> try (exfalso; omega)) | refine wIn (by omega) ?_ | refine nI (by omega) ?_) <;> conv => whnf))
    refine iaI (by omega) (by omega) q1 ?_
    (conv => whnf); (repeat' ((first | refine bT ?_ | refine bF ?_ | refine bN ?_ | ((first | refine bD ?_ ?_ | refine bEq ?_ ?_ | refine bNe ?_ ?_) <;> intro hh <;> try (exfalso; omega)) | refine wIn (by omega) ?_ | refine nI (by omega) ?_) <;> conv => whnf))
    refine iaI (by omega) (by omega) q2 ?_
    (conv => whnf); (repeat' ((first | refine bT ?_ | refine bF ?_ | refine bN ?_ | ((first | refine bD ?_ ?_ | refine bEq ?_ ?_ | refine bNe ?_ ?_) <;> intro hh <;> try (exfalso; omega)) | refine wIn (by omega) ?_ | refine nI (by omega) ?_) <;> conv => whnf))
    refine iaI (by omega) (by omega) q3 ?_
    (conv => whnf); (repeat' ((first | refine bT ?_ | refine bF ?_ | refine bN ?_ | ((first | refine bD ?_ ?_ | refine bEq ?_ ?_ | refine bNe ?_ ?_) <;> intro hh <;> try (exfalso; omega)) | refine wIn (by omega) ?_ | refine nI (by omega) ?_) <;> conv => whnf))
    refine ⟨k + 1, ?_, by omega, by omega⟩
    rw [← t1, ← t2, ← t3]
    exact (meets_id (by (repeat' apply And.intro) <;> first | rfl | exact True.intro | (intro hh; cases hh)))
  · have : k = f.N := by omega
    subst this
    have z1 : rotK f.st c f.N = rotL f.st c := by rw [← h1]; rfl
    have z2 : rotK f.ti c f.N = rotL f.ti c := by rw [← h2]; rfl
    have z3 : rotK f.d.gs c f.N = rotL f.d.gs c := rfl
    rw [← z1, ← z2, ← z3]
    (conv => whnf); (repeat' ((first | refine bT ?_ | refine bF ?_ | refine bN ?_ | ((first | refine bD ?_ ?_ | refine bEq ?_ ?_ | refine bNe ?_ ?_) <;> intro hh <;> try (exfalso; omega)) | refine wIn (by omega) ?_ | refine nI (by omega) ?_) <;> conv => whnf))
    all_goals exact ⟨rfl, rfl⟩
/-- SeamsRing -/
theorem l6 (f : Fig) (c sm : Int) : FnA Try.prog 6 [.agg f.cells, .int .i64 c, .int .i64 sm] (· = .bool true) := by
  have w := s20
  refine fnA 8 ok6 (by simp) ?_
  conv => whnf
  refine (s25 f).callq rfl rfl (fun r hr => ?_); obtain ⟨b, rfl, hb⟩ := hr
  cases b with
  | false =>
    (conv => whnf); (repeat' ((first | refine bT ?_ | refine bF ?_ | refine bN ?_ | ((first | refine bD ?_ ?_ | refine bEq ?_ ?_ | refine bNe ?_ ?_) <;> intro hh <;> try (exfalso; omega)) | (refine (w).callq rfl rfl fun _ h => ?_; subst h) | refine wIn (by omega) ?_ | refine nI (by omega) ?_) <;> conv => whnf))
    all_goals rfl
  | true =>
    obtain ⟨hs, h0, _⟩ := hb rfl
    obtain ⟨hok, hh⟩ := eF_ok h0
    have hN := N_in hok
    have hst : f.st.length = f.N := hok.2.2.2.2.1
    have l2 : (f.st.map iAV).length = f.N := by rw [List.length_map, hst]
    by_cases hc : 0 ≤ c ∧ c ≤ 1000
    case neg =>
      (conv => whnf); (repeat' ((first | refine bT ?_ | refine bF ?_ | refine bN ?_ | ((first | refine bD ?_ ?_ | refine bEq ?_ ?_ | refine bNe ?_ ?_) <;> intro hh <;> try (exfalso; omega)) | (refine (w).callq rfl rfl fun _ h => ?_; subst h) | refine wIn (by omega) ?_ | refine nI (by omega) ?_) <;> conv => whnf))
      all_goals rfl
    by_cases hi : 0 ≤ sm ∧ sm < f.N
    case neg =>
      (conv => whnf); (repeat' ((first | refine bT ?_ | refine bF ?_ | refine bN ?_ | ((first | refine bD ?_ ?_ | refine bEq ?_ ?_ | refine bNe ?_ ?_) <;> intro hh <;> try (exfalso; omega)) | (refine (w).callq rfl rfl fun _ h => ?_; subst h) | refine wIn (by omega) ?_ | refine nI (by omega) ?_) <;> conv => whnf))
      all_goals rfl
    obtain ⟨i, rfl⟩ : ∃ i : Nat, sm = i := ⟨sm.toNat, by omega⟩
    obtain ⟨c, rfl⟩ : ∃ k : Nat, c = k := ⟨c.toNat, by omega⟩
    have hiN : i < f.N := by omega
    have hmN : (i + c) % f.N < f.N := Nat.mod_lt _ (by omega)
    have hoko := trn_ok hok c
    have h0o : (f.trn c).eF = 0 := by unfold Fig.eF; rw [if_pos hoko, if_pos (show (f.trn c).d.has = true from hh)]
    have e0 := s30 f hs hok c (by omega)
    have hm : ((i : Int) + c).tmod ↑(f.st.map iAV).length = (((i + c) % f.N : Nat) : Int) := by
      rw [l2, Int.tmod_eq_emod_of_nonneg (by omega)]; push_cast; rfl
    have hG : ∀ j : Nat, j < f.N → (j : Int) < f.d.gs.length := fun j hj => by
      have : (j : Int) < f.N := by omega
      exact this
    have hM : f.eM ((i + c) % f.N : Nat) = 0 := by unfold Fig.eM; rw [if_pos hok, if_pos ⟨by omega, hG _ hmN⟩, if_pos hh]
    have hMo : (f.trn c).eM i = 0 := by
      unfold Fig.eM
      rw [if_pos hoko, if_pos ⟨by omega, by rw [show (f.trn c).d.gs.length = f.d.gs.length from rotL_len _ _]; exact hG i hiN⟩, if_pos (show (f.trn c).d.has = true from hh)]
    have a1 := s21 f _ hM
    rw [← hm] at a1
    have a2 := s21 (f.trn c) i hMo
    rw [trn_mv hok hiN] at a2
    have a3 := s26 f h0
    have a4 := s26 (f.trn c) h0o
    rw [← (trn_lw hok c).1, ← (trn_lw hok c).2] at a4
    have a5 := s29 f h0
    have a6 := s29 (f.trn c) h0o
    rw [← trn_clst hok c] at a6
    have a7 := s31 f hok
    have a8 := s31 (f.trn c) hoko
    rw [← trn_snd hok c] at a8
    (conv => whnf); (repeat' ((first | refine bT ?_ | refine bF ?_ | refine bN ?_ | ((first | refine bD ?_ ?_ | refine bEq ?_ ?_ | refine bNe ?_ ?_) <;> intro hh <;> try (exfalso; omega)) | refine wIn (by omega) ?_ | refine nI (by omega) ?_) <;> conv => whnf))
    refine e0.callzq rfl rfl (fun r rows (hr : r = _ ∧ rows = _) => ?_); obtain ⟨hr1, hr2⟩ := hr; subst hr1; subst hr2; refine ⟨rfl, ?_⟩
    (conv => whnf); (repeat' ((first | refine bT ?_ | refine bF ?_ | refine bN ?_ | ((first | refine bD ?_ ?_ | refine bEq ?_ ?_ | refine bNe ?_ ?_) <;> intro hh <;> try (exfalso; omega)) | (refine (a1).callq rfl rfl fun _ h => ?_; subst h) | (refine (a2).lendq rfl fun _ h => ?_; subst h; refine ⟨rfl, ?_⟩) | (refine (a3).callq rfl rfl fun _ h => ?_; subst h) | (refine (a4).lendq rfl fun _ h => ?_; subst h; refine ⟨rfl, ?_⟩) | (refine (a5).callq rfl rfl fun _ h => ?_; subst h) | (refine (a6).lendq rfl fun _ h => ?_; subst h; refine ⟨rfl, ?_⟩) | (refine (a7).callq rfl rfl fun _ h => ?_; subst h) | (refine (a8).lendq rfl fun _ h => ?_; subst h; refine ⟨rfl, ?_⟩) | (refine (w).callq rfl rfl fun _ h => ?_; subst h) | refine wIn (by omega) ?_ | refine nI (by omega) ?_) <;> conv => whnf))
    all_goals rfl
end Go.Proofs
