/- What each function of this program answers, proved by walking its body: the contracts that the law rests on, part 3. -/
import Derived.Test.YtkkpokakjblenaaFns2
set_option linter.unusedSimpArgs false
set_option linter.unusedVariables false
set_option linter.unusedSectionVars false
namespace Go.Proofs
open Go.Eng
attribute [local irreducible] Go.Eng.brB Go.Eng.need Go.Eng.wrE Go.Eng.iaE Go.Eng.slE Go.Eng.apE Go.Eng.CallZ Go.Eng.CallE Go.Eng.VCallE Go.Eng.YldE Go.Eng.GoC Go.Eng.MeetsE Go.Eng.FnA Go.Eng.FnV Go.Eng.ItA
set_option maxRecDepth 100000
/-- beginnings: each seam surely meets with them -/
def Fig.isB (f : Fig) (near : Int) (l : List Int) : Prop := l.length = f.N ∧ (∀ x ∈ l, 0 ≤ x ∧ x < f.per) ∧ ∀ i, i < f.N → ∃ s ∈ f.stp near i, l.getD ((i + 1) % f.N) 0 = (l.getD i 0 + s).tmod f.per
theorem pth_seq {f : Fig} (hp : 1 ≤ f.per ∧ f.per ≤ 60) {near start : Int} (hs : 0 ≤ start ∧ start < f.per) : ∀ (g : Nat) (w : Way) (x : Int), f.pth near start g w x ↔
    ∃ q : Nat → Int, q 0 = start ∧ q g = x ∧ (∀ i, i < g → ∃ s ∈ f.stp near i, q (i + 1) = (q i + s).tmod f.per) ∧ w.1 = (List.range g).map q ∧ w.2 = w.1.sum
  | 0, w, x => by
    constructor
    · rintro ⟨rfl, rfl⟩
      exact ⟨fun _ => x, rfl, rfl, fun i hi => by omega, rfl, rfl⟩
    · rintro ⟨q, h1, h2, _, h3, h4⟩
      refine ⟨?_, h2.symm.trans h1⟩
      obtain ⟨a, b⟩ := w
      simp only [List.range_zero, List.map_nil] at h3
      subst h3
      simp only [List.sum_nil] at h4
      subst h4; rfl
  | g + 1, w, x => by
    constructor
    · rintro ⟨v, y, h1, ⟨s, h2, h3⟩, h4⟩
      obtain ⟨q, a1, a2, a3, a4, a5⟩ := (pth_seq hp hs g v y).1 h1
      refine ⟨fun i => if i = g + 1 then x else q i, ?_, by simp, fun i hi => ?_, ?_, ?_⟩
      · simp only; rw [if_neg (by omega)]; exact a1
      · simp only
        rw [if_neg (show i ≠ g + 1 by omega)]
        by_cases hig : i = g
        · subst hig
          rw [if_pos rfl]
          exact ⟨s, h2, by rw [h3, a2]⟩
        · rw [if_neg (by omega)]
          exact a3 i (by omega)
      · rw [h4, List.range_succ, List.map_append]
        simp only [List.map_cons, List.map_nil]
        rw [if_neg (by omega), a2, a4]
        congr 1
        apply List.map_congr_left
        intro i hi
        have := List.mem_range.1 hi
        rw [if_neg (by omega)]
      · rw [h4]; simp [a5]
    · rintro ⟨q, a1, a2, a3, a4, a5⟩
      have a4' : w.1 = (List.range g).map q ++ [q g] := by rw [a4, List.range_succ, List.map_append]; rfl
      refine ⟨((List.range g).map q, ((List.range g).map q).sum), q g, (pth_seq hp hs g _ _).2 ⟨q, a1, rfl, fun i hi => a3 i (by omega), rfl, rfl⟩, ?_, ?_⟩
      · obtain ⟨s, h1, h2⟩ := a3 g (by omega)
        exact ⟨s, h1, by rw [← h2]; exact a2.symm⟩
      · obtain ⟨a, b⟩ := w
        simp only at a4' a5
        subst a4'
        rw [a5]; simp
theorem rng_iff {f : Fig} (hok : f.ok) (near : Int) (w : Way) : f.rng near w ↔ w.2 = w.1.sum ∧ f.isB near w.1 := by
  have hp := hok.2.1
  have hN := N_in hok
  constructor
  · rintro ⟨st, hs, h⟩
    obtain ⟨q, a1, a2, a3, a4, a5⟩ := (pth_seq hp hs f.N w st).1 h
    have hq : ∀ i, i ≤ f.N → 0 ≤ q i ∧ q i < f.per := fun i hi => by
      cases i with
      | zero => rw [a1]; exact hs
      | succ i =>
        obtain ⟨s, h1, h2⟩ := a3 i (by omega)
        have b := ((mem_stp (by omega)).1 h1).1
        have : ∀ j, j ≤ i → 0 ≤ q j ∧ q j < f.per := by
          intro j hj
          induction j with
          | zero => rw [a1]; exact hs
          | succ j ih =>
            obtain ⟨s', h1', h2'⟩ := a3 j (by omega)
            have b' := ((mem_stp (by omega)).1 h1').1
            have := ih (by omega)
            obtain ⟨c1, c2, c3⟩ := tmod_in (a := q j + s') (b := f.per) (by omega) hp.1
            omega
        have := this i (Nat.le_refl _)
        obtain ⟨c1, c2, c3⟩ := tmod_in (a := q i + s) (b := f.per) (by omega) hp.1
        omega
    have hg : ∀ i, i < f.N → w.1.getD i 0 = q i := fun i hi => by rw [a4]; simp [List.getD_eq_getElem?_getD, hi]
    refine ⟨a5, by rw [a4]; simp, fun x hx => ?_, fun i hi => ?_⟩
    · rw [a4] at hx
      obtain ⟨i, hi, rfl⟩ := List.mem_map.1 hx
      exact hq i (by have := List.mem_range.1 hi; omega)
    · obtain ⟨s, h1, h2⟩ := a3 i hi
      refine ⟨s, h1, ?_⟩
      rw [hg i hi, ← h2]
      by_cases hl : i + 1 = f.N
      · rw [hl, Nat.mod_self, hg 0 (by omega), a1, a2]
      · rw [Nat.mod_eq_of_lt (by omega), hg (i + 1) (by omega)]
  · rintro ⟨h1, h2, h3, h4⟩
    have h0 : w.1.getD 0 0 ∈ w.1 := by
      rw [List.getD_eq_getElem?_getD, List.getElem?_eq_getElem (by omega)]; exact List.getElem_mem _
    refine ⟨w.1.getD 0 0, h3 _ h0, (pth_seq hp (h3 _ h0) f.N w _).2 ⟨fun i => w.1.getD (i % f.N) 0, by simp, by simp, fun i hi => ?_, ?_, h1⟩⟩
    · obtain ⟨s, k1, k2⟩ := h4 i hi
      exact ⟨s, k1, by simp only [Nat.mod_eq_of_lt hi]; exact k2⟩
    · apply List.ext_getElem (by simp [h2])
      intro n k1 k2
      simp only [List.getElem_map, List.getElem_range]
      rw [Nat.mod_eq_of_lt (by omega)]
      simp [List.getD_eq_getElem?_getD, k1]
theorem sum_nn : ∀ {l : List Int}, (∀ x ∈ l, 0 ≤ x) → 0 ≤ l.sum
  | [], _ => by simp
  | x :: l, h => by
    have h1 := h x (by simp)
    have h2 := sum_nn (l := l) fun y hy => h y (by simp [hy])
    simp only [List.sum_cons]; omega
/-- there are beginnings -/
def Fig.hasB (f : Fig) : Prop := ∃ l, f.isB f.near l
theorem minB (f : Fig) (h : f.hasB) : ∃ l, f.isB f.near l ∧ ∀ l', f.isB f.near l' → l.sum ≤ l'.sum := by
  obtain ⟨l0, h0⟩ := h
  have key : ∀ (n : Nat) (l : List Int), f.isB f.near l → l.sum.toNat ≤ n → 0 ≤ l.sum → ∃ l, f.isB f.near l ∧ ∀ l', f.isB f.near l' → l.sum ≤ l'.sum := by
    intro n
    induction n with
    | zero =>
      intro l hl h1 h2
      refine ⟨l, hl, fun l' hl' => ?_⟩
      have : 0 ≤ l'.sum := sum_nn fun x hx => (hl'.2.1 x hx).1
      omega
    | succ n ih =>
      intro l hl h1 h2
      by_cases hex : ∃ l', f.isB f.near l' ∧ l'.sum < l.sum
      · obtain ⟨l', k1, k2⟩ := hex
        have : 0 ≤ l'.sum := sum_nn fun x hx => (k1.2.1 x hx).1
        exact ih l' k1 (by omega) this
      · exact ⟨l, hl, fun l' hl' => by
          by_cases hq : l.sum ≤ l'.sum
          · exact hq
          · exact absurd ⟨l', hl', by omega⟩ hex⟩
  exact key l0.sum.toNat l0 h0 (Nat.le_refl _) (sum_nn fun x hx => (h0.2.1 x hx).1)
open Classical in
/-- the least waste, and whether there is one -/
noncomputable def Fig.lw (f : Fig) : Int := if h : f.hasB then (minB f h).choose.sum else 0
open Classical in
noncomputable def Fig.lE (f : Fig) : Int := if f.hasB then 0 else 3
theorem lw_spec {f : Fig} (h : f.hasB) : f.lE = 0 ∧ (∃ l, f.isB f.near l ∧ l.sum = f.lw) ∧ ∀ l, f.isB f.near l → f.lw ≤ l.sum := by
  have hc := (minB f h).choose_spec
  have e : f.lw = (minB f h).choose.sum := by unfold Fig.lw; rw [dif_pos h]
  refine ⟨by unfold Fig.lE; rw [if_pos h], ⟨_, hc.1, e.symm⟩, fun l hl => by rw [e]; exact hc.2 l hl⟩
theorem lw_no {f : Fig} (h : ¬ f.hasB) : f.lE = 3 ∧ f.lw = 0 := ⟨by unfold Fig.lE; rw [if_neg h], by unfold Fig.lw; rw [dif_neg h]⟩
theorem lw_eq {f : Fig} {l : List Int} (h1 : f.isB f.near l) (h2 : ∀ l', f.isB f.near l' → l.sum ≤ l'.sum) : f.lE = 0 ∧ f.lw = l.sum := by
  have hs := lw_spec ⟨l, h1⟩
  obtain ⟨l', h3, h4⟩ := hs.2.1
  exact ⟨hs.1, by have := hs.2.2 l h1; have := h2 l' h3; omega⟩
def begS (f : Fig) (r : AV) : Prop := ∃ l, r = .tup [.isl (l.map iAV), .int .i64 f.lE] ∧ (f.hasB → f.isB f.near l ∧ l.sum = f.lw) ∧ (¬ f.hasB → l = [])
theorem s42 (f : Fig) (h : f.eF = 0) : FnA Try.prog 42 [.agg f.cells] (begS f) := by
  have hok := (eF_ok h).1
  have e1 := s61 f h
  have e2 := s76 f hok
  refine fnA 10 ok42 (by simp) ?_
  (conv => whnf); (repeat' ((first | refine bT ?_ | refine bF ?_ | refine bN ?_ | ((first | refine bD ?_ ?_ | refine bEq ?_ ?_ | refine bNe ?_ ?_) <;> intro hh <;> try (exfalso; omega)) | (refine (e1).callzq rfl rfl fun _ h => ?_; subst h) | refine wIn (by omega) ?_ | refine nI (by omega) ?_) <;> conv => whnf))
  refine e2.callzq rfl rfl (fun r hr => ?_)
  rcases hr with ⟨w, rfl, h1, h2⟩ | ⟨rfl, h2⟩
  · have hb := (rng_iff hok f.near w).1 h1
    have he := lw_eq hb.2 fun l' hl' => by
      have := h2 (l', l'.sum) ((rng_iff hok f.near _).2 ⟨rfl, hl'⟩)
      omega
    (conv => whnf); (repeat' ((first | refine bT ?_ | refine bF ?_ | refine bN ?_ | ((first | refine bD ?_ ?_ | refine bEq ?_ ?_ | refine bNe ?_ ?_) <;> intro hh <;> try (exfalso; omega)) | refine wIn (by omega) ?_ | refine nI (by omega) ?_) <;> conv => whnf))
    all_goals exact ⟨w.1, by rw [he.1], fun _ => ⟨hb.2, he.2.symm⟩, fun hn => absurd ⟨w.1, hb.2⟩ hn⟩
  · have hn : ¬ f.hasB := fun ⟨l, hl⟩ => h2 (l, l.sum) ((rng_iff hok f.near _).2 ⟨rfl, hl⟩)
    (conv => whnf); (repeat' ((first | refine bT ?_ | refine bF ?_ | refine bN ?_ | ((first | refine bD ?_ ?_ | refine bEq ?_ ?_ | refine bNe ?_ ?_) <;> intro hh <;> try (exfalso; omega)) | refine wIn (by omega) ?_ | refine nI (by omega) ?_) <;> conv => whnf))
    all_goals exact ⟨[], by rw [(lw_no hn).1]; rfl, fun h => absurd h hn, fun _ => rfl⟩
theorem s42_no (f : Fig) (h : f.eF ≠ 0) : FnA Try.prog 42 [.agg f.cells] (· = .tup [.isl [], .int .i64 f.eF]) := by
  have e1 := s61_no f h
  refine fnA 10 ok42 (by simp) ?_
  (conv => whnf); (repeat' ((first | refine bT ?_ | refine bF ?_ | refine bN ?_ | ((first | refine bD ?_ ?_ | refine bEq ?_ ?_ | refine bNe ?_ ?_) <;> intro hh <;> try (exfalso; omega)) | (refine (e1).callzq rfl rfl fun _ h => ?_; subst h) | refine wIn (by omega) ?_ | refine nI (by omega) ?_) <;> conv => whnf))
  all_goals rfl
theorem sum_in2 {l : List Int} {a b : Int} (h : ∀ x ∈ l, a ≤ x ∧ x ≤ b) : l.length * a ≤ l.sum ∧ l.sum ≤ l.length * b := by
  induction l with
  | nil => simp
  | cons x l ih =>
    have h1 := h x (by simp)
    have h2 := ih fun y hy => h y (by simp [hy])
    simp only [List.length_cons, List.sum_cons]
    push_cast
    rw [Int.add_mul, Int.add_mul]
    omega
theorem s26 (f : Fig) (h : f.eF = 0) : FnA Try.prog 26 [.agg f.cells] (· = .tup [.int .i64 f.lw, .int .i64 f.lE]) := by
  have hok := (eF_ok h).1
  have hp := hok.2.1
  have hN := N_in hok
  have e1 := s42 f h
  refine fnA 2 ok26 (by simp) ?_
  (conv => whnf); (repeat' ((first | refine bT ?_ | refine bF ?_ | refine bN ?_ | ((first | refine bD ?_ ?_ | refine bEq ?_ ?_ | refine bNe ?_ ?_) <;> intro hh <;> try (exfalso; omega)) | refine wIn (by omega) ?_ | refine nI (by omega) ?_) <;> conv => whnf))
  refine e1.callzq rfl rfl (fun r hr => ?_); obtain ⟨l, rfl, h1, h2⟩ := hr
  have hl : l.length ≤ 16 ∧ (∀ x ∈ l, 0 ≤ x ∧ x ≤ 60) ∧ l.sum = f.lw := by
    by_cases hb : f.hasB
    · obtain ⟨h3, h4⟩ := h1 hb
      exact ⟨by have := h3.1; omega, fun x hx => (by have := h3.2.1 x hx; omega), h4⟩
    · have := h2 hb
      subst this
      exact ⟨by simp, by simp, by rw [(lw_no hb).2]; rfl⟩
  obtain ⟨hl1, hl2, hl3⟩ := hl
  have ll : (l.map iAV).length = l.length := by simp
  (conv => whnf); (repeat' ((first | refine bT ?_ | refine bF ?_ | refine bN ?_ | ((first | refine bD ?_ ?_ | refine bEq ?_ ?_ | refine bNe ?_ ?_) <;> intro hh <;> try (exfalso; omega)) | refine wIn (by omega) ?_ | refine nI (by omega) ?_) <;> conv => whnf))
  refine loop_i (α := Nat) (fun k => [(16, .int .i64 k), (15, .int .i64 ↑(l.map iAV).length), (14, .isl (l.map iAV)), (6, .int .i64 (l.take k).sum), (5, .int .i64 f.lE)]) (fun k => [.fresh, .fresh]) (fun k => k ≤ l.length) (fun k => l.length - k) 0 (meets_id (by (repeat' apply And.intro) <;> first | rfl | exact True.intro | (intro hh; cases hh))) (by omega) ?_
  intro k hk0
  conv => whnf
  refine bD (fun h4 => ?_) (fun h4 => ?_)
  · have hk : k < l.length := by omega
    have hx := hl2 _ (List.getElem_mem hk)
    have hs := sum_in2 (l := l.take k) (a := 0) (b := 60) fun x hx => hl2 x (List.mem_of_mem_take hx)
    have hlt : (l.take k).length ≤ 16 := by rw [List.length_take]; omega
    have hss := sum_succ hk
    conv => whnf
    refine iaI (by omega) (by omega) (getD_map iAV l k hk) ?_
    (conv => whnf); (repeat' ((first | refine bT ?_ | refine bF ?_ | refine bN ?_ | ((first | refine bD ?_ ?_ | refine bEq ?_ ?_ | refine bNe ?_ ?_) <;> intro hh <;> try (exfalso; omega)) | refine wIn (by omega) ?_ | refine nI (by omega) ?_) <;> conv => whnf))
    refine ⟨k + 1, ?_, by omega, by omega⟩
    rw [hss]
    exact (meets_id (by (repeat' apply And.intro) <;> first | rfl | exact True.intro | (intro hh; cases hh)))
  · have : k = l.length := by omega
    subst this
    rw [List.take_length, hl3]
    (conv => whnf); (repeat' ((first | refine bT ?_ | refine bF ?_ | refine bN ?_ | ((first | refine bD ?_ ?_ | refine bEq ?_ ?_ | refine bNe ?_ ?_) <;> intro hh <;> try (exfalso; omega)) | refine wIn (by omega) ?_ | refine nI (by omega) ?_) <;> conv => whnf))
    all_goals rfl
theorem s26_no (f : Fig) (h : f.eF ≠ 0) : FnA Try.prog 26 [.agg f.cells] (· = .tup [.int .i64 0, .int .i64 f.eF]) := by
  have e1 := s42_no f h
  refine fnA 2 ok26 (by simp) ?_
  (conv => whnf); (repeat' ((first | refine bT ?_ | refine bF ?_ | refine bN ?_ | ((first | refine bD ?_ ?_ | refine bEq ?_ ?_ | refine bNe ?_ ?_) <;> intro hh <;> try (exfalso; omega)) | (refine (e1).callzq rfl rfl fun _ h => ?_; subst h) | refine wIn (by omega) ?_ | refine nI (by omega) ?_) <;> conv => whnf))
  refine loop_i (α := Unit) (fun _ => [(16, .int .i64 0), (15, .int .i64 ↑([] : List (List AV)).length), (14, .isl []), (6, .int .i64 0), (5, .int .i64 f.eF)]) (fun _ => [.fresh, .fresh]) (fun _ => True) (fun _ => 0) () (meets_id (by (repeat' apply And.intro) <;> first | rfl | exact True.intro | (intro hh; cases hh))) True.intro ?_
  intro _ _
  have : (↑([] : List (List AV)).length : Int) = 0 := rfl
  (conv => whnf); (repeat' ((first | refine bT ?_ | refine bF ?_ | refine bN ?_ | ((first | refine bD ?_ ?_ | refine bEq ?_ ?_ | refine bNe ?_ ?_) <;> intro hh <;> try (exfalso; omega)) | refine wIn (by omega) ?_ | refine nI (by omega) ?_) <;> conv => whnf))
  all_goals rfl
theorem s35 (a b : List Int) (ha : a.length ≤ 1000000) : FnA Try.prog 35 [.isl (a.map iAV), .isl (b.map iAV)] (· = .bool (decide (a = b))) := by
  have l1 : (a.map iAV).length = a.length := by simp
  have l2 : (b.map iAV).length = b.length := by simp
  refine fnA 0 ok35 (by simp) ?_
  by_cases hl : a.length = b.length
  case neg =>
    rw [decide_eq_false fun h : a = b => hl (by rw [h])]
    (conv => whnf); (repeat' ((first | refine bT ?_ | refine bF ?_ | refine bN ?_ | ((first | refine bD ?_ ?_ | refine bEq ?_ ?_ | refine bNe ?_ ?_) <;> intro hh <;> try (exfalso; omega)) | refine wIn (by omega) ?_ | refine nI (by omega) ?_) <;> conv => whnf))
    all_goals rfl
  (conv => whnf); (repeat' ((first | refine bT ?_ | refine bF ?_ | refine bN ?_ | ((first | refine bD ?_ ?_ | refine bEq ?_ ?_ | refine bNe ?_ ?_) <;> intro hh <;> try (exfalso; omega)) | refine wIn (by omega) ?_ | refine nI (by omega) ?_) <;> conv => whnf))
  refine loop_i (α := Nat) (fun k => [(5, .int .i64 k), (1, .isl (b.map iAV)), (0, .isl (a.map iAV))]) (fun k => []) (fun k => k ≤ a.length ∧ a.take k = b.take k) (fun k => a.length - k) 0 (meets_id (by (repeat' apply And.intro) <;> first | rfl | exact True.intro | (intro hh; cases hh))) ⟨by omega, by simp⟩ ?_
  rintro k ⟨hk0, hin⟩
  conv => whnf
  refine bD (fun h4 => ?_) (fun h4 => ?_)
  · have hk : k < a.length := by omega
    have hkb : k < b.length := by omega
    conv => whnf
    refine iaI (by omega) (by omega) (getD_map iAV a k hk) ?_
    (conv => whnf); (repeat' ((first | refine bT ?_ | refine bF ?_ | refine bN ?_ | ((first | refine bD ?_ ?_ | refine bEq ?_ ?_ | refine bNe ?_ ?_) <;> intro hh <;> try (exfalso; omega)) | refine wIn (by omega) ?_ | refine nI (by omega) ?_) <;> conv => whnf))
    refine iaI (by omega) (by omega) (getD_map iAV b k hkb) ?_
    by_cases he : a[k] = b[k]
    · (conv => whnf); (repeat' ((first | refine bT ?_ | refine bF ?_ | refine bN ?_ | ((first | refine bD ?_ ?_ | refine bEq ?_ ?_ | refine bNe ?_ ?_) <;> intro hh <;> try (exfalso; omega)) | refine wIn (by omega) ?_ | refine nI (by omega) ?_) <;> conv => whnf))
      refine ⟨k + 1, (meets_id (by (repeat' apply And.intro) <;> first | rfl | exact True.intro | (intro hh; cases hh))), ⟨by omega, ?_⟩, by omega⟩
      rw [List.take_succ_eq_append_getElem hk, List.take_succ_eq_append_getElem hkb, hin, he]
    · rw [decide_eq_false fun h : a = b => he (by subst h; rfl)]
      (conv => whnf); (repeat' ((first | refine bT ?_ | refine bF ?_ | refine bN ?_ | ((first | refine bD ?_ ?_ | refine bEq ?_ ?_ | refine bNe ?_ ?_) <;> intro hh <;> try (exfalso; omega)) | refine wIn (by omega) ?_ | refine nI (by omega) ?_) <;> conv => whnf))
      all_goals rfl
  · have : k = a.length := by omega
    rw [this, List.take_length, List.take_of_length_le (by omega)] at hin
    rw [decide_eq_true hin]
    (conv => whnf); (repeat' ((first | refine bT ?_ | refine bF ?_ | refine bN ?_ | ((first | refine bD ?_ ?_ | refine bEq ?_ ?_ | refine bNe ?_ ?_) <;> intro hh <;> try (exfalso; omega)) | refine wIn (by omega) ?_ | refine nI (by omega) ?_) <;> conv => whnf))
    all_goals rfl
theorem s23 (a : List Int) (x : Int) (ha : a.length ≤ 1000000) : FnA Try.prog 23 [.isl (a.map iAV), .int .i64 x] (· = .bool (decide (x ∈ a))) := by
  have l1 : (a.map iAV).length = a.length := by simp
  refine fnA 0 ok23 (by simp) ?_
  (conv => whnf); (repeat' ((first | refine bT ?_ | refine bF ?_ | refine bN ?_ | ((first | refine bD ?_ ?_ | refine bEq ?_ ?_ | refine bNe ?_ ?_) <;> intro hh <;> try (exfalso; omega)) | refine wIn (by omega) ?_ | refine nI (by omega) ?_) <;> conv => whnf))
  refine loop_i (α := Nat) (fun k => [(5, .int .i64 k), (1, .int .i64 x), (0, .isl (a.map iAV))]) (fun k => []) (fun k => k ≤ a.length ∧ x ∉ a.take k) (fun k => a.length - k) 0 (meets_id (by (repeat' apply And.intro) <;> first | rfl | exact True.intro | (intro hh; cases hh))) ⟨by omega, by simp⟩ ?_
  rintro k ⟨hk0, hin⟩
  conv => whnf
  refine bD (fun h4 => ?_) (fun h4 => ?_)
  · have hk : k < a.length := by omega
    conv => whnf
    refine iaI (by omega) (by omega) (getD_map iAV a k hk) ?_
    by_cases he : a[k] = x
    · rw [decide_eq_true (show x ∈ a from he ▸ List.getElem_mem hk)]
      (conv => whnf); (repeat' ((first | refine bT ?_ | refine bF ?_ | refine bN ?_ | ((first | refine bD ?_ ?_ | refine bEq ?_ ?_ | refine bNe ?_ ?_) <;> intro hh <;> try (exfalso; omega)) | refine wIn (by omega) ?_ | refine nI (by omega) ?_) <;> conv => whnf))
      all_goals rfl
    · (conv => whnf); (repeat' ((first | refine bT ?_ | refine bF ?_ | refine bN ?_ | ((first | refine bD ?_ ?_ | refine bEq ?_ ?_ | refine bNe ?_ ?_) <;> intro hh <;> try (exfalso; omega)) | refine wIn (by omega) ?_ | refine nI (by omega) ?_) <;> conv => whnf))
      refine ⟨k + 1, (meets_id (by (repeat' apply And.intro) <;> first | rfl | exact True.intro | (intro hh; cases hh))), ⟨by omega, fun hm => ?_⟩, by omega⟩
      rw [List.take_succ_eq_append_getElem hk] at hm
      rcases List.mem_append.1 hm with hm | hm
      · exact hin hm
      · simp only [List.mem_singleton] at hm; exact he hm.symm
  · have : k = a.length := by omega
    subst this
    rw [List.take_length] at hin
    rw [decide_eq_false hin]
    (conv => whnf); (repeat' ((first | refine bT ?_ | refine bF ?_ | refine bN ?_ | ((first | refine bD ?_ ?_ | refine bEq ?_ ?_ | refine bNe ?_ ?_) <;> intro hh <;> try (exfalso; omega)) | refine wIn (by omega) ?_ | refine nI (by omega) ?_) <;> conv => whnf))
    all_goals rfl
def exD : Dome := ⟨[⟨0, 20, [⟨1000, 1005, 1010⟩], 0⟩, ⟨0, 10, [], 0⟩], [0, 0, 1, 1], 5, [(400, 404), (600, 650), (803, 806)], [110, 165, 210], 50⟩
def exF : Fig := ⟨exD, 12, 100, 1, [0, 3, 8, 0], [5, 3, 8, 2]⟩
def exG : Fig := ⟨exD, 12, 100, 2, [0, 3, 8, 0], [5, 3, 8, 2]⟩
theorem s78 : FnO Try.prog 78 [] (fun r rows => r = .agg [.row 2, .row 3, .int .i64 5, .row 4, .row 5, .int .i64 50] ∧ rows = [(2, .row false 55 4 (exD.bs.map Bolt.av)), (3, .row false 3 1 (exD.gs.map iAV)), (4, .row false 50 2 (exD.rs.map pairAV)), (5, .row false 3 1 (exD.ws.map iAV))]) := by
  refine fnO 6 ok78 (by simp) ?_
  (conv => whnf); (repeat' ((first | refine bT ?_ | refine bF ?_ | refine bN ?_ | ((first | refine bD ?_ ?_ | refine bEq ?_ ?_ | refine bNe ?_ ?_) <;> intro hh <;> try (exfalso; omega)) | refine wIn (by omega) ?_ | refine nI (by omega) ?_) <;> conv => whnf))
  all_goals exact ⟨rfl, rfl⟩
theorem s57 : FnO Try.prog 57 [] (fun r rows => r = .agg [.row 1, .row 2, .int .i64 5, .row 3, .row 4, .int .i64 50, .int .i64 12, .int .i64 100, .int .i64 1, .row 5, .row 6] ∧ rows = [(1, .row false 55 4 (exD.bs.map Bolt.av)), (2, .row false 3 1 (exD.gs.map iAV)), (3, .row false 50 2 (exD.rs.map pairAV)), (4, .row false 3 1 (exD.ws.map iAV)), (5, .row false 3 1 (exF.st.map iAV)), (6, .row false 3 1 (exF.ti.map iAV))]) := by
  refine fnO 7 ok57 (by simp) ?_
  conv => whnf
  refine s78.callzq rfl rfl (fun r rows (hr : r = _ ∧ rows = _) => ?_); obtain ⟨hr1, hr2⟩ := hr; subst hr1; subst hr2; refine ⟨rfl, ?_⟩
  (conv => whnf); (repeat' ((first | refine bT ?_ | refine bF ?_ | refine bN ?_ | ((first | refine bD ?_ ?_ | refine bEq ?_ ?_ | refine bNe ?_ ?_) <;> intro hh <;> try (exfalso; omega)) | refine wIn (by omega) ?_ | refine nI (by omega) ?_) <;> conv => whnf))
  all_goals exact ⟨rfl, rfl⟩
theorem exD_ok : exD.ok := by
  constructor
  · unfold Dome.ok1; decide
  · unfold Dome.okB; decide
theorem exD_has : exD.has = true := by kernel_rfl
theorem exF_ok : exF.ok := ⟨exD_ok, by unfold Fig.okF; decide⟩
theorem exG_ok : exG.ok := ⟨exD_ok, by unfold Fig.okF; decide⟩
theorem exF_eF : exF.eF = 0 := by unfold Fig.eF; rw [if_pos exF_ok, show exF.d.has = true from exD_has]; rfl
theorem exG_eF : exG.eF = 0 := by unfold Fig.eF; rw [if_pos exG_ok, show exG.d.has = true from exD_has]; rfl
theorem exF_bad : exF.bad = [0, 3] := by kernel_rfl
theorem exF_clst : exF.clst = 2 := by kernel_rfl
theorem exF_snd : exF.snd = 13 := by kernel_rfl
/-- all ways from a start -/
def Fig.allP (f : Fig) (near start : Int) : Nat → List (Way × Int)
  | 0 => [(([], 0), start)]
  | g + 1 => (f.allP near start g).flatMap fun p => (f.stp near g).map fun s => ((p.1.1 ++ [p.2], p.1.2 + p.2), (p.2 + s).tmod f.per)
theorem mem_allP {f : Fig} {near start : Int} : ∀ {g : Nat} {w : Way} {x : Int}, (w, x) ∈ f.allP near start g ↔ f.pth near start g w x
  | 0, w, x => by simp [Fig.allP, Fig.pth]
  | g + 1, w, x => by
    simp only [Fig.allP, List.mem_flatMap, List.mem_map, Fig.pth]
    constructor
    · rintro ⟨⟨v, y⟩, h1, s, h2, h3⟩
      simp only [Prod.mk.injEq] at h3
      exact ⟨v, y, mem_allP.1 h1, ⟨s, h2, h3.2.symm⟩, h3.1.symm⟩
    · rintro ⟨v, y, h1, ⟨s, h2, h3⟩, h4⟩
      exact ⟨(v, y), mem_allP.2 h1, s, h2, by rw [h3, h4]⟩
theorem exG_min : ((List.range 12).all fun st => (exG.allP 2 st 4).all fun p => decide (p.2 = st → 12 ≤ p.1.2)) = true := by kernel_rfl
theorem exG_one : ((List.range 12).any fun st => (exG.allP 2 st 4).any fun p => decide (p.2 = st ∧ p.1.2 = 12)) = true := by kernel_rfl
theorem exG_lw : exG.lE = 0 ∧ exG.lw = 12 := by
  obtain ⟨st, h1, h2⟩ := List.any_eq_true.1 exG_one
  obtain ⟨⟨w, x⟩, h3, h4⟩ := List.any_eq_true.1 h2
  simp only [decide_eq_true_eq] at h4
  have hst := List.mem_range.1 h1
  have hr : exG.rng 2 w := ⟨st, ⟨by omega, by show (st : Int) < 12; omega⟩, by rw [← h4.1]; rw [← h4.1] at h3; exact mem_allP.1 h3⟩
  have hb := (rng_iff exG_ok 2 w).1 hr
  have := lw_eq (f := exG) (l := w.1) hb.2 fun l' hl' => by
    obtain ⟨st', k1, k2⟩ := (rng_iff exG_ok 2 (l', l'.sum)).2 ⟨rfl, hl'⟩
    have k1' : 0 ≤ st' ∧ st' < 12 := k1
    have h5 := List.all_eq_true.1 exG_min st'.toNat (List.mem_range.2 (by omega))
    have e : ((st'.toNat : Nat) : Int) = st' := by omega
    rw [e] at h5
    have h6 := List.all_eq_true.1 h5 _ (mem_allP.2 k2)
    simp only [decide_eq_true_eq] at h6
    have := h6 trivial
    rw [← hb.1, h4.2]; exact this
  exact ⟨this.1, by rw [this.2, ← hb.1]; exact h4.2⟩
theorem s20 : FnA Try.prog 20 [] (· = .bool true) := by
  have e1 := s22 exF exF_eF
  rw [exF_bad] at e1
  have e2 := s29 exF exF_eF
  rw [exF_clst] at e2
  have e3 := s31 exF exF_ok
  rw [exF_snd] at e3
  have e4 := s26 exG exG_eF
  rw [exG_lw.1, exG_lw.2] at e4
  have e5 := s35 [0, 3] [0, 3] (by decide)
  rw [decide_eq_true rfl] at e5
  refine fnA 9 ok20 (by simp) ?_
  conv => whnf
  refine s57.callzq rfl rfl (fun r rows (hr : r = _ ∧ rows = _) => ?_); obtain ⟨hr1, hr2⟩ := hr; subst hr1; subst hr2; refine ⟨rfl, ?_⟩
  (conv => whnf); (repeat' ((first | refine bT ?_ | refine bF ?_ | refine bN ?_ | ((first | refine bD ?_ ?_ | refine bEq ?_ ?_ | refine bNe ?_ ?_) <;> intro hh <;> try (exfalso; omega)) | (refine (e1).callzq rfl rfl fun _ h => ?_; subst h) | (refine (e2).lendq rfl fun _ h => ?_; subst h; refine ⟨rfl, ?_⟩) | (refine (e3).lendq rfl fun _ h => ?_; subst h; refine ⟨rfl, ?_⟩) | (refine (e4).lendq rfl fun _ h => ?_; subst h; refine ⟨rfl, ?_⟩) | (refine (e5).lendq rfl fun _ h => ?_; subst h; refine ⟨rfl, ?_⟩) | refine wIn (by omega) ?_ | refine nI (by omega) ?_) <;> conv => whnf))
  all_goals rfl
theorem s64 (l : List Int) (hl : l.length ≤ 1000000) (many lo hi : Int) : FnA Try.prog 64 [.isl (l.map iAV), .int .i64 many, .int .i64 lo, .int .i64 hi] (· = .bool (decide ((∀ x ∈ l, lo ≤ x ∧ x ≤ hi) ∧ (l.length : Int) = many))) := by
  have l1 : (l.map iAV).length = l.length := by simp
  refine fnA 0 ok64 (by simp) ?_
  (conv => whnf); (repeat' ((first | refine bT ?_ | refine bF ?_ | refine bN ?_ | ((first | refine bD ?_ ?_ | refine bEq ?_ ?_ | refine bNe ?_ ?_) <;> intro hh <;> try (exfalso; omega)) | refine wIn (by omega) ?_ | refine nI (by omega) ?_) <;> conv => whnf))
  refine loop_i (α := Nat) (fun k => [(9, .int .i64 k), (3, .int .i64 hi), (2, .int .i64 lo), (1, .int .i64 many), (0, .isl (l.map iAV))]) (fun k => []) (fun k => k ≤ l.length ∧ ∀ x ∈ l.take k, lo ≤ x ∧ x ≤ hi) (fun k => l.length - k) 0 (meets_id (by (repeat' apply And.intro) <;> first | rfl | exact True.intro | (intro hh; cases hh))) ⟨by omega, by simp⟩ ?_
  rintro k ⟨hk0, hin⟩
  conv => whnf
  refine bD (fun h4 => ?_) (fun h4 => ?_)
  · have hk : k < l.length := by omega
    by_cases hx : lo ≤ l[k] ∧ l[k] ≤ hi
    · (conv => whnf); (repeat' ((first | refine bT ?_ | refine bF ?_ | refine bN ?_ | ((first | refine bD ?_ ?_ | refine bEq ?_ ?_ | refine bNe ?_ ?_) <;> intro hh <;> try (exfalso; omega)) | (refine iaI (by omega) (by omega) (getD_map iAV l k hk) ?_) | refine wIn (by omega) ?_ | refine nI (by omega) ?_) <;> conv => whnf))
      exact ⟨k + 1, (meets_id (by (repeat' apply And.intro) <;> first | rfl | exact True.intro | (intro hh; cases hh))), ⟨by omega, all_take hk hin hx⟩, by omega⟩
    · rw [decide_eq_false fun h : (∀ x ∈ l, lo ≤ x ∧ x ≤ hi) ∧ (l.length : Int) = many => hx (h.1 _ (List.getElem_mem hk))]
      (conv => whnf); (repeat' ((first | refine bT ?_ | refine bF ?_ | refine bN ?_ | ((first | refine bD ?_ ?_ | refine bEq ?_ ?_ | refine bNe ?_ ?_) <;> intro hh <;> try (exfalso; omega)) | (refine iaI (by omega) (by omega) (getD_map iAV l k hk) ?_) | refine wIn (by omega) ?_ | refine nI (by omega) ?_) <;> conv => whnf))
      all_goals rfl
  · have : k = l.length := by omega
    subst this
    rw [List.take_length] at hin
    have e : decide ((∀ x ∈ l, lo ≤ x ∧ x ≤ hi) ∧ (l.length : Int) = many) = decide ((l.length : Int) = many) := decide_eq_decide.2 ⟨fun h => h.2, fun h => ⟨hin, h⟩⟩
    rw [e, ← l1]
    (conv => whnf); (repeat' ((first | refine bT ?_ | refine bF ?_ | refine bN ?_ | ((first | refine bD ?_ ?_ | refine bEq ?_ ?_ | refine bNe ?_ ?_) <;> intro hh <;> try (exfalso; omega)) | refine wIn (by omega) ?_ | refine nI (by omega) ?_) <;> conv => whnf))
    all_goals first | rfl | exact congrArg AV.bool (decide_eq_true (by omega)).symm | exact congrArg AV.bool (decide_eq_false (by omega)).symm
def Fig.small (f : Fig) : Prop := f.d.small ∧ f.st.length ≤ 60 ∧ f.ti.length ≤ 60
theorem s17 (f : Fig) : FnA Try.prog 17 [.agg f.cells] (fun r => ∃ b : Bool, r = .bool b ∧ (b = false → f.small)) := by
  have l2 : (f.st.map iAV).length = f.st.length := by simp
  have l3 : (f.ti.map iAV).length = f.ti.length := by simp
  refine fnA 1 ok17 (by simp) ?_
  (conv => whnf); (repeat' ((first | refine bT ?_ | refine bF ?_ | refine bN ?_ | ((first | refine bD ?_ ?_ | refine bEq ?_ ?_ | refine bNe ?_ ?_) <;> intro hh <;> try (exfalso; omega)) | refine wIn (by omega) ?_ | refine nI (by omega) ?_) <;> conv => whnf))
  refine (k33 f.d).callq rfl rfl (fun r hr => ?_); obtain ⟨b, rfl, hb⟩ := hr
  cases b with
  | true =>
    (conv => whnf); (repeat' ((first | refine bT ?_ | refine bF ?_ | refine bN ?_ | ((first | refine bD ?_ ?_ | refine bEq ?_ ?_ | refine bNe ?_ ?_) <;> intro hh <;> try (exfalso; omega)) | refine wIn (by omega) ?_ | refine nI (by omega) ?_) <;> conv => whnf))
    all_goals exact ⟨_, rfl, fun h => by cases h⟩
  | false =>
    by_cases c1 : f.st.length ≤ 60
    · by_cases c2 : f.ti.length ≤ 60
      · (conv => whnf); (repeat' ((first | refine bT ?_ | refine bF ?_ | refine bN ?_ | ((first | refine bD ?_ ?_ | refine bEq ?_ ?_ | refine bNe ?_ ?_) <;> intro hh <;> try (exfalso; omega)) | refine wIn (by omega) ?_ | refine nI (by omega) ?_) <;> conv => whnf))
        all_goals exact ⟨_, rfl, fun _ => ⟨hb rfl, c1, c2⟩⟩
      · (conv => whnf); (repeat' ((first | refine bT ?_ | refine bF ?_ | refine bN ?_ | ((first | refine bD ?_ ?_ | refine bEq ?_ ?_ | refine bNe ?_ ?_) <;> intro hh <;> try (exfalso; omega)) | refine wIn (by omega) ?_ | refine nI (by omega) ?_) <;> conv => whnf))
        all_goals exact ⟨_, rfl, fun h => by simp at h; omega⟩
    · (conv => whnf); (repeat' ((first | refine bT ?_ | refine bF ?_ | refine bN ?_ | ((first | refine bD ?_ ?_ | refine bEq ?_ ?_ | refine bNe ?_ ?_) <;> intro hh <;> try (exfalso; omega)) | refine wIn (by omega) ?_ | refine nI (by omega) ?_) <;> conv => whnf))
      all_goals exact ⟨_, rfl, fun h => by first | cases h | (simp at h; omega)⟩
theorem s32 (f : Fig) (hs : f.small) : FnA Try.prog 32 [.agg f.cells] (· = .int .i64 f.chk) := by
  have e0 := k28 f.d
  have l1 : (f.d.gs.map iAV).length = f.d.gs.length := by simp
  by_cases hd : f.d.ok
  case neg =>
    have h0 := chk_pos hd
    have : f.chk = f.d.chk := by unfold Fig.chk; rw [if_neg hd]
    rw [this]
    refine fnA 1 ok32 (by simp) ?_
    (conv => whnf); (repeat' ((first | refine bT ?_ | refine bF ?_ | refine bN ?_ | ((first | refine bD ?_ ?_ | refine bEq ?_ ?_ | refine bNe ?_ ?_) <;> intro hh <;> try (exfalso; omega)) | (refine (e0).callq rfl rfl fun _ h => ?_; subst h) | refine wIn (by omega) ?_ | refine nI (by omega) ?_) <;> conv => whnf))
    all_goals rfl
  rw [chk_ok hd] at e0
  have hF : f.chk = if f.okF then 0 else 40 := by unfold Fig.chk; rw [if_pos hd]
  have hh : f.okF ↔ ((1 ≤ f.per ∧ f.per ≤ 60) ∧ (0 ≤ f.run ∧ f.run ≤ 2000) ∧ (0 ≤ f.near ∧ f.near ≤ f.per.tdiv 2) ∧ ((∀ x ∈ f.st, 0 ≤ x ∧ x ≤ f.per - 1) ∧ (f.st.length : Int) = ↑(f.d.gs.map iAV).length) ∧ ((∀ x ∈ f.ti, 1 ≤ x ∧ x ≤ 99) ∧ (f.ti.length : Int) = ↑(f.d.gs.map iAV).length)) := by
    rw [l1]
    constructor
    · rintro ⟨h1, h2, h3, h4, h5, h6, h7⟩
      exact ⟨h1, h2, h3, ⟨h5, by omega⟩, h7, by omega⟩
    · rintro ⟨h1, h2, h3, ⟨h4, h5⟩, h6, h7⟩
      exact ⟨h1, h2, h3, by omega, h4, by omega, h6⟩
  have e1 := s64 f.st (by have := hs.2.1; omega) ↑(f.d.gs.map iAV).length 0 (f.per - 1)
  have e2 := s64 f.ti (by have := hs.2.2; omega) ↑(f.d.gs.map iAV).length 1 99
  rw [hF]
  by_cases c1 : 1 ≤ f.per ∧ f.per ≤ 60
  case neg =>
    rw [if_neg fun h => c1 h.1]
    refine fnA 1 ok32 (by simp) ?_
    (conv => whnf); (repeat' ((first | refine bT ?_ | refine bF ?_ | refine bN ?_ | ((first | refine bD ?_ ?_ | refine bEq ?_ ?_ | refine bNe ?_ ?_) <;> intro hh <;> try (exfalso; omega)) | (refine (e0).callq rfl rfl fun _ h => ?_; subst h) | refine wIn (by omega) ?_ | refine nI (by omega) ?_) <;> conv => whnf))
    all_goals rfl
  have hq : 0 ≤ f.per.tdiv 2 ∧ f.per.tdiv 2 ≤ 60 := by rw [Int.tdiv_eq_ediv_of_nonneg (by omega)]; omega
  by_cases c2 : (0 ≤ f.run ∧ f.run ≤ 2000) ∧ (0 ≤ f.near ∧ f.near ≤ f.per.tdiv 2)
  case neg =>
    rw [if_neg fun h => c2 ⟨h.2.1, h.2.2.1⟩]
    refine fnA 1 ok32 (by simp) ?_
    (conv => whnf); (repeat' ((first | refine bT ?_ | refine bF ?_ | refine bN ?_ | ((first | refine bD ?_ ?_ | refine bEq ?_ ?_ | refine bNe ?_ ?_) <;> intro hh <;> try (exfalso; omega)) | (refine (e0).callq rfl rfl fun _ h => ?_; subst h) | refine wIn (by omega) ?_ | refine nI (by omega) ?_) <;> conv => whnf))
    all_goals rfl
  by_cases c3 : (∀ x ∈ f.st, 0 ≤ x ∧ x ≤ f.per - 1) ∧ (f.st.length : Int) = ↑(f.d.gs.map iAV).length
  case neg =>
    rw [if_neg fun h => c3 (hh.1 h).2.2.2.1]
    rw [decide_eq_false c3] at e1
    refine fnA 1 ok32 (by simp) ?_
    (conv => whnf); (repeat' ((first | refine bT ?_ | refine bF ?_ | refine bN ?_ | ((first | refine bD ?_ ?_ | refine bEq ?_ ?_ | refine bNe ?_ ?_) <;> intro hh <;> try (exfalso; omega)) | (refine (e0).callq rfl rfl fun _ h => ?_; subst h) | (refine (e1).callq rfl rfl fun _ h => ?_; subst h) | refine wIn (by omega) ?_ | refine nI (by omega) ?_) <;> conv => whnf))
    all_goals rfl
  rw [decide_eq_true c3] at e1
  by_cases c4 : (∀ x ∈ f.ti, 1 ≤ x ∧ x ≤ 99) ∧ (f.ti.length : Int) = ↑(f.d.gs.map iAV).length
  case neg =>
    rw [if_neg fun h => c4 (hh.1 h).2.2.2.2]
    rw [decide_eq_false c4] at e2
    refine fnA 1 ok32 (by simp) ?_
    (conv => whnf); (repeat' ((first | refine bT ?_ | refine bF ?_ | refine bN ?_ | ((first | refine bD ?_ ?_ | refine bEq ?_ ?_ | refine bNe ?_ ?_) <;> intro hh <;> try (exfalso; omega)) | (refine (e0).callq rfl rfl fun _ h => ?_; subst h) | (refine (e1).callq rfl rfl fun _ h => ?_; subst h) | (refine (e2).callq rfl rfl fun _ h => ?_; subst h) | refine wIn (by omega) ?_ | refine nI (by omega) ?_) <;> conv => whnf))
    all_goals rfl
  rw [decide_eq_true c4] at e2
  rw [if_pos (hh.2 ⟨c1, c2.1, c2.2, c3, c4⟩)]
  refine fnA 1 ok32 (by simp) ?_
  (conv => whnf); (repeat' ((first | refine bT ?_ | refine bF ?_ | refine bN ?_ | ((first | refine bD ?_ ?_ | refine bEq ?_ ?_ | refine bNe ?_ ?_) <;> intro hh <;> try (exfalso; omega)) | (refine (e0).callq rfl rfl fun _ h => ?_; subst h) | (refine (e1).callq rfl rfl fun _ h => ?_; subst h) | (refine (e2).callq rfl rfl fun _ h => ?_; subst h) | refine wIn (by omega) ?_ | refine nI (by omega) ?_) <;> conv => whnf))
  all_goals rfl
theorem s39 (f : Fig) : FnA Try.prog 39 [.agg f.cells] (fun r => ∃ b : Bool, r = .bool b ∧ (b = false → f.small ∧ (f.ok → f.N ≤ 5 ∧ f.per ≤ 8))) := by
  have l2 : (f.st.map iAV).length = f.st.length := by simp
  refine fnA 1 ok39 (by simp) ?_
  conv => whnf
  refine (s17 f).callq rfl rfl (fun r hr => ?_); obtain ⟨b, rfl, hb⟩ := hr
  cases b with
  | true =>
    (conv => whnf); (repeat' ((first | refine bT ?_ | refine bF ?_ | refine bN ?_ | ((first | refine bD ?_ ?_ | refine bEq ?_ ?_ | refine bNe ?_ ?_) <;> intro hh <;> try (exfalso; omega)) | refine wIn (by omega) ?_ | refine nI (by omega) ?_) <;> conv => whnf))
    all_goals exact ⟨_, rfl, fun h => by cases h⟩
  | false =>
    have e1 := s32 f (hb rfl)
    by_cases hok : f.ok
    · rw [chkF_ok hok] at e1
      have hst : f.st.length = f.N := hok.2.2.2.2.1
      by_cases c1 : f.N ≤ 5
      · by_cases c2 : f.per ≤ 8
        · (conv => whnf); (repeat' ((first | refine bT ?_ | refine bF ?_ | refine bN ?_ | ((first | refine bD ?_ ?_ | refine bEq ?_ ?_ | refine bNe ?_ ?_) <;> intro hh <;> try (exfalso; omega)) | (refine (e1).callq rfl rfl fun _ h => ?_; subst h) | refine wIn (by omega) ?_ | refine nI (by omega) ?_) <;> conv => whnf))
          all_goals exact ⟨_, rfl, fun _ => ⟨hb rfl, fun _ => ⟨c1, c2⟩⟩⟩
        · (conv => whnf); (repeat' ((first | refine bT ?_ | refine bF ?_ | refine bN ?_ | ((first | refine bD ?_ ?_ | refine bEq ?_ ?_ | refine bNe ?_ ?_) <;> intro hh <;> try (exfalso; omega)) | (refine (e1).callq rfl rfl fun _ h => ?_; subst h) | refine wIn (by omega) ?_ | refine nI (by omega) ?_) <;> conv => whnf))
          all_goals exact ⟨_, rfl, fun h => by first | cases h | (simp at h; omega)⟩
      · (conv => whnf); (repeat' ((first | refine bT ?_ | refine bF ?_ | refine bN ?_ | ((first | refine bD ?_ ?_ | refine bEq ?_ ?_ | refine bNe ?_ ?_) <;> intro hh <;> try (exfalso; omega)) | (refine (e1).callq rfl rfl fun _ h => ?_; subst h) | refine wIn (by omega) ?_ | refine nI (by omega) ?_) <;> conv => whnf))
        all_goals exact ⟨_, rfl, fun h => by first | cases h | (simp at h; omega)⟩
    · have h0 := chkF_pos hok
      (conv => whnf); (repeat' ((first | refine bT ?_ | refine bF ?_ | refine bN ?_ | ((first | refine bD ?_ ?_ | refine bEq ?_ ?_ | refine bNe ?_ ?_) <;> intro hh <;> try (exfalso; omega)) | (refine (e1).callq rfl rfl fun _ h => ?_; subst h) | refine wIn (by omega) ?_ | refine nI (by omega) ?_) <;> conv => whnf))
      all_goals exact ⟨_, rfl, fun _ => ⟨hb rfl, fun h => absurd h hok⟩⟩
/-- the error of the reference's check -/
theorem s55 (f : Fig) (hs : f.small) (i : Int) : FnA Try.prog 55 [.agg f.cells, .int .i64 i] (· = .int .i64 (f.eM i)) := by
  have e0 := s32 f hs
  have l2 : (f.st.map iAV).length = f.st.length := by simp
  by_cases hok : f.ok
  case neg =>
    have h0 := chkF_pos hok
    have : f.eM i = f.chk := by unfold Fig.eM; rw [if_neg hok]
    rw [this]
    refine fnA 2 ok55 (by simp) ?_
    (conv => whnf); (repeat' ((first | refine bT ?_ | refine bF ?_ | refine bN ?_ | ((first | refine bD ?_ ?_ | refine bEq ?_ ?_ | refine bNe ?_ ?_) <;> intro hh <;> try (exfalso; omega)) | (refine (e0).callq rfl rfl fun _ h => ?_; subst h) | refine wIn (by omega) ?_ | refine nI (by omega) ?_) <;> conv => whnf))
    all_goals rfl
  rw [chkF_ok hok] at e0
  have hst : f.st.length = f.d.gs.length := hok.2.2.2.2.1
  by_cases hi : 0 ≤ i ∧ i < f.d.gs.length
  case neg =>
    have : f.eM i = 1 := by unfold Fig.eM; rw [if_pos hok, if_neg hi]
    rw [this]
    refine fnA 2 ok55 (by simp) ?_
    (conv => whnf); (repeat' ((first | refine bT ?_ | refine bF ?_ | refine bN ?_ | ((first | refine bD ?_ ?_ | refine bEq ?_ ?_ | refine bNe ?_ ?_) <;> intro hh <;> try (exfalso; omega)) | (refine (e0).callq rfl rfl fun _ h => ?_; subst h) | refine wIn (by omega) ?_ | refine nI (by omega) ?_) <;> conv => whnf))
    all_goals rfl
  have hbl := hok.1.1.1
  have hno : f.d.no 0 = 0 := by unfold Dome.no; rw [if_pos hok.1, if_pos ⟨by omega, by omega⟩]
  by_cases hh : f.d.has = true
  · have : f.eM i = 0 := by unfold Fig.eM; rw [if_pos hok, if_pos hi, if_pos hh]
    rw [this]
    have hB : f.d.eB 0 = 0 := by unfold Dome.eB; rw [if_pos hno, if_pos hh]
    have e1 := k35 f.d 0 hB (by omega)
    refine fnA 2 ok55 (by simp) ?_
    (conv => whnf); (repeat' ((first | refine bT ?_ | refine bF ?_ | refine bN ?_ | ((first | refine bD ?_ ?_ | refine bEq ?_ ?_ | refine bNe ?_ ?_) <;> intro hh <;> try (exfalso; omega)) | (refine (e0).callq rfl rfl fun _ h => ?_; subst h) | (refine (e1).callzq rfl rfl fun _ h => ?_; subst h) | refine wIn (by omega) ?_ | refine nI (by omega) ?_) <;> conv => whnf))
    all_goals rfl
  · have : f.eM i = 3 := by unfold Fig.eM; rw [if_pos hok, if_pos hi, if_neg hh]
    rw [this]
    have hB : f.d.eB 0 = 3 := by unfold Dome.eB; rw [if_pos hno, if_neg hh]
    have e1 := k35_no f.d 0 (by rw [hB]; decide)
    rw [hB] at e1
    refine fnA 2 ok55 (by simp) ?_
    (conv => whnf); (repeat' ((first | refine bT ?_ | refine bF ?_ | refine bN ?_ | ((first | refine bD ?_ ?_ | refine bEq ?_ ?_ | refine bNe ?_ ?_) <;> intro hh <;> try (exfalso; omega)) | (refine (e0).callq rfl rfl fun _ h => ?_; subst h) | (refine (e1).callzq rfl rfl fun _ h => ?_; subst h) | refine wIn (by omega) ?_ | refine nI (by omega) ?_) <;> conv => whnf))
    all_goals rfl
theorem eM_0 (f : Fig) : f.eM 0 = f.eF := by
  unfold Fig.eM Fig.eF
  by_cases hok : f.ok
  · have := hok.1.1.2.1
    rw [if_pos hok, if_pos hok, if_pos ⟨by omega, by omega⟩]
  · rw [if_neg hok, if_neg hok]
theorem s18 (f : Fig) (hs : f.small) : FnA Try.prog 18 [.agg f.cells] (· = .int .i64 f.eF) := by
  have e1 := s55 f hs 0
  rw [eM_0] at e1
  refine fnA 1 ok18 (by simp) ?_
  (conv => whnf); (repeat' ((first | refine bT ?_ | refine bF ?_ | refine bN ?_ | ((first | refine bD ?_ ?_ | refine bEq ?_ ?_ | refine bNe ?_ ?_) <;> intro hh <;> try (exfalso; omega)) | (refine (e1).callq rfl rfl fun _ h => ?_; subst h) | refine wIn (by omega) ?_ | refine nI (by omega) ?_) <;> conv => whnf))
  all_goals rfl
theorem eF_3 (f : Fig) : f.eF = 0 ∨ f.eF = 3 ∨ f.eF = 20 ∨ f.eF = 21 ∨ f.eF = 40 := by
  unfold Fig.eF
  split
  · split
    · exact .inl rfl
    · exact .inr (.inl rfl)
  · rename_i h
    rcases chkF_pos h with h | h | h <;> omega
theorem s25 (f : Fig) : FnA Try.prog 25 [.agg f.cells] (fun r => ∃ b : Bool, r = .bool b ∧ (b = true → f.small ∧ f.eF = 0 ∧ f.N ≤ 5 ∧ f.per ≤ 8)) := by
  refine fnA 1 ok25 (by simp) ?_
  conv => whnf
  refine (s39 f).callq rfl rfl (fun r hr => ?_); obtain ⟨b, rfl, hb⟩ := hr
  cases b with
  | true =>
    (conv => whnf); (repeat' ((first | refine bT ?_ | refine bF ?_ | refine bN ?_ | ((first | refine bD ?_ ?_ | refine bEq ?_ ?_ | refine bNe ?_ ?_) <;> intro hh <;> try (exfalso; omega)) | refine wIn (by omega) ?_ | refine nI (by omega) ?_) <;> conv => whnf))
    all_goals exact ⟨_, rfl, fun h => by cases h⟩
  | false =>
    obtain ⟨hs, hn⟩ := hb rfl
    have e1 := s18 f hs
    by_cases h0 : f.eF = 0
    · rw [h0] at e1
      (conv => whnf); (repeat' ((first | refine bT ?_ | refine bF ?_ | refine bN ?_ | ((first | refine bD ?_ ?_ | refine bEq ?_ ?_ | refine bNe ?_ ?_) <;> intro hh <;> try (exfalso; omega)) | (refine (e1).callq rfl rfl fun _ h => ?_; subst h) | refine wIn (by omega) ?_ | refine nI (by omega) ?_) <;> conv => whnf))
      all_goals exact ⟨_, rfl, fun _ => ⟨hs, h0, hn (eF_ok h0).1⟩⟩
    · have := eF_3 f
      (conv => whnf); (repeat' ((first | refine bT ?_ | refine bF ?_ | refine bN ?_ | ((first | refine bD ?_ ?_ | refine bEq ?_ ?_ | refine bNe ?_ ?_) <;> intro hh <;> try (exfalso; omega)) | (refine (e1).callq rfl rfl fun _ h => ?_; subst h) | refine wIn (by omega) ?_ | refine nI (by omega) ?_) <;> conv => whnf))
      all_goals exact ⟨_, rfl, fun h => by first | cases h | (simp at h; omega)⟩
theorem dist_eq {f : Fig} {a b : Int} (ha : 0 ≤ a ∧ a < f.per) (hb : 0 ≤ b ∧ b < f.per) : f.dist a b = min ((a - b) % f.per) ((b - a) % f.per) := by
  unfold Fig.dist
  rcases Int.lt_trichotomy a b with h | h | h
  · have h1 : (a - b) % f.per = a - b + f.per := by
      rw [← Int.add_emod_right, Int.emod_eq_of_lt (by omega) (by omega)]
    have h2 : (b - a) % f.per = b - a := Int.emod_eq_of_lt (by omega) (by omega)
    rw [h1, h2]; omega
  · subst h
    simp only [Int.sub_self, Int.zero_emod]; omega
  · have h1 : (b - a) % f.per = b - a + f.per := by
      rw [← Int.add_emod_right, Int.emod_eq_of_lt (by omega) (by omega)]
    have h2 : (a - b) % f.per = a - b := Int.emod_eq_of_lt (by omega) (by omega)
    rw [h1, h2]; omega
/-- a seam meets with a length of its run, with some starts -/
def Fig.mbL (f : Fig) (l : List Int) (i : Nat) (x : Int) : Bool := decide (f.dist ((l.getD i 0 + x).tmod f.per) (l.getD ((i + 1) % f.N) 0) ≤ f.near)
theorem mbL_st (f : Fig) (i : Nat) : f.mbL f.st i = f.mb i := rfl
theorem s63 (f : Fig) (hok : f.ok) (a b : Int) (ha : 0 ≤ a ∧ a < f.per) (hb : 0 ≤ b ∧ b < f.per) : FnA Try.prog 63 [.agg f.cells, .int .i64 a, .int .i64 b] (· = .bool (decide (f.dist a b ≤ f.near))) := by
  have hp := hok.2.1
  have e1 := s62 (a - b) f.per (by omega) (by omega)
  have e2 := s62 (b - a) f.per (by omega) (by omega)
  rw [dist_eq ha hb]
  refine fnA 1 ok63 (by simp) ?_
  (conv => whnf); (repeat' ((first | refine bT ?_ | refine bF ?_ | refine bN ?_ | ((first | refine bD ?_ ?_ | refine bEq ?_ ?_ | refine bNe ?_ ?_) <;> intro hh <;> try (exfalso; omega)) | (refine (e1).callq rfl rfl fun _ h => ?_; subst h) | (refine (e2).callq rfl rfl fun _ h => ?_; subst h) | refine wIn (by omega) ?_ | refine nI (by omega) ?_) <;> conv => whnf))
  all_goals rfl
theorem getD_in {l : List Int} {p : Int → Prop} (h : ∀ x ∈ l, p x) {i : Nat} (hi : i < l.length) : p (l.getD i 0) := by
  rw [List.getD_eq_getElem?_getD, List.getElem?_eq_getElem hi]; exact h _ (List.getElem_mem _)
theorem s24 (f : Fig) (hok : f.ok) (l : List Int) (hl : l.length = f.N) (hx : ∀ x ∈ l, 0 ≤ x ∧ x < f.per) (i : Nat) (hi : i < f.N) (s : Int) (hs : 0 ≤ s ∧ s ≤ 60) : FnA Try.prog 24 [.agg f.cells, .isl (l.map iAV), .int .i64 i, .int .i64 s] (· = .bool (f.mbL l i (f.leng s))) := by
  have l1 : (l.map iAV).length = l.length := by simp
  have hp := hok.2.1
  have hr := hok.2.2.1
  have hN := N_in hok
  have hnx : (i + 1) % f.N < f.N := Nat.mod_lt _ (by omega)
  have hxi := getD_in hx (i := i) (by omega)
  have hxn := getD_in hx (i := (i + 1) % f.N) (by omega)
  have e1 := k47 f.run s (by omega) (by omega)
  have hpin := pulled_in (n := f.run) (s := s) (by omega) (by omega)
  have hp0 : 0 ≤ pulled f.run s := by
    unfold pulled
    rw [Int.tdiv_eq_ediv_of_nonneg (Int.mul_nonneg (by omega) (by omega))]
    exact Int.ediv_nonneg (Int.mul_nonneg (by omega) (by omega)) (by omega)
  have hpm : pulled f.run s ≤ 2120 := by
    have h1 : f.run * (1000 + s) ≤ 2000 * 1060 := Int.mul_le_mul (by omega) (by omega) (by omega) (by omega)
    unfold pulled
    rw [Int.tdiv_eq_ediv_of_nonneg (Int.mul_nonneg (by omega) (by omega))]
    omega
  have e2 := s62 (l.getD i 0 + pulled f.run s) f.per (by omega) (by omega)
  have hm : (l.getD i 0 + pulled f.run s) % f.per = (l.getD i 0 + f.leng s).tmod f.per := by
    have h1 : f.leng s = (pulled f.run s) % f.per := Int.tmod_eq_emod_of_nonneg hp0
    have h2 := Int.emod_nonneg (pulled f.run s) (show f.per ≠ 0 by omega)
    rw [h1, Int.tmod_eq_emod_of_nonneg (by omega), Int.add_emod_emod]
  rw [hm] at e2
  have hin : 0 ≤ (l.getD i 0 + f.leng s).tmod f.per ∧ (l.getD i 0 + f.leng s).tmod f.per < f.per := by
    rw [← hm]; exact ⟨Int.emod_nonneg _ (by omega), Int.emod_lt_of_pos _ (by omega)⟩
  have e3 := s63 f hok ((l.getD i 0 + f.leng s).tmod f.per) (l.getD ((i + 1) % f.N) 0) hin hxn
  have ht : ((i : Int) + 1).tmod ↑(l.map iAV).length = (((i + 1) % f.N : Nat) : Int) := by
    rw [l1, hl, Int.tmod_eq_emod_of_nonneg (by omega)]; push_cast; rfl
  have g1 : (l.map iAV).getD i [] = [.int .i64 (l.getD i 0)] := row_at (by omega)
  have g2 : (l.map iAV).getD (((i : Int) + 1).tmod ↑(l.map iAV).length).toNat [] = [.int .i64 (l.getD ((i + 1) % f.N) 0)] := by
    rw [ht, Int.toNat_natCast]; exact row_at (by omega)
  refine fnA 1 ok24 (by simp) ?_
  (conv => whnf); (repeat' ((first | refine bT ?_ | refine bF ?_ | refine bN ?_ | ((first | refine bD ?_ ?_ | refine bEq ?_ ?_ | refine bNe ?_ ?_) <;> intro hh <;> try (exfalso; omega)) | refine wIn (by omega) ?_ | refine nI (by omega) ?_) <;> conv => whnf))
  refine iaI (by omega) (by omega) g1 ?_
  (conv => whnf); (repeat' ((first | refine bT ?_ | refine bF ?_ | refine bN ?_ | ((first | refine bD ?_ ?_ | refine bEq ?_ ?_ | refine bNe ?_ ?_) <;> intro hh <;> try (exfalso; omega)) | (refine (e1).callq rfl rfl fun _ h => ?_; subst h) | (refine (e2).callq rfl rfl fun _ h => ?_; subst h) | refine wIn (by omega) ?_ | refine nI (by omega) ?_) <;> conv => whnf))
  refine iaI (by omega) (by omega) g2 ?_
  (conv => whnf); (repeat' ((first | refine bT ?_ | refine bF ?_ | refine bN ?_ | ((first | refine bD ?_ ?_ | refine bEq ?_ ?_ | refine bNe ?_ ?_) <;> intro hh <;> try (exfalso; omega)) | (refine (e3).callq rfl rfl fun _ h => ?_; subst h) | refine wIn (by omega) ?_ | refine nI (by omega) ?_) <;> conv => whnf))
  all_goals rfl
/-- the numbers of the bolt of a gore -/
def Fig.nm (f : Fig) (i : Nat) : List Int := (f.d.bs.getD (f.d.gs.getD i 0).toNat ⟨0, 0, [], 0⟩).nums
theorem nm_eq {f : Fig} (hok : f.ok) {i : Nat} (hi : i < f.N) : f.rs i = (f.nm i).map f.leng ∧ (∀ s ∈ f.nm i, 0 ≤ s ∧ s ≤ 60) ∧ (f.nm i).length ≤ 61 := by
  obtain ⟨b, hb, h1, h2⟩ := rs_eq hok (i := i) hi
  have hi' : i < f.d.gs.length := hi
  have e : f.d.gs.getD i 0 = f.d.gs[i] := by simp [List.getD_eq_getElem?_getD, hi']
  have : f.nm i = b.nums := by unfold Fig.nm; rw [e]; exact congrArg Bolt.nums h1
  rw [this]
  exact ⟨h2, nums_in (hok.1.2 b hb), nums_le b (hok.1.2 b hb)⟩
def Fig.cntL (f : Fig) (l : List Int) (i : Nat) : Nat := ((f.rs i).filter (f.mbL l i)).length
theorem cntL_nm {f : Fig} (hok : f.ok) {i : Nat} (hi : i < f.N) (l : List Int) : ((f.nm i).filter fun s => f.mbL l i (f.leng s)).length = f.cntL l i := by
  unfold Fig.cntL
  rw [(nm_eq hok hi).1, List.filter_map, List.length_map]; rfl
theorem s74 (f : Fig) (hok : f.ok) (l : List Int) (hl : l.length = f.N) (hx : ∀ x ∈ l, 0 ≤ x ∧ x < f.per) (i : Nat) (hi : i < f.N) : FnA Try.prog 74 [.agg f.cells, .isl ((f.nm i).map iAV), .isl (l.map iAV), .int .i64 i] (· = .int .i64 (f.cntL l i)) := by
  rw [← cntL_nm hok hi]
  obtain ⟨_, hn, hnl⟩ := nm_eq hok hi
  generalize f.nm i = n at *
  have l1 : (n.map iAV).length = n.length := by simp
  refine fnA 1 ok74 (by simp) ?_
  (conv => whnf); (repeat' ((first | refine bT ?_ | refine bF ?_ | refine bN ?_ | ((first | refine bD ?_ ?_ | refine bEq ?_ ?_ | refine bNe ?_ ?_) <;> intro hh <;> try (exfalso; omega)) | refine wIn (by omega) ?_ | refine nI (by omega) ?_) <;> conv => whnf))
  refine loop_i (α := Nat) (fun k => [(10, .int .i64 k), (9, .int .i64 ((n.take k).filter fun s => f.mbL l i (f.leng s)).length), (4, .own 0 0), (3, .int .i64 i), (2, .isl (l.map iAV)), (1, .isl (n.map iAV))]) (fun k => [.box false f.cells]) (fun k => k ≤ n.length) (fun k => n.length - k) 0 (meets_id (by (repeat' apply And.intro) <;> first | rfl | exact True.intro | (intro hh; cases hh))) (by omega) ?_
  intro k hk0
  conv => whnf
  refine bD (fun h4 => ?_) (fun h4 => ?_)
  · have hk : k < n.length := by omega
    have hcc : ((n.take k).filter fun s => f.mbL l i (f.leng s)).length ≤ 61 := Nat.le_trans (List.length_filter_le _ _) (by rw [List.length_take]; omega)
    have e1 := s24 f hok l hl hx i hi n[k] (hn _ (List.getElem_mem hk))
    conv => whnf
    refine iaI (by omega) (by omega) (getD_map iAV n k hk) ?_
    cases hb : f.mbL l i (f.leng n[k]) with
    | true =>
      rw [hb] at e1
      have := filter_len_yes (p := fun s => f.mbL l i (f.leng s)) hk hb
      (conv => whnf); (repeat' ((first | refine bT ?_ | refine bF ?_ | refine bN ?_ | ((first | refine bD ?_ ?_ | refine bEq ?_ ?_ | refine bNe ?_ ?_) <;> intro hh <;> try (exfalso; omega)) | (refine (e1).callq rfl rfl fun _ h => ?_; subst h) | refine wIn (by omega) ?_ | refine nI (by omega) ?_) <;> conv => whnf))
      refine ⟨k + 1, ?_, by omega, by omega⟩
      rw [this]
      exact (meets_id (by (repeat' apply And.intro) <;> first | rfl | exact True.intro | (intro hh; cases hh)))
    | false =>
      rw [hb] at e1
      have := filter_len_no (p := fun s => f.mbL l i (f.leng s)) hk hb
      (conv => whnf); (repeat' ((first | refine bT ?_ | refine bF ?_ | refine bN ?_ | ((first | refine bD ?_ ?_ | refine bEq ?_ ?_ | refine bNe ?_ ?_) <;> intro hh <;> try (exfalso; omega)) | (refine (e1).callq rfl rfl fun _ h => ?_; subst h) | refine wIn (by omega) ?_ | refine nI (by omega) ?_) <;> conv => whnf))
      refine ⟨k + 1, ?_, by omega, by omega⟩
      rw [this]
      exact (meets_id (by (repeat' apply And.intro) <;> first | rfl | exact True.intro | (intro hh; cases hh)))
  · have : k = n.length := by omega
    subst this
    rw [List.take_length]
    (conv => whnf); (repeat' ((first | refine bT ?_ | refine bF ?_ | refine bN ?_ | ((first | refine bD ?_ ?_ | refine bEq ?_ ?_ | refine bNe ?_ ?_) <;> intro hh <;> try (exfalso; omega)) | refine wIn (by omega) ?_ | refine nI (by omega) ?_) <;> conv => whnf))
    all_goals rfl
def boltsL (f : Fig) (k : Nat) : List (List AV) := (List.range k).map fun g => rowAV (f.nm g)
theorem boltsL_at (f : Fig) {k g : Nat} (h : g < k) : (boltsL f k).getD g [] = rowAV (f.nm g) := by
  simp [boltsL, List.getD_eq_getElem?_getD, h]
theorem boltsL_succ (f : Fig) (k : Nat) : boltsL f (k + 1) = boltsL f k ++ [[.isl ((f.nm k).map iAV)]] := by
  simp [boltsL, List.range_succ, rowAV]
theorem s66 (f : Fig) (hok : f.ok) (hh : f.d.has = true) : FnA Try.prog 66 [.agg f.cells] (· = .isl (boltsL f f.N)) := by
  have l1 : (f.d.gs.map iAV).length = f.d.gs.length := by simp
  have hN := N_in hok
  have hNg : f.N = f.d.gs.length := rfl
  refine fnA 5 ok66 (by simp) ?_
  (conv => whnf); (repeat' ((first | refine bT ?_ | refine bF ?_ | refine bN ?_ | ((first | refine bD ?_ ?_ | refine bEq ?_ ?_ | refine bNe ?_ ?_) <;> intro hh <;> try (exfalso; omega)) | refine wIn (by omega) ?_ | refine nI (by omega) ?_) <;> conv => whnf))
  refine loop_i (α := Nat) (fun k => [(4, .int .i64 k), (3, .row 4), (1, .own 0 0)]) (fun k => [.box false f.cells, .fresh, .fresh, .fresh, .row false 23 1 (boltsL f k)]) (fun k => k ≤ f.N) (fun k => f.N - k) 0 (meets_nil 4 (by (repeat' apply And.intro) <;> first | rfl | exact True.intro | (intro hh; cases hh))) (by omega) ?_
  intro k hk0
  have hbl : (boltsL f k).length = k := by simp [boltsL]
  conv => whnf
  refine bD (fun h4 => ?_) (fun h4 => ?_)
  · have hk : k < f.d.gs.length := by omega
    have hg := gore_ok hok hk
    have hgn : ((f.d.gs[k].toNat : Nat) : Int) = f.d.gs[k] := by omega
    have hE : f.d.eB (f.d.gs[k].toNat : Nat) = 0 := by
      unfold Dome.eB Dome.no; rw [if_pos hok.1, if_pos (show 0 ≤ ((f.d.gs[k].toNat : Nat) : Int) ∧ ((f.d.gs[k].toNat : Nat) : Int) < f.d.bs.length from ⟨by omega, by omega⟩), if_pos rfl, if_pos hh]
    have e1 := k35 f.d f.d.gs[k].toNat hE (by omega)
    have hnm : (f.d.bs[f.d.gs[k].toNat]'(by omega)).nums = f.nm k := by
      unfold Fig.nm
      have e : f.d.gs.getD k 0 = f.d.gs[k] := by simp [List.getD_eq_getElem?_getD, hk]
      rw [e]; simp [List.getD_eq_getElem?_getD, show f.d.gs[k].toNat < f.d.bs.length by omega]
    rw [hnm, hgn] at e1
    have hss := boltsL_succ f k
    conv => whnf
    refine iaI (by omega) (by omega) (getD_map iAV f.d.gs k hk) ?_
    (conv => whnf); (repeat' ((first | refine bT ?_ | refine bF ?_ | refine bN ?_ | ((first | refine bD ?_ ?_ | refine bEq ?_ ?_ | refine bNe ?_ ?_) <;> intro hh <;> try (exfalso; omega)) | (refine (e1).callzq rfl rfl fun _ h => ?_; subst h) | refine wIn (by omega) ?_ | refine nI (by omega) ?_) <;> conv => whnf))
    refine apI (by simp [AV.one]) (by simp only [hbl]; simp; omega) ?_
    (conv => whnf); (repeat' ((first | refine bT ?_ | refine bF ?_ | refine bN ?_ | ((first | refine bD ?_ ?_ | refine bEq ?_ ?_ | refine bNe ?_ ?_) <;> intro hh <;> try (exfalso; omega)) | refine wIn (by omega) ?_ | refine nI (by omega) ?_) <;> conv => whnf))
    refine ⟨k + 1, ?_, by omega, by omega⟩
    rw [hss]
    exact (meets_ren 4 3 (by (repeat' apply And.intro) <;> first | rfl | exact True.intro | (intro hh; cases hh)))
  · have : k = f.N := by omega
    subst this
    (conv => whnf); (repeat' ((first | refine bT ?_ | refine bF ?_ | refine bN ?_ | ((first | refine bD ?_ ?_ | refine bEq ?_ ?_ | refine bNe ?_ ?_) <;> intro hh <;> try (exfalso; omega)) | refine wIn (by omega) ?_ | refine nI (by omega) ?_) <;> conv => whnf))
    all_goals rfl
theorem st_x {f : Fig} (hok : f.ok) : ∀ x ∈ f.st, 0 ≤ x ∧ x < f.per := fun x hx => by
  have := hok.2.2.2.2.2.1 x hx
  omega
theorem s37 (f : Fig) (hs : f.small) (i : Nat) (h : f.eM i = 0) : FnA Try.prog 37 [.agg f.cells, .int .i64 i] (· = .tup [.int .i64 (f.mv i), .int .i64 0]) := by
  obtain ⟨hok, hh, _, hi⟩ := eM_ok h
  have hi : i < f.N := by have : (i : Int) < f.d.gs.length := hi; show i < f.d.gs.length; omega
  have hN := N_in hok
  have e0 := s55 f hs i
  rw [h] at e0
  have e1 := s66 f hok hh
  have hst : f.st.length = f.N := hok.2.2.2.2.1
  have e2 := s74 f hok f.st hst (st_x hok) i hi
  have hc : f.cntL f.st i = f.cnt i := rfl
  rw [hc] at e2
  have hbl : (boltsL f f.N).length = f.N := by simp [boltsL]
  have hba : (boltsL f f.N).getD i [] = [.isl ((f.nm i).map iAV)] := boltsL_at f hi
  have hnl : ((f.nm i).map iAV).length = (f.rs i).length := by rw [(nm_eq hok hi).1]; simp
  have hcl : f.cnt i ≤ (f.rs i).length := List.length_filter_le _ _
  unfold Fig.mv
  refine fnA 2 ok37 (by simp) ?_
  by_cases c1 : f.cnt i = (f.rs i).length
  · rw [if_pos c1]
    (conv => whnf); (repeat' ((first | refine bT ?_ | refine bF ?_ | refine bN ?_ | ((first | refine bD ?_ ?_ | refine bEq ?_ ?_ | refine bNe ?_ ?_) <;> intro hh <;> try (exfalso; omega)) | (refine (e0).callq rfl rfl fun _ h => ?_; subst h) | (refine (e1).callzq rfl rfl fun _ h => ?_; subst h) | (refine iaI (by omega) (by omega) hba ?_) | (refine (e2).callq rfl rfl fun _ h => ?_; subst h) | refine wIn (by omega) ?_ | refine nI (by omega) ?_) <;> conv => whnf))
    all_goals rfl
  · rw [if_neg c1]
    by_cases c2 : f.cnt i = 0
    · rw [if_pos c2]
      (conv => whnf); (repeat' ((first | refine bT ?_ | refine bF ?_ | refine bN ?_ | ((first | refine bD ?_ ?_ | refine bEq ?_ ?_ | refine bNe ?_ ?_) <;> intro hh <;> try (exfalso; omega)) | (refine (e0).callq rfl rfl fun _ h => ?_; subst h) | (refine (e1).callzq rfl rfl fun _ h => ?_; subst h) | (refine iaI (by omega) (by omega) hba ?_) | (refine (e2).callq rfl rfl fun _ h => ?_; subst h) | refine wIn (by omega) ?_ | refine nI (by omega) ?_) <;> conv => whnf))
      all_goals rfl
    · rw [if_neg c2]
      (conv => whnf); (repeat' ((first | refine bT ?_ | refine bF ?_ | refine bN ?_ | ((first | refine bD ?_ ?_ | refine bEq ?_ ?_ | refine bNe ?_ ?_) <;> intro hh <;> try (exfalso; omega)) | (refine (e0).callq rfl rfl fun _ h => ?_; subst h) | (refine (e1).callzq rfl rfl fun _ h => ?_; subst h) | (refine iaI (by omega) (by omega) hba ?_) | (refine (e2).callq rfl rfl fun _ h => ?_; subst h) | refine wIn (by omega) ?_ | refine nI (by omega) ?_) <;> conv => whnf))
      all_goals rfl
theorem s37_no (f : Fig) (hs : f.small) (i : Int) (h : f.eM i ≠ 0) : FnA Try.prog 37 [.agg f.cells, .int .i64 i] (· = .tup [.int .i64 0, .int .i64 (f.eM i)]) := by
  have e0 := s55 f hs i
  refine fnA 2 ok37 (by simp) ?_
  (conv => whnf); (repeat' ((first | refine bT ?_ | refine bF ?_ | refine bN ?_ | ((first | refine bD ?_ ?_ | refine bEq ?_ ?_ | refine bNe ?_ ?_) <;> intro hh <;> try (exfalso; omega)) | (refine (e0).callq rfl rfl fun _ h => ?_; subst h) | refine wIn (by omega) ?_ | refine nI (by omega) ?_) <;> conv => whnf))
  all_goals rfl
theorem s38 (f : Fig) (hs : f.small) (h : f.eF = 0) : FnA Try.prog 38 [.agg f.cells] (· = .tup [.isl (f.bad.map iAV), .int .i64 0]) := by
  obtain ⟨hok, hh⟩ := eF_ok h
  have e0 := s55 f hs 0
  rw [eM_0, h] at e0
  have hst : f.st.length = f.d.gs.length := hok.2.2.2.2.1
  have hgl := hok.1.1.2.1
  have l1 : (f.st.map iAV).length = f.st.length := by simp
  refine fnA 4 ok38 (by simp) ?_
  (conv => whnf); (repeat' ((first | refine bT ?_ | refine bF ?_ | refine bN ?_ | ((first | refine bD ?_ ?_ | refine bEq ?_ ?_ | refine bNe ?_ ?_) <;> intro hh <;> try (exfalso; omega)) | (refine (e0).callq rfl rfl fun _ h => ?_; subst h) | refine wIn (by omega) ?_ | refine nI (by omega) ?_) <;> conv => whnf))
  refine loop_i (α := Nat) (fun k => [(6, .int .i64 k), (5, .row 3), (1, .own 0 0)]) (fun k => [.box false f.cells, .fresh, .fresh, .row false 3 1 ((f.badN k).map iAV)]) (fun k => k ≤ f.d.gs.length) (fun k => f.d.gs.length - k) 0 (meets_nil 3 (by (repeat' apply And.intro) <;> first | rfl | exact True.intro | (intro hh; cases hh))) (by omega) ?_
  intro k hk0
  conv => whnf
  refine bD (fun h4 => ?_) (fun h4 => ?_)
  · have hk : k < f.d.gs.length := by omega
    have e2 := s37 f hs k (by unfold Fig.eM; rw [if_pos hok, if_pos ⟨by omega, by omega⟩, if_pos hh])
    have hle := badN_le f k
    have hss := badN_succ f k
    by_cases hb : f.mv k ≠ 1
    · rw [if_pos hb] at hss
      (conv => whnf); (repeat' ((first | refine bT ?_ | refine bF ?_ | refine bN ?_ | ((first | refine bD ?_ ?_ | refine bEq ?_ ?_ | refine bNe ?_ ?_) <;> intro hh <;> try (exfalso; omega)) | (refine (e2).callq rfl rfl fun _ h => ?_; subst h) | refine wIn (by omega) ?_ | refine nI (by omega) ?_) <;> conv => whnf))
      refine apI (by simp [AV.one]) (by simp; omega) ?_
      (conv => whnf); (repeat' ((first | refine bT ?_ | refine bF ?_ | refine bN ?_ | ((first | refine bD ?_ ?_ | refine bEq ?_ ?_ | refine bNe ?_ ?_) <;> intro hh <;> try (exfalso; omega)) | refine wIn (by omega) ?_ | refine nI (by omega) ?_) <;> conv => whnf))
      refine ⟨k + 1, ?_, by omega, by omega⟩
      rw [hss, List.map_append]
      exact (meets_ren 3 2 (by (repeat' apply And.intro) <;> first | rfl | exact True.intro | (intro hh; cases hh)))
    · rw [if_neg hb] at hss
      (conv => whnf); (repeat' ((first | refine bT ?_ | refine bF ?_ | refine bN ?_ | ((first | refine bD ?_ ?_ | refine bEq ?_ ?_ | refine bNe ?_ ?_) <;> intro hh <;> try (exfalso; omega)) | (refine (e2).callq rfl rfl fun _ h => ?_; subst h) | refine wIn (by omega) ?_ | refine nI (by omega) ?_) <;> conv => whnf))
      refine ⟨k + 1, ?_, by omega, by omega⟩
      rw [hss]
      exact (meets_id (by (repeat' apply And.intro) <;> first | rfl | exact True.intro | (intro hh; cases hh)))
  · have : k = f.d.gs.length := by omega
    subst this
    (conv => whnf); (repeat' ((first | refine bT ?_ | refine bF ?_ | refine bN ?_ | ((first | refine bD ?_ ?_ | refine bEq ?_ ?_ | refine bNe ?_ ?_) <;> intro hh <;> try (exfalso; omega)) | refine wIn (by omega) ?_ | refine nI (by omega) ?_) <;> conv => whnf))
    all_goals rfl
theorem s38_no (f : Fig) (hs : f.small) (h : f.eF ≠ 0) : FnA Try.prog 38 [.agg f.cells] (· = .tup [.isl [], .int .i64 f.eF]) := by
  have e0 := s55 f hs 0
  rw [eM_0] at e0
  refine fnA 3 ok38 (by simp) ?_
  (conv => whnf); (repeat' ((first | refine bT ?_ | refine bF ?_ | refine bN ?_ | ((first | refine bD ?_ ?_ | refine bEq ?_ ?_ | refine bNe ?_ ?_) <;> intro hh <;> try (exfalso; omega)) | (refine (e0).callq rfl rfl fun _ h => ?_; subst h) | refine wIn (by omega) ?_ | refine nI (by omega) ?_) <;> conv => whnf))
  all_goals rfl
theorem s28o (f : Fig) (hs : f.small) : FnO Try.prog 28 [.agg f.cells] (fun r rows => r = .agg [.row 3, .row 4, .int .i64 f.d.loss, .row 5, .row 6, .int .i64 f.d.slope, .int .i64 f.per, .int .i64 f.run, .int .i64 f.near, .row 8, .row 10] ∧ rows = [(3, .row false 55 4 (f.d.bs.map Bolt.av)), (4, .row false 3 1 (f.d.gs.map iAV)), (5, .row false 50 2 (f.d.rs.map pairAV)), (6, .row false 3 1 (f.d.ws.map iAV)), (8, .row false 3 1 (f.st.map iAV)), (10, .row false 3 1 (f.ti.map iAV))]) := by
  have e0 := k27o f.d hs.1
  have l2 : (f.st.map iAV).length = f.st.length := by simp
  have l3 : (f.ti.map iAV).length = f.ti.length := by simp
  obtain ⟨_, h2, h3⟩ := hs
  refine fnO 11 ok28 (by simp) ?_
  (conv => whnf); (repeat' ((first | refine bT ?_ | refine bF ?_ | refine bN ?_ | ((first | refine bD ?_ ?_ | refine bEq ?_ ?_ | refine bNe ?_ ?_) <;> intro hh <;> try (exfalso; omega)) | refine wIn (by omega) ?_ | refine nI (by omega) ?_) <;> conv => whnf))
  refine e0.callzq rfl rfl (fun r rows (hr : r = _ ∧ rows = _) => ?_); obtain ⟨hr1, hr2⟩ := hr; subst hr1; subst hr2; refine ⟨rfl, ?_⟩
  (conv => whnf); (repeat' ((first | refine bT ?_ | refine bF ?_ | refine bN ?_ | ((first | refine bD ?_ ?_ | refine bEq ?_ ?_ | refine bNe ?_ ?_) <;> intro hh <;> try (exfalso; omega)) | refine wIn (by omega) ?_ | refine nI (by omega) ?_) <;> conv => whnf))
  refine apI (one_iAV _) (by simp only [l2, List.length_nil]; omega) ?_
  (conv => whnf); (repeat' ((first | refine bT ?_ | refine bF ?_ | refine bN ?_ | ((first | refine bD ?_ ?_ | refine bEq ?_ ?_ | refine bNe ?_ ?_) <;> intro hh <;> try (exfalso; omega)) | refine wIn (by omega) ?_ | refine nI (by omega) ?_) <;> conv => whnf))
  refine apI (one_iAV _) (by simp only [l3, List.length_nil]; omega) ?_
  (conv => whnf); (repeat' ((first | refine bT ?_ | refine bF ?_ | refine bN ?_ | ((first | refine bD ?_ ?_ | refine bEq ?_ ?_ | refine bNe ?_ ?_) <;> intro hh <;> try (exfalso; omega)) | refine wIn (by omega) ?_ | refine nI (by omega) ?_) <;> conv => whnf))
  all_goals exact ⟨rfl, rfl⟩
theorem mem_nums {b : Bolt} {x : Int} (h : b.can x = true) : x ∈ b.nums := by
  have h1 : b.lo ≤ x ∧ x ≤ b.hi := by
    simp only [Bolt.can, Bool.and_eq_true, decide_eq_true_eq] at h; exact h.1
  unfold Bolt.nums Bolt.numsN
  refine List.mem_filter.2 ⟨List.mem_map.2 ⟨(x - b.lo).toNat, List.mem_range.2 (by unfold Bolt.nt; omega), by omega⟩, h⟩
theorem mem_bad {f : Fig} {i : Nat} (hi : i < f.N) : (i : Int) ∈ f.bad ↔ f.mv i ≠ 1 := by
  unfold Fig.bad Fig.badN
  simp only [List.mem_map, List.mem_filter, List.mem_range, decide_eq_true_eq]
  constructor
  · rintro ⟨k, ⟨_, h⟩, e⟩
    have : k = i := by omega
    subst this; exact h
  · intro h
    exact ⟨i, ⟨hi, h⟩, rfl⟩
theorem bad_in {f : Fig} {x : Int} (h : x ∈ f.bad) : ∃ i : Nat, i < f.N ∧ x = i := by
  unfold Fig.bad Fig.badN at h
  simp only [List.mem_map, List.mem_filter, List.mem_range] at h
  obtain ⟨k, ⟨h1, _⟩, e⟩ := h
  exact ⟨k, h1, e.symm⟩
theorem mv_cases (f : Fig) (i : Nat) : (f.mv i = 1 ∧ f.cnt i = (f.rs i).length) ∨ (f.mv i = 2 ∧ f.cnt i = 0) ∨ f.mv i = 3 := by
  unfold Fig.mv
  split
  · rename_i h; exact .inl ⟨rfl, h⟩
  · split
    · rename_i h; exact .inr (.inl ⟨rfl, h⟩)
    · exact .inr (.inr rfl)
theorem mv_1 {f : Fig} {i : Nat} : f.mv i = 1 ↔ ∀ x ∈ f.rs i, f.mb i x = true := by
  rw [← List.filter_eq_self]
  constructor
  · intro h
    rcases mv_cases f i with ⟨_, h1⟩ | ⟨h1, _⟩ | h1
    · exact List.filter_eq_self.2 fun x hx => by
        have : (f.rs i).filter (f.mb i) = f.rs i := (List.filter_sublist).eq_of_length h1
        rw [← this] at hx; exact (List.mem_filter.1 hx).2
    · omega
    · omega
  · intro h
    unfold Fig.mv Fig.cnt
    rw [h, if_pos rfl]
/-- SeamsTrue -/
theorem l3 (f : Fig) (t : List Int) (sm : Int) : FnA Try.prog 3 [.agg f.cells, .isl (t.map iAV), .int .i64 sm] (· = .bool true) := by
  have w := s20
  have l2 : (f.st.map iAV).length = f.st.length := by simp
  have l4 : (f.d.gs.map iAV).length = f.d.gs.length := by simp
  have l5 : (t.map iAV).length = t.length := by simp
  refine fnA 2 ok3 (by simp) ?_
  (conv => whnf); (repeat' ((first | refine bT ?_ | refine bF ?_ | refine bN ?_ | ((first | refine bD ?_ ?_ | refine bEq ?_ ?_ | refine bNe ?_ ?_) <;> intro hh <;> try (exfalso; omega)) | refine wIn (by omega) ?_ | refine nI (by omega) ?_) <;> conv => whnf))
  refine (s17 f).callq rfl rfl (fun r hr => ?_); obtain ⟨b, rfl, hb⟩ := hr
  cases b with
  | true =>
    (conv => whnf); (repeat' ((first | refine bT ?_ | refine bF ?_ | refine bN ?_ | ((first | refine bD ?_ ?_ | refine bEq ?_ ?_ | refine bNe ?_ ?_) <;> intro hh <;> try (exfalso; omega)) | (refine (w).callq rfl rfl fun _ h => ?_; subst h) | refine wIn (by omega) ?_ | refine nI (by omega) ?_) <;> conv => whnf))
    all_goals rfl
  | false =>
    have hs := hb rfl
    have e1 := s18 f hs
    by_cases h0 : f.eF = 0
    case neg =>
      (conv => whnf); (repeat' ((first | refine bT ?_ | refine bF ?_ | refine bN ?_ | ((first | refine bD ?_ ?_ | refine bEq ?_ ?_ | refine bNe ?_ ?_) <;> intro hh <;> try (exfalso; omega)) | (refine (e1).callq rfl rfl fun _ h => ?_; subst h) | (refine (w).callq rfl rfl fun _ h => ?_; subst h) | refine wIn (by omega) ?_ | refine nI (by omega) ?_) <;> conv => whnf))
      all_goals rfl
    rw [h0] at e1
    obtain ⟨hok, hh⟩ := eF_ok h0
    have e2 := k16 f.d t hok.1
    by_cases ht : f.d.isT t
    case neg =>
      rw [decide_eq_false ht] at e2
      (conv => whnf); (repeat' ((first | refine bT ?_ | refine bF ?_ | refine bN ?_ | ((first | refine bD ?_ ?_ | refine bEq ?_ ?_ | refine bNe ?_ ?_) <;> intro hh <;> try (exfalso; omega)) | (refine (e1).callq rfl rfl fun _ h => ?_; subst h) | (refine (e2).callq rfl rfl fun _ h => ?_; subst h) | (refine (w).callq rfl rfl fun _ h => ?_; subst h) | refine wIn (by omega) ?_ | refine nI (by omega) ?_) <;> conv => whnf))
      all_goals rfl
    rw [decide_eq_true ht] at e2
    have hst : f.st.length = f.N := hok.2.2.2.2.1
    by_cases hi : 0 ≤ sm ∧ sm < f.N
    case neg =>
      (conv => whnf); (repeat' ((first | refine bT ?_ | refine bF ?_ | refine bN ?_ | ((first | refine bD ?_ ?_ | refine bEq ?_ ?_ | refine bNe ?_ ?_) <;> intro hh <;> try (exfalso; omega)) | (refine (e1).callq rfl rfl fun _ h => ?_; subst h) | (refine (e2).callq rfl rfl fun _ h => ?_; subst h) | (refine (w).callq rfl rfl fun _ h => ?_; subst h) | refine wIn (by omega) ?_ | refine nI (by omega) ?_) <;> conv => whnf))
      all_goals rfl
    obtain ⟨i, rfl⟩ : ∃ i : Nat, sm = i := ⟨sm.toNat, by omega⟩
    have hiN : i < f.N := by omega
    have hig : i < f.d.gs.length := hiN
    have e3 := s21 f i (by unfold Fig.eM; rw [if_pos hok, if_pos ⟨by omega, by omega⟩, if_pos hh])
    have e4 := s22 f h0
    have hbl : f.bad.length ≤ 1000000 := by have := badN_le f f.d.gs.length; have := hok.1.1.2.1; unfold Fig.bad; omega
    have e5 := s23 f.bad i hbl
    have e5' : FnA Try.prog 23 [.isl (f.bad.map iAV), .int .i64 i] (· = .bool (decide (f.mv i ≠ 1))) := by
      rw [show decide ((i : Int) ∈ f.bad) = decide (f.mv i ≠ 1) from decide_eq_decide.2 (mem_bad hiN)] at e5; exact e5
    have hg := gore_ok hok hig
    have htl := ht.1
    have hgt : f.d.gs[i].toNat < t.length := by omega
    have hcan := ht.2 f.d.gs[i].toNat (by omega) hgt
    have hmem := mem_nums hcan
    have htn := nums_in (hok.1.2 _ (List.getElem_mem (show f.d.gs[i].toNat < f.d.bs.length by omega))) _ hmem
    have e6 := s24 f hok f.st hst (st_x hok) i hiN t[f.d.gs[i].toNat] htn
    rw [mbL_st] at e6
    have hrs : f.leng t[f.d.gs[i].toNat] ∈ f.rs i := by
      obtain ⟨b, hb, h1, h2⟩ := rs_eq hok hig
      have : b = f.d.bs[f.d.gs[i].toNat]'(by omega) := by
        rw [← h1]; simp [List.getD_eq_getElem?_getD, show f.d.gs[i].toNat < f.d.bs.length by omega]
      rw [h2, this]
      exact List.mem_map.2 ⟨_, hmem, rfl⟩
    have g1 := getD_map iAV f.d.gs i hig
    have g2 := getD_map iAV t f.d.gs[i].toNat hgt
    rcases mv_cases f i with ⟨m1, m2⟩ | ⟨m1, m2⟩ | m1
    · have : f.mb i (f.leng t[f.d.gs[i].toNat]) = true := mv_1.1 m1 _ hrs
      rw [this] at e6
      rw [m1] at e3
      rw [m1, show decide ((1 : Int) ≠ 1) = false from rfl] at e5'
      (conv => whnf); (repeat' ((first | refine bT ?_ | refine bF ?_ | refine bN ?_ | ((first | refine bD ?_ ?_ | refine bEq ?_ ?_ | refine bNe ?_ ?_) <;> intro hh <;> try (exfalso; omega)) | (refine (e1).callq rfl rfl fun _ h => ?_; subst h) | (refine (e2).callq rfl rfl fun _ h => ?_; subst h) | (refine (e3).callq rfl rfl fun _ h => ?_; subst h) | (refine (e4).callzq rfl rfl fun _ h => ?_; subst h) | (refine (e5').callq rfl rfl fun _ h => ?_; subst h) | refine wIn (by omega) ?_ | refine nI (by omega) ?_) <;> conv => whnf))
      refine iaI (by omega) (by omega) g1 ?_
      (conv => whnf); (repeat' ((first | refine bT ?_ | refine bF ?_ | refine bN ?_ | ((first | refine bD ?_ ?_ | refine bEq ?_ ?_ | refine bNe ?_ ?_) <;> intro hh <;> try (exfalso; omega)) | refine wIn (by omega) ?_ | refine nI (by omega) ?_) <;> conv => whnf))
      refine iaI (by omega) (by omega) g2 ?_
      (conv => whnf); (repeat' ((first | refine bT ?_ | refine bF ?_ | refine bN ?_ | ((first | refine bD ?_ ?_ | refine bEq ?_ ?_ | refine bNe ?_ ?_) <;> intro hh <;> try (exfalso; omega)) | (refine (e6).callq rfl rfl fun _ h => ?_; subst h) | (refine (w).callq rfl rfl fun _ h => ?_; subst h) | refine wIn (by omega) ?_ | refine nI (by omega) ?_) <;> conv => whnf))
      all_goals rfl
    · have : f.mb i (f.leng t[f.d.gs[i].toNat]) = false := by
        have h1 : (f.rs i).filter (f.mb i) = [] := List.eq_nil_of_length_eq_zero m2
        have := List.filter_eq_nil_iff.1 h1 _ hrs
        simpa using this
      rw [this] at e6
      rw [m1] at e3
      rw [m1, show decide ((2 : Int) ≠ 1) = true from rfl] at e5'
      (conv => whnf); (repeat' ((first | refine bT ?_ | refine bF ?_ | refine bN ?_ | ((first | refine bD ?_ ?_ | refine bEq ?_ ?_ | refine bNe ?_ ?_) <;> intro hh <;> try (exfalso; omega)) | (refine (e1).callq rfl rfl fun _ h => ?_; subst h) | (refine (e2).callq rfl rfl fun _ h => ?_; subst h) | (refine (e3).callq rfl rfl fun _ h => ?_; subst h) | (refine (e4).callzq rfl rfl fun _ h => ?_; subst h) | (refine (e5').callq rfl rfl fun _ h => ?_; subst h) | refine wIn (by omega) ?_ | refine nI (by omega) ?_) <;> conv => whnf))
      refine iaI (by omega) (by omega) g1 ?_
      (conv => whnf); (repeat' ((first | refine bT ?_ | refine bF ?_ | refine bN ?_ | ((first | refine bD ?_ ?_ | refine bEq ?_ ?_ | refine bNe ?_ ?_) <;> intro hh <;> try (exfalso; omega)) | refine wIn (by omega) ?_ | refine nI (by omega) ?_) <;> conv => whnf))
      refine iaI (by omega) (by omega) g2 ?_
      (conv => whnf); (repeat' ((first | refine bT ?_ | refine bF ?_ | refine bN ?_ | ((first | refine bD ?_ ?_ | refine bEq ?_ ?_ | refine bNe ?_ ?_) <;> intro hh <;> try (exfalso; omega)) | (refine (e6).callq rfl rfl fun _ h => ?_; subst h) | (refine (w).callq rfl rfl fun _ h => ?_; subst h) | refine wIn (by omega) ?_ | refine nI (by omega) ?_) <;> conv => whnf))
      all_goals rfl
    · rw [m1] at e3
      rw [m1, show decide ((3 : Int) ≠ 1) = true from rfl] at e5'
      (conv => whnf); (repeat' ((first | refine bT ?_ | refine bF ?_ | refine bN ?_ | ((first | refine bD ?_ ?_ | refine bEq ?_ ?_ | refine bNe ?_ ?_) <;> intro hh <;> try (exfalso; omega)) | (refine (e1).callq rfl rfl fun _ h => ?_; subst h) | (refine (e2).callq rfl rfl fun _ h => ?_; subst h) | (refine (e3).callq rfl rfl fun _ h => ?_; subst h) | (refine (e4).callzq rfl rfl fun _ h => ?_; subst h) | (refine (e5').callq rfl rfl fun _ h => ?_; subst h) | refine wIn (by omega) ?_ | refine nI (by omega) ?_) <;> conv => whnf))
      refine iaI (by omega) (by omega) g1 ?_
      (conv => whnf); (repeat' ((first | refine bT ?_ | refine bF ?_ | refine bN ?_ | ((first | refine bD ?_ ?_ | refine bEq ?_ ?_ | refine bNe ?_ ?_) <;> intro hh <;> try (exfalso; omega)) | refine wIn (by omega) ?_ | refine nI (by omega) ?_) <;> conv => whnf))
      refine iaI (by omega) (by omega) g2 ?_
      (conv => whnf); (repeat' ((first | refine bT ?_ | refine bF ?_ | refine bN ?_ | ((first | refine bD ?_ ?_ | refine bEq ?_ ?_ | refine bNe ?_ ?_) <;> intro hh <;> try (exfalso; omega)) | (refine (e6).callq rfl rfl fun _ h => ?_; subst h) | (refine (w).callq rfl rfl fun _ h => ?_; subst h) | refine wIn (by omega) ?_ | refine nI (by omega) ?_) <;> conv => whnf))
      all_goals rfl
/-- SeamsMeet -/
theorem l10 (f : Fig) (sm : Int) : FnA Try.prog 10 [.agg f.cells, .int .i64 sm] (· = .bool true) := by
  have w := s20
  refine fnA 10 ok10 (by simp) ?_
  conv => whnf
  refine (s17 f).callq rfl rfl (fun r hr => ?_); obtain ⟨b, rfl, hb⟩ := hr
  cases b with
  | true =>
    (conv => whnf); (repeat' ((first | refine bT ?_ | refine bF ?_ | refine bN ?_ | ((first | refine bD ?_ ?_ | refine bEq ?_ ?_ | refine bNe ?_ ?_) <;> intro hh <;> try (exfalso; omega)) | (refine (w).callq rfl rfl fun _ h => ?_; subst h) | refine wIn (by omega) ?_ | refine nI (by omega) ?_) <;> conv => whnf))
    all_goals rfl
  | false =>
    have hs := hb rfl
    have e0 := s28o f hs
    have c1 := s36 f
    have c2 := s32 f hs
    have x1 := s35 f.st f.st (by have := hs.2.1; omega)
    have x2 := s35 f.ti f.ti (by have := hs.2.2; omega)
    have x3 := s35 f.d.gs f.d.gs (by have := hs.1.2.1; omega)
    rw [decide_eq_true rfl] at x1 x2 x3
    have hbl : f.eF = 0 → f.bad.length ≤ 1000000 := fun h0 => by have := badN_le f f.d.gs.length; have := (eF_ok h0).1.1.1.2.1; unfold Fig.bad; omega
    by_cases hm : f.eM sm = 0
    · obtain ⟨i, rfl⟩ : ∃ i : Nat, sm = i := ⟨sm.toNat, by have := (eM_ok hm).2.2.1; omega⟩
      have h0 : f.eF = 0 := by unfold Fig.eF; rw [if_pos (eM_ok hm).1, if_pos (eM_ok hm).2.1]
      have m1 := s21 f i hm
      have m2 := s37 f hs i hm
      have b1 := s22 f h0
      have b2 := s38 f hs h0
      have x4 := s35 f.bad f.bad (hbl h0)
      rw [decide_eq_true rfl] at x4
      (conv => whnf); (repeat' ((first | refine bT ?_ | refine bF ?_ | refine bN ?_ | ((first | refine bD ?_ ?_ | refine bEq ?_ ?_ | refine bNe ?_ ?_) <;> intro hh <;> try (exfalso; omega)) | refine wIn (by omega) ?_ | refine nI (by omega) ?_) <;> conv => whnf))
      refine e0.callzq rfl rfl (fun r rows (hr : r = _ ∧ rows = _) => ?_); obtain ⟨hr1, hr2⟩ := hr; subst hr1; subst hr2; refine ⟨rfl, ?_⟩
      (conv => whnf); (repeat' ((first | refine bT ?_ | refine bF ?_ | refine bN ?_ | ((first | refine bD ?_ ?_ | refine bEq ?_ ?_ | refine bNe ?_ ?_) <;> intro hh <;> try (exfalso; omega)) | (refine (c1).lendq rfl fun _ h => ?_; subst h; refine ⟨rfl, ?_⟩) | (refine (c2).callq rfl rfl fun _ h => ?_; subst h) | (refine (m1).lendq rfl fun _ h => ?_; subst h; refine ⟨rfl, ?_⟩) | (refine (m2).callq rfl rfl fun _ h => ?_; subst h) | (refine (b1).callzq rfl rfl fun _ h => ?_; subst h) | (refine (b2).callzq rfl rfl fun _ h => ?_; subst h) | (refine (x4).callq rfl rfl fun _ h => ?_; subst h) | (refine (x1).lendq rfl fun _ h => ?_; subst h; refine ⟨rfl, ?_⟩) | (refine (x2).lendq rfl fun _ h => ?_; subst h; refine ⟨rfl, ?_⟩) | (refine (x3).lendq rfl fun _ h => ?_; subst h; refine ⟨rfl, ?_⟩) | (refine (w).callq rfl rfl fun _ h => ?_; subst h) | refine wIn (by omega) ?_ | refine nI (by omega) ?_) <;> conv => whnf))
      all_goals rfl
    · have m1 := s21_no f sm hm
      have m2 := s37_no f hs sm hm
      by_cases h0 : f.eF = 0
      · have b1 := s22 f h0
        have b2 := s38 f hs h0
        have x4 := s35 f.bad f.bad (hbl h0)
        rw [decide_eq_true rfl] at x4
        (conv => whnf); (repeat' ((first | refine bT ?_ | refine bF ?_ | refine bN ?_ | ((first | refine bD ?_ ?_ | refine bEq ?_ ?_ | refine bNe ?_ ?_) <;> intro hh <;> try (exfalso; omega)) | refine wIn (by omega) ?_ | refine nI (by omega) ?_) <;> conv => whnf))
        refine e0.callzq rfl rfl (fun r rows (hr : r = _ ∧ rows = _) => ?_); obtain ⟨hr1, hr2⟩ := hr; subst hr1; subst hr2; refine ⟨rfl, ?_⟩
        (conv => whnf); (repeat' ((first | refine bT ?_ | refine bF ?_ | refine bN ?_ | ((first | refine bD ?_ ?_ | refine bEq ?_ ?_ | refine bNe ?_ ?_) <;> intro hh <;> try (exfalso; omega)) | (refine (c1).lendq rfl fun _ h => ?_; subst h; refine ⟨rfl, ?_⟩) | (refine (c2).callq rfl rfl fun _ h => ?_; subst h) | (refine (m1).lendq rfl fun _ h => ?_; subst h; refine ⟨rfl, ?_⟩) | (refine (m2).callq rfl rfl fun _ h => ?_; subst h) | (refine (b1).callzq rfl rfl fun _ h => ?_; subst h) | (refine (b2).callzq rfl rfl fun _ h => ?_; subst h) | (refine (x4).callq rfl rfl fun _ h => ?_; subst h) | (refine (x1).lendq rfl fun _ h => ?_; subst h; refine ⟨rfl, ?_⟩) | (refine (x2).lendq rfl fun _ h => ?_; subst h; refine ⟨rfl, ?_⟩) | (refine (x3).lendq rfl fun _ h => ?_; subst h; refine ⟨rfl, ?_⟩) | (refine (w).callq rfl rfl fun _ h => ?_; subst h) | refine wIn (by omega) ?_ | refine nI (by omega) ?_) <;> conv => whnf))
        all_goals rfl
      · have b1 := s22_no f h0
        have b2 := s38_no f hs h0
        have x4 := s35 [] [] (by simp)
        rw [decide_eq_true rfl] at x4
        (conv => whnf); (repeat' ((first | refine bT ?_ | refine bF ?_ | refine bN ?_ | ((first | refine bD ?_ ?_ | refine bEq ?_ ?_ | refine bNe ?_ ?_) <;> intro hh <;> try (exfalso; omega)) | refine wIn (by omega) ?_ | refine nI (by omega) ?_) <;> conv => whnf))
        refine e0.callzq rfl rfl (fun r rows (hr : r = _ ∧ rows = _) => ?_); obtain ⟨hr1, hr2⟩ := hr; subst hr1; subst hr2; refine ⟨rfl, ?_⟩
        (conv => whnf); (repeat' ((first | refine bT ?_ | refine bF ?_ | refine bN ?_ | ((first | refine bD ?_ ?_ | refine bEq ?_ ?_ | refine bNe ?_ ?_) <;> intro hh <;> try (exfalso; omega)) | (refine (c1).lendq rfl fun _ h => ?_; subst h; refine ⟨rfl, ?_⟩) | (refine (c2).callq rfl rfl fun _ h => ?_; subst h) | (refine (m1).lendq rfl fun _ h => ?_; subst h; refine ⟨rfl, ?_⟩) | (refine (m2).callq rfl rfl fun _ h => ?_; subst h) | (refine (b1).callzq rfl rfl fun _ h => ?_; subst h) | (refine (b2).callzq rfl rfl fun _ h => ?_; subst h) | (refine (x4).callq rfl rfl fun _ h => ?_; subst h) | (refine (x1).lendq rfl fun _ h => ?_; subst h; refine ⟨rfl, ?_⟩) | (refine (x2).lendq rfl fun _ h => ?_; subst h; refine ⟨rfl, ?_⟩) | (refine (x3).lendq rfl fun _ h => ?_; subst h; refine ⟨rfl, ?_⟩) | (refine (w).callq rfl rfl fun _ h => ?_; subst h) | refine wIn (by omega) ?_ | refine nI (by omega) ?_) <;> conv => whnf))
        all_goals rfl
end Go.Proofs
