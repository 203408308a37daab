/- What each function of this program answers, proved by walking its body: the contracts that the law rests on, part 3. -/
import Derived.Test.YtkkpokakjblenaaHFns2
set_option linter.unusedSimpArgs false
set_option linter.unusedVariables false
set_option linter.unusedSectionVars false
namespace Go.Proofs
open Go.Eng
attribute [local irreducible] Go.Eng.brB Go.Eng.need Go.Eng.wrE Go.Eng.iaE Go.Eng.slE Go.Eng.apE Go.Eng.CallZ Go.Eng.CallE Go.Eng.VCallE Go.Eng.YldE Go.Eng.GoC Go.Eng.MeetsE Go.Eng.FnA Go.Eng.FnV Go.Eng.ItA
set_option maxRecDepth 100000
/-- beginnings: each seam surely meets with them -/
def Fig.isB (f : Fig) (near : Int) (l : List Int) : Prop := l.length = f.N ∧ (∀ x ∈ l, 0 ≤ x ∧ x < f.per) ∧ ∀ i, i < f.N → ∃ s ∈ f.stp near i, l.getD ((i + 1) % f.N) 0 = (l.getD i 0 + s).tmod f.per
theorem pth_seq {f : Fig} (hp : 1 ≤ f.per ∧ f.per ≤ 60) {near start : Int} (hs : 0 ≤ start ∧ start < f.per) : ∀ (g : Nat) (w : Way) (x : Int), f.pth near start g w x ↔
    ∃ q : Nat → Int, q 0 = start ∧ q g = x ∧ (∀ i, i < g → ∃ s ∈ f.stp near i, q (i + 1) = (q i + s).tmod f.per) ∧ w.1 = (List.range g).map q ∧ w.2 = w.1.sum
  | 0, w, x => by
    constructor
    · rintro ⟨rfl, rfl⟩
      exact ⟨fun _ => x, rfl, rfl, fun i hi => by omega, rfl, rfl⟩
    · rintro ⟨q, h1, h2, _, h3, h4⟩
      refine ⟨?_, h2.symm.trans h1⟩
      obtain ⟨a, b⟩ := w
      simp only [List.range_zero, List.map_nil] at h3
      subst h3
      simp only [List.sum_nil] at h4
      subst h4; rfl
  | g + 1, w, x => by
    constructor
    · rintro ⟨v, y, h1, ⟨s, h2, h3⟩, h4⟩
      obtain ⟨q, a1, a2, a3, a4, a5⟩ := (pth_seq hp hs g v y).1 h1
      refine ⟨fun i => if i = g + 1 then x else q i, ?_, by simp, fun i hi => ?_, ?_, ?_⟩
      · simp only; rw [if_neg (by omega)]; exact a1
      · simp only
        rw [if_neg (show i ≠ g + 1 by omega)]
        by_cases hig : i = g
        · subst hig
          rw [if_pos rfl]
          exact ⟨s, h2, by rw [h3, a2]⟩
        · rw [if_neg (by omega)]
          exact a3 i (by omega)
      · rw [h4, List.range_succ, List.map_append]
        simp only [List.map_cons, List.map_nil]
        rw [if_neg (by omega), a2, a4]
        congr 1
        apply List.map_congr_left
        intro i hi
        have := List.mem_range.1 hi
        rw [if_neg (by omega)]
      · rw [h4]; simp [a5]
    · rintro ⟨q, a1, a2, a3, a4, a5⟩
      have a4' : w.1 = (List.range g).map q ++ [q g] := by rw [a4, List.range_succ, List.map_append]; rfl
      refine ⟨((List.range g).map q, ((List.range g).map q).sum), q g, (pth_seq hp hs g _ _).2 ⟨q, a1, rfl, fun i hi => a3 i (by omega), rfl, rfl⟩, ?_, ?_⟩
      · obtain ⟨s, h1, h2⟩ := a3 g (by omega)
        exact ⟨s, h1, by rw [← h2]; exact a2.symm⟩
      · obtain ⟨a, b⟩ := w
        simp only at a4' a5
        subst a4'
        rw [a5]; simp
theorem rng_iff {f : Fig} (hok : f.ok) (near : Int) (w : Way) : f.rng near w ↔ w.2 = w.1.sum ∧ f.isB near w.1 := by
  have hp := hok.2.1
  have hN := N_in hok
  constructor
  · rintro ⟨st, hs, h⟩
    obtain ⟨q, a1, a2, a3, a4, a5⟩ := (pth_seq hp hs f.N w st).1 h
    have hq : ∀ i, i ≤ f.N → 0 ≤ q i ∧ q i < f.per := fun i hi => by
      cases i with
      | zero => rw [a1]; exact hs
      | succ i =>
        obtain ⟨s, h1, h2⟩ := a3 i (by omega)
        have b := ((mem_stp (by omega)).1 h1).1
        have : ∀ j, j ≤ i → 0 ≤ q j ∧ q j < f.per := by
          intro j hj
          induction j with
          | zero => rw [a1]; exact hs
          | succ j ih =>
            obtain ⟨s', h1', h2'⟩ := a3 j (by omega)
            have b' := ((mem_stp (by omega)).1 h1').1
            have := ih (by omega)
            obtain ⟨c1, c2, c3⟩ := tmod_in (a := q j + s') (b := f.per) (by omega) hp.1
            omega
        have := this i (Nat.le_refl _)
        obtain ⟨c1, c2, c3⟩ := tmod_in (a := q i + s) (b := f.per) (by omega) hp.1
        omega
    have hg : ∀ i, i < f.N → w.1.getD i 0 = q i := fun i hi => by rw [a4]; simp [List.getD_eq_getElem?_getD, hi]
    refine ⟨a5, by rw [a4]; simp, fun x hx => ?_, fun i hi => ?_⟩
    · rw [a4] at hx
      obtain ⟨i, hi, rfl⟩ := List.mem_map.1 hx
      exact hq i (by have := List.mem_range.1 hi; omega)
    · obtain ⟨s, h1, h2⟩ := a3 i hi
      refine ⟨s, h1, ?_⟩
      rw [hg i hi, ← h2]
      by_cases hl : i + 1 = f.N
      · rw [hl, Nat.mod_self, hg 0 (by omega), a1, a2]
      · rw [Nat.mod_eq_of_lt (by omega), hg (i + 1) (by omega)]
  · rintro ⟨h1, h2, h3, h4⟩
    have h0 : w.1.getD 0 0 ∈ w.1 := by
      rw [List.getD_eq_getElem?_getD, List.getElem?_eq_getElem (by omega)]; exact List.getElem_mem _
    refine ⟨w.1.getD 0 0, h3 _ h0, (pth_seq hp (h3 _ h0) f.N w _).2 ⟨fun i => w.1.getD (i % f.N) 0, by simp, by simp, fun i hi => ?_, ?_, h1⟩⟩
    · obtain ⟨s, k1, k2⟩ := h4 i hi
      exact ⟨s, k1, by simp only [Nat.mod_eq_of_lt hi]; exact k2⟩
    · apply List.ext_getElem (by simp [h2])
      intro n k1 k2
      simp only [List.getElem_map, List.getElem_range]
      rw [Nat.mod_eq_of_lt (by omega)]
      simp [List.getD_eq_getElem?_getD, k1]
theorem sum_nn : ∀ {l : List Int}, (∀ x ∈ l, 0 ≤ x) → 0 ≤ l.sum
  | [], _ => by simp
  | x :: l, h => by
    have h1 := h x (by simp)
    have h2 := sum_nn (l := l) fun y hy => h y (by simp [hy])
    simp only [List.sum_cons]; omega
/-- there are beginnings -/
def Fig.hasB (f : Fig) : Prop := ∃ l, f.isB f.near l
theorem minB (f : Fig) (h : f.hasB) : ∃ l, f.isB f.near l ∧ ∀ l', f.isB f.near l' → l.sum ≤ l'.sum := by
  obtain ⟨l0, h0⟩ := h
  have key : ∀ (n : Nat) (l : List Int), f.isB f.near l → l.sum.toNat ≤ n → 0 ≤ l.sum → ∃ l, f.isB f.near l ∧ ∀ l', f.isB f.near l' → l.sum ≤ l'.sum := by
    intro n
    induction n with
    | zero =>
      intro l hl h1 h2
      refine ⟨l, hl, fun l' hl' => ?_⟩
      have : 0 ≤ l'.sum := sum_nn fun x hx => (hl'.2.1 x hx).1
      omega
    | succ n ih =>
      intro l hl h1 h2
      by_cases hex : ∃ l', f.isB f.near l' ∧ l'.sum < l.sum
      · obtain ⟨l', k1, k2⟩ := hex
        have : 0 ≤ l'.sum := sum_nn fun x hx => (k1.2.1 x hx).1
        exact ih l' k1 (by omega) this
      · exact ⟨l, hl, fun l' hl' => by
          by_cases hq : l.sum ≤ l'.sum
          · exact hq
          · exact absurd ⟨l', hl', by omega⟩ hex⟩
  exact key l0.sum.toNat l0 h0 (Nat.le_refl _) (sum_nn fun x hx => (h0.2.1 x hx).1)
open Classical in
/-- the least waste, and whether there is one -/
noncomputable def Fig.lw (f : Fig) : Int := if h : f.hasB then (minB f h).choose.sum else 0
open Classical in
noncomputable def Fig.lE (f : Fig) : Int := if f.hasB then 0 else 3
theorem lw_spec {f : Fig} (h : f.hasB) : f.lE = 0 ∧ (∃ l, f.isB f.near l ∧ l.sum = f.lw) ∧ ∀ l, f.isB f.near l → f.lw ≤ l.sum := by
  have hc := (minB f h).choose_spec
  have e : f.lw = (minB f h).choose.sum := by unfold Fig.lw; rw [dif_pos h]
  refine ⟨by unfold Fig.lE; rw [if_pos h], ⟨_, hc.1, e.symm⟩, fun l hl => by rw [e]; exact hc.2 l hl⟩
theorem lw_no {f : Fig} (h : ¬ f.hasB) : f.lE = 3 ∧ f.lw = 0 := ⟨by unfold Fig.lE; rw [if_neg h], by unfold Fig.lw; rw [dif_neg h]⟩
theorem lw_eq {f : Fig} {l : List Int} (h1 : f.isB f.near l) (h2 : ∀ l', f.isB f.near l' → l.sum ≤ l'.sum) : f.lE = 0 ∧ f.lw = l.sum := by
  have hs := lw_spec ⟨l, h1⟩
  obtain ⟨l', h3, h4⟩ := hs.2.1
  exact ⟨hs.1, by have := hs.2.2 l h1; have := h2 l' h3; omega⟩
def begS (f : Fig) (r : AV) : Prop := ∃ l, r = .tup [.isl (l.map iAV), .int .i64 f.lE] ∧ (f.hasB → f.isB f.near l ∧ l.sum = f.lw) ∧ (¬ f.hasB → l = [])
theorem s42 (f : Fig) (h : f.eF = 0) : FnA Try.prog 42 [.agg f.cells] (begS f) := by
  have hok := (eF_ok h).1
  have e1 := s61 f h
  have e2 := s76 f hok
  refine fnA 10 ok42 (by simp) ?_
  (conv => whnf); (repeat' ((first | refine bT ?_ | refine bF ?_ | refine bN ?_ | ((first | refine bD ?_ ?_ | refine bEq ?_ ?_ | refine bNe ?_ ?_) <;> intro hh <;> try (exfalso; omega)) | (refine (e1).callzq rfl rfl fun _ h => ?_; subst h) | refine wIn (by omega) ?_ | refine nI (by omega) ?_) <;> conv => whnf))
  refine e2.callzq rfl rfl (fun r hr => ?_)
  rcases hr with ⟨w, rfl, h1, h2⟩ | ⟨rfl, h2⟩
  · have hb := (rng_iff hok f.near w).1 h1
    have he := lw_eq hb.2 fun l' hl' => by
      have := h2 (l', l'.sum) ((rng_iff hok f.near _).2 ⟨rfl, hl'⟩)
      omega
    (conv => whnf); (repeat' ((first | refine bT ?_ | refine bF ?_ | refine bN ?_ | ((first | refine bD ?_ ?_ | refine bEq ?_ ?_ | refine bNe ?_ ?_) <;> intro hh <;> try (exfalso; omega)) | refine wIn (by omega) ?_ | refine nI (by omega) ?_) <;> conv => whnf))
    all_goals exact ⟨w.1, by rw [he.1], fun _ => ⟨hb.2, he.2.symm⟩, fun hn => absurd ⟨w.1, hb.2⟩ hn⟩
  · have hn : ¬ f.hasB := fun ⟨l, hl⟩ => h2 (l, l.sum) ((rng_iff hok f.near _).2 ⟨rfl, hl⟩)
    (conv => whnf); (repeat' ((first | refine bT ?_ | refine bF ?_ | refine bN ?_ | ((first | refine bD ?_ ?_ | refine bEq ?_ ?_ | refine bNe ?_ ?_) <;> intro hh <;> try (exfalso; omega)) | refine wIn (by omega) ?_ | refine nI (by omega) ?_) <;> conv => whnf))
    all_goals exact ⟨[], by rw [(lw_no hn).1]; rfl, fun h => absurd h hn, fun _ => rfl⟩
theorem sum_in2 {l : List Int} {a b : Int} (h : ∀ x ∈ l, a ≤ x ∧ x ≤ b) : l.length * a ≤ l.sum ∧ l.sum ≤ l.length * b := by
  induction l with
  | nil => simp
  | cons x l ih =>
    have h1 := h x (by simp)
    have h2 := ih fun y hy => h y (by simp [hy])
    simp only [List.length_cons, List.sum_cons]
    push_cast
    rw [Int.add_mul, Int.add_mul]
    omega
theorem s26 (f : Fig) (h : f.eF = 0) : FnA Try.prog 26 [.agg f.cells] (· = .tup [.int .i64 f.lw, .int .i64 f.lE]) := by
  have hok := (eF_ok h).1
  have hp := hok.2.1
  have hN := N_in hok
  have e1 := s42 f h
  refine fnA 2 ok26 (by simp) ?_
  (conv => whnf); (repeat' ((first | refine bT ?_ | refine bF ?_ | refine bN ?_ | ((first | refine bD ?_ ?_ | refine bEq ?_ ?_ | refine bNe ?_ ?_) <;> intro hh <;> try (exfalso; omega)) | refine wIn (by omega) ?_ | refine nI (by omega) ?_) <;> conv => whnf))
  refine e1.callzq rfl rfl (fun r hr => ?_); obtain ⟨l, rfl, h1, h2⟩ := hr
  have hl : l.length ≤ 16 ∧ (∀ x ∈ l, 0 ≤ x ∧ x ≤ 60) ∧ l.sum = f.lw := by
    by_cases hb : f.hasB
    · obtain ⟨h3, h4⟩ := h1 hb
      exact ⟨by have := h3.1; omega, fun x hx => (by have := h3.2.1 x hx; omega), h4⟩
    · have := h2 hb
      subst this
      exact ⟨by simp, by simp, by rw [(lw_no hb).2]; rfl⟩
  obtain ⟨hl1, hl2, hl3⟩ := hl
  have ll : (l.map iAV).length = l.length := by simp
  (conv => whnf); (repeat' ((first | refine bT ?_ | refine bF ?_ | refine bN ?_ | ((first | refine bD ?_ ?_ | refine bEq ?_ ?_ | refine bNe ?_ ?_) <;> intro hh <;> try (exfalso; omega)) | refine wIn (by omega) ?_ | refine nI (by omega) ?_) <;> conv => whnf))
  refine loop_i (α := Nat) (fun k => [(16, .int .i64 k), (15, .int .i64 ↑(l.map iAV).length), (14, .isl (l.map iAV)), (6, .int .i64 (l.take k).sum), (5, .int .i64 f.lE)]) (fun k => [.fresh, .fresh]) (fun k => k ≤ l.length) (fun k => l.length - k) 0 (meets_id (by (repeat' apply And.intro) <;> first | rfl | exact True.intro | (intro hh; cases hh))) (by omega) ?_
  intro k hk0
  conv => whnf
  refine bD (fun h4 => ?_) (fun h4 => ?_)
  · have hk : k < l.length := by omega
    have hx := hl2 _ (List.getElem_mem hk)
    have hs := sum_in2 (l := l.take k) (a := 0) (b := 60) fun x hx => hl2 x (List.mem_of_mem_take hx)
    have hlt : (l.take k).length ≤ 16 := by rw [List.length_take]; omega
    have hss := sum_succ hk
    conv => whnf
    refine iaI (by omega) (by omega) (getD_map iAV l k hk) ?_
    (conv => whnf); (repeat' ((first | refine bT ?_ | refine bF ?_ | refine bN ?_ | ((first | refine bD ?_ ?_ | refine bEq ?_ ?_ | refine bNe ?_ ?_) <;> intro hh <;> try (exfalso; omega)) | refine wIn (by omega) ?_ | refine nI (by omega) ?_) <;> conv => whnf))
    refine ⟨k + 1, ?_, by omega, by omega⟩
    rw [hss]
    exact (meets_id (by (repeat' apply And.intro) <;> first | rfl | exact True.intro | (intro hh; cases hh)))
  · have : k = l.length := by omega
    subst this
    rw [List.take_length, hl3]
    (conv => whnf); (repeat' ((first | refine bT ?_ | refine bF ?_ | refine bN ?_ | ((first | refine bD ?_ ?_ | refine bEq ?_ ?_ | refine bNe ?_ ?_) <;> intro hh <;> try (exfalso; omega)) | refine wIn (by omega) ?_ | refine nI (by omega) ?_) <;> conv => whnf))
    all_goals rfl
theorem s35 (a b : List Int) (ha : a.length ≤ 1000000) : FnA Try.prog 35 [.isl (a.map iAV), .isl (b.map iAV)] (· = .bool (decide (a = b))) := by
  have l1 : (a.map iAV).length = a.length := by simp
  have l2 : (b.map iAV).length = b.length := by simp
  refine fnA 0 ok35 (by simp) ?_
  by_cases hl : a.length = b.length
  case neg =>
    rw [decide_eq_false fun h : a = b => hl (by rw [h])]
    (conv => whnf); (repeat' ((first | refine bT ?_ | refine bF ?_ | refine bN ?_ | ((first | refine bD ?_ ?_ | refine bEq ?_ ?_ | refine bNe ?_ ?_) <;> intro hh <;> try (exfalso; omega)) | refine wIn (by omega) ?_ | refine nI (by omega) ?_) <;> conv => whnf))
    all_goals rfl
  (conv => whnf); (repeat' ((first | refine bT ?_ | refine bF ?_ | refine bN ?_ | ((first | refine bD ?_ ?_ | refine bEq ?_ ?_ | refine bNe ?_ ?_) <;> intro hh <;> try (exfalso; omega)) | refine wIn (by omega) ?_ | refine nI (by omega) ?_) <;> conv => whnf))
  refine loop_i (α := Nat) (fun k => [(5, .int .i64 k), (1, .isl (b.map iAV)), (0, .isl (a.map iAV))]) (fun k => []) (fun k => k ≤ a.length ∧ a.take k = b.take k) (fun k => a.length - k) 0 (meets_id (by (repeat' apply And.intro) <;> first | rfl | exact True.intro | (intro hh; cases hh))) ⟨by omega, by simp⟩ ?_
  rintro k ⟨hk0, hin⟩
  conv => whnf
  refine bD (fun h4 => ?_) (fun h4 => ?_)
  · have hk : k < a.length := by omega
    have hkb : k < b.length := by omega
    conv => whnf
    refine iaI (by omega) (by omega) (getD_map iAV a k hk) ?_
    (conv => whnf); (repeat' ((first | refine bT ?_ | refine bF ?_ | refine bN ?_ | ((first | refine bD ?_ ?_ | refine bEq ?_ ?_ | refine bNe ?_ ?_) <;> intro hh <;> try (exfalso; omega)) | refine wIn (by omega) ?_ | refine nI (by omega) ?_) <;> conv => whnf))
    refine iaI (by omega) (by omega) (getD_map iAV b k hkb) ?_
    by_cases he : a[k] = b[k]
    · (conv => whnf); (repeat' ((first | refine bT ?_ | refine bF ?_ | refine bN ?_ | ((first | refine bD ?_ ?_ | refine bEq ?_ ?_ | refine bNe ?_ ?_) <;> intro hh <;> try (exfalso; omega)) | refine wIn (by omega) ?_ | refine nI (by omega) ?_) <;> conv => whnf))
      refine ⟨k + 1, (meets_id (by (repeat' apply And.intro) <;> first | rfl | exact True.intro | (intro hh; cases hh))), ⟨by omega, ?_⟩, by omega⟩
      rw [List.take_succ_eq_append_getElem hk, List.take_succ_eq_append_getElem hkb, hin, he]
    · rw [decide_eq_false fun h : a = b => he (by subst h; rfl)]
      (conv => whnf); (repeat' ((first | refine bT ?_ | refine bF ?_ | refine bN ?_ | ((first | refine bD ?_ ?_ | refine bEq ?_ ?_ | refine bNe ?_ ?_) <;> intro hh <;> try (exfalso; omega)) | refine wIn (by omega) ?_ | refine nI (by omega) ?_) <;> conv => whnf))
      all_goals rfl
  · have : k = a.length := by omega
    rw [this, List.take_length, List.take_of_length_le (by omega)] at hin
    rw [decide_eq_true hin]
    (conv => whnf); (repeat' ((first | refine bT ?_ | refine bF ?_ | refine bN ?_ | ((first | refine bD ?_ ?_ | refine bEq ?_ ?_ | refine bNe ?_ ?_) <;> intro hh <;> try (exfalso; omega)) | refine wIn (by omega) ?_ | refine nI (by omega) ?_) <;> conv => whnf))
    all_goals rfl
def exD : Dome := ⟨[⟨0, 20, [⟨1000, 1005, 1010⟩], 0⟩, ⟨0, 10, [], 0⟩], [0, 0, 1, 1], 5, [(400, 404), (600, 650), (803, 806)], [110, 165, 210], 50⟩
def exF : Fig := ⟨exD, 12, 100, 1, [0, 3, 8, 0], [5, 3, 8, 2]⟩
def exG : Fig := ⟨exD, 12, 100, 2, [0, 3, 8, 0], [5, 3, 8, 2]⟩
theorem s78 : FnO Try.prog 78 [] (fun r rows => r = .agg [.row 2, .row 3, .int .i64 5, .row 4, .row 5, .int .i64 50] ∧ rows = [(2, .row false 55 4 (exD.bs.map Bolt.av)), (3, .row false 3 1 (exD.gs.map iAV)), (4, .row false 50 2 (exD.rs.map pairAV)), (5, .row false 3 1 (exD.ws.map iAV))]) := by
  refine fnO 6 ok78 (by simp) ?_
  (conv => whnf); (repeat' ((first | refine bT ?_ | refine bF ?_ | refine bN ?_ | ((first | refine bD ?_ ?_ | refine bEq ?_ ?_ | refine bNe ?_ ?_) <;> intro hh <;> try (exfalso; omega)) | refine wIn (by omega) ?_ | refine nI (by omega) ?_) <;> conv => whnf))
  all_goals exact ⟨rfl, rfl⟩
theorem s57 : FnO Try.prog 57 [] (fun r rows => r = .agg [.row 1, .row 2, .int .i64 5, .row 3, .row 4, .int .i64 50, .int .i64 12, .int .i64 100, .int .i64 1, .row 5, .row 6] ∧ rows = [(1, .row false 55 4 (exD.bs.map Bolt.av)), (2, .row false 3 1 (exD.gs.map iAV)), (3, .row false 50 2 (exD.rs.map pairAV)), (4, .row false 3 1 (exD.ws.map iAV)), (5, .row false 3 1 (exF.st.map iAV)), (6, .row false 3 1 (exF.ti.map iAV))]) := by
  refine fnO 7 ok57 (by simp) ?_
  conv => whnf
  refine s78.callzq rfl rfl (fun r rows (hr : r = _ ∧ rows = _) => ?_); obtain ⟨hr1, hr2⟩ := hr; subst hr1; subst hr2; refine ⟨rfl, ?_⟩
  (conv => whnf); (repeat' ((first | refine bT ?_ | refine bF ?_ | refine bN ?_ | ((first | refine bD ?_ ?_ | refine bEq ?_ ?_ | refine bNe ?_ ?_) <;> intro hh <;> try (exfalso; omega)) | refine wIn (by omega) ?_ | refine nI (by omega) ?_) <;> conv => whnf))
  all_goals exact ⟨rfl, rfl⟩
theorem exD_ok : exD.ok := by
  constructor
  · unfold Dome.ok1; decide
  · unfold Dome.okB; decide
theorem exD_has : exD.has = true := by kernel_rfl
theorem exF_ok : exF.ok := ⟨exD_ok, by unfold Fig.okF; decide⟩
theorem exG_ok : exG.ok := ⟨exD_ok, by unfold Fig.okF; decide⟩
theorem exF_eF : exF.eF = 0 := by unfold Fig.eF; rw [if_pos exF_ok, show exF.d.has = true from exD_has]; rfl
theorem exG_eF : exG.eF = 0 := by unfold Fig.eF; rw [if_pos exG_ok, show exG.d.has = true from exD_has]; rfl
theorem exF_bad : exF.bad = [0, 3] := by kernel_rfl
theorem exF_clst : exF.clst = 2 := by kernel_rfl
theorem exF_snd : exF.snd = 13 := by kernel_rfl
/-- all ways from a start -/
def Fig.allP (f : Fig) (near start : Int) : Nat → List (Way × Int)
  | 0 => [(([], 0), start)]
  | g + 1 => (f.allP near start g).flatMap fun p => (f.stp near g).map fun s => ((p.1.1 ++ [p.2], p.1.2 + p.2), (p.2 + s).tmod f.per)
theorem mem_allP {f : Fig} {near start : Int} : ∀ {g : Nat} {w : Way} {x : Int}, (w, x) ∈ f.allP near start g ↔ f.pth near start g w x
  | 0, w, x => by simp [Fig.allP, Fig.pth]
  | g + 1, w, x => by
    simp only [Fig.allP, List.mem_flatMap, List.mem_map, Fig.pth]
    constructor
    · rintro ⟨⟨v, y⟩, h1, s, h2, h3⟩
      simp only [Prod.mk.injEq] at h3
      exact ⟨v, y, mem_allP.1 h1, ⟨s, h2, h3.2.symm⟩, h3.1.symm⟩
    · rintro ⟨v, y, h1, ⟨s, h2, h3⟩, h4⟩
      exact ⟨(v, y), mem_allP.2 h1, s, h2, by rw [h3, h4]⟩
theorem exG_min : ((List.range 12).all fun st => (exG.allP 2 st 4).all fun p => decide (p.2 = st → 12 ≤ p.1.2)) = true := by kernel_rfl
theorem exG_one : ((List.range 12).any fun st => (exG.allP 2 st 4).any fun p => decide (p.2 = st ∧ p.1.2 = 12)) = true := by kernel_rfl
theorem exG_lw : exG.lE = 0 ∧ exG.lw = 12 := by
  obtain ⟨st, h1, h2⟩ := List.any_eq_true.1 exG_one
  obtain ⟨⟨w, x⟩, h3, h4⟩ := List.any_eq_true.1 h2
  simp only [decide_eq_true_eq] at h4
  have hst := List.mem_range.1 h1
  have hr : exG.rng 2 w := ⟨st, ⟨by omega, by show (st : Int) < 12; omega⟩, by rw [← h4.1]; rw [← h4.1] at h3; exact mem_allP.1 h3⟩
  have hb := (rng_iff exG_ok 2 w).1 hr
  have := lw_eq (f := exG) (l := w.1) hb.2 fun l' hl' => by
    obtain ⟨st', k1, k2⟩ := (rng_iff exG_ok 2 (l', l'.sum)).2 ⟨rfl, hl'⟩
    have k1' : 0 ≤ st' ∧ st' < 12 := k1
    have h5 := List.all_eq_true.1 exG_min st'.toNat (List.mem_range.2 (by omega))
    have e : ((st'.toNat : Nat) : Int) = st' := by omega
    rw [e] at h5
    have h6 := List.all_eq_true.1 h5 _ (mem_allP.2 k2)
    simp only [decide_eq_true_eq] at h6
    have := h6 trivial
    rw [← hb.1, h4.2]; exact this
  exact ⟨this.1, by rw [this.2, ← hb.1]; exact h4.2⟩
theorem s20 : FnA Try.prog 20 [] (· = .bool true) := by
  have e1 := s22 exF exF_eF
  rw [exF_bad] at e1
  have e2 := s29 exF exF_eF
  rw [exF_clst] at e2
  have e3 := s31 exF exF_ok
  rw [exF_snd] at e3
  have e4 := s26 exG exG_eF
  rw [exG_lw.1, exG_lw.2] at e4
  have e5 := s35 [0, 3] [0, 3] (by decide)
  rw [decide_eq_true rfl] at e5
  refine fnA 9 ok20 (by simp) ?_
  conv => whnf
  refine s57.callzq rfl rfl (fun r rows (hr : r = _ ∧ rows = _) => ?_); obtain ⟨hr1, hr2⟩ := hr; subst hr1; subst hr2; refine ⟨rfl, ?_⟩
  (conv => whnf); (repeat' ((first | refine bT ?_ | refine bF ?_ | refine bN ?_ | ((first | refine bD ?_ ?_ | refine bEq ?_ ?_ | refine bNe ?_ ?_) <;> intro hh <;> try (exfalso; omega)) | (refine (e1).callzq rfl rfl fun _ h => ?_; subst h) | (refine (e2).lendq rfl fun _ h => ?_; subst h; refine ⟨rfl, ?_⟩) | (refine (e3).lendq rfl fun _ h => ?_; subst h; refine ⟨rfl, ?_⟩) | (refine (e4).lendq rfl fun _ h => ?_; subst h; refine ⟨rfl, ?_⟩) | (refine (e5).lendq rfl fun _ h => ?_; subst h; refine ⟨rfl, ?_⟩) | refine wIn (by omega) ?_ | refine nI (by omega) ?_) <;> conv => whnf))
  all_goals rfl
theorem s64 (l : List Int) (hl : l.length ≤ 1000000) (many lo hi : Int) : FnA Try.prog 64 [.isl (l.map iAV), .int .i64 many, .int .i64 lo, .int .i64 hi] (· = .bool (decide ((∀ x ∈ l, lo ≤ x ∧ x ≤ hi) ∧ (l.length : Int) = many))) := by
  have l1 : (l.map iAV).length = l.length := by simp
  refine fnA 0 ok64 (by simp) ?_
  (conv => whnf); (repeat' ((first | refine bT ?_ | refine bF ?_ | refine bN ?_ | ((first | refine bD ?_ ?_ | refine bEq ?_ ?_ | refine bNe ?_ ?_) <;> intro hh <;> try (exfalso; omega)) | refine wIn (by omega) ?_ | refine nI (by omega) ?_) <;> conv => whnf))
  refine loop_i (α := Nat) (fun k => [(9, .int .i64 k), (3, .int .i64 hi), (2, .int .i64 lo), (1, .int .i64 many), (0, .isl (l.map iAV))]) (fun k => []) (fun k => k ≤ l.length ∧ ∀ x ∈ l.take k, lo ≤ x ∧ x ≤ hi) (fun k => l.length - k) 0 (meets_id (by (repeat' apply And.intro) <;> first | rfl | exact True.intro | (intro hh; cases hh))) ⟨by omega, by simp⟩ ?_
  rintro k ⟨hk0, hin⟩
  conv => whnf
  refine bD (fun h4 => ?_) (fun h4 => ?_)
  · have hk : k < l.length := by omega
    by_cases hx : lo ≤ l[k] ∧ l[k] ≤ hi
    · (conv => whnf); (repeat' ((first | refine bT ?_ | refine bF ?_ | refine bN ?_ | ((first | refine bD ?_ ?_ | refine bEq ?_ ?_ | refine bNe ?_ ?_) <;> intro hh <;> try (exfalso; omega)) | (refine iaI (by omega) (by omega) (getD_map iAV l k hk) ?_) | refine wIn (by omega) ?_ | refine nI (by omega) ?_) <;> conv => whnf))
      exact ⟨k + 1, (meets_id (by (repeat' apply And.intro) <;> first | rfl | exact True.intro | (intro hh; cases hh))), ⟨by omega, all_take hk hin hx⟩, by omega⟩
    · rw [decide_eq_false fun h : (∀ x ∈ l, lo ≤ x ∧ x ≤ hi) ∧ (l.length : Int) = many => hx (h.1 _ (List.getElem_mem hk))]
      (conv => whnf); (repeat' ((first | refine bT ?_ | refine bF ?_ | refine bN ?_ | ((first | refine bD ?_ ?_ | refine bEq ?_ ?_ | refine bNe ?_ ?_) <;> intro hh <;> try (exfalso; omega)) | (refine iaI (by omega) (by omega) (getD_map iAV l k hk) ?_) | refine wIn (by omega) ?_ | refine nI (by omega) ?_) <;> conv => whnf))
      all_goals rfl
  · have : k = l.length := by omega
    subst this
    rw [List.take_length] at hin
    have e : decide ((∀ x ∈ l, lo ≤ x ∧ x ≤ hi) ∧ (l.length : Int) = many) = decide ((l.length : Int) = many) := decide_eq_decide.2 ⟨fun h => h.2, fun h => ⟨hin, h⟩⟩
    rw [e, ← l1]
    (conv => whnf); (repeat' ((first | refine bT ?_ | refine bF ?_ | refine bN ?_ | ((first | refine bD ?_ ?_ | refine bEq ?_ ?_ | refine bNe ?_ ?_) <;> intro hh <;> try (exfalso; omega)) | refine wIn (by omega) ?_ | refine nI (by omega) ?_) <;> conv => whnf))
    all_goals first | rfl | exact congrArg AV.bool (decide_eq_true (by omega)).symm | exact congrArg AV.bool (decide_eq_false (by omega)).symm
def Fig.small (f : Fig) : Prop := f.d.small ∧ f.st.length ≤ 60 ∧ f.ti.length ≤ 60
theorem s17 (f : Fig) : FnA Try.prog 17 [.agg f.cells] (fun r => ∃ b : Bool, r = .bool b ∧ (b = false → f.small)) := by
  have l2 : (f.st.map iAV).length = f.st.length := by simp
  have l3 : (f.ti.map iAV).length = f.ti.length := by simp
  refine fnA 1 ok17 (by simp) ?_
  (conv => whnf); (repeat' ((first | refine bT ?_ | refine bF ?_ | refine bN ?_ | ((first | refine bD ?_ ?_ | refine bEq ?_ ?_ | refine bNe ?_ ?_) <;> intro hh <;> try (exfalso; omega)) | refine wIn (by omega) ?_ | refine nI (by omega) ?_) <;> conv => whnf))
  refine (k33 f.d).callq rfl rfl (fun r hr => ?_); obtain ⟨b, rfl, hb⟩ := hr
  cases b with
  | true =>
    (conv => whnf); (repeat' ((first | refine bT ?_ | refine bF ?_ | refine bN ?_ | ((first | refine bD ?_ ?_ | refine bEq ?_ ?_ | refine bNe ?_ ?_) <;> intro hh <;> try (exfalso; omega)) | refine wIn (by omega) ?_ | refine nI (by omega) ?_) <;> conv => whnf))
    all_goals exact ⟨_, rfl, fun h => by cases h⟩
  | false =>
    by_cases c1 : f.st.length ≤ 60
    · by_cases c2 : f.ti.length ≤ 60
      · (conv => whnf); (repeat' ((first | refine bT ?_ | refine bF ?_ | refine bN ?_ | ((first | refine bD ?_ ?_ | refine bEq ?_ ?_ | refine bNe ?_ ?_) <;> intro hh <;> try (exfalso; omega)) | refine wIn (by omega) ?_ | refine nI (by omega) ?_) <;> conv => whnf))
        all_goals exact ⟨_, rfl, fun _ => ⟨hb rfl, c1, c2⟩⟩
      · (conv => whnf); (repeat' ((first | refine bT ?_ | refine bF ?_ | refine bN ?_ | ((first | refine bD ?_ ?_ | refine bEq ?_ ?_ | refine bNe ?_ ?_) <;> intro hh <;> try (exfalso; omega)) | refine wIn (by omega) ?_ | refine nI (by omega) ?_) <;> conv => whnf))
        all_goals exact ⟨_, rfl, fun h => by simp at h; omega⟩
    · (conv => whnf); (repeat' ((first | refine bT ?_ | refine bF ?_ | refine bN ?_ | ((first | refine bD ?_ ?_ | refine bEq ?_ ?_ | refine bNe ?_ ?_) <;> intro hh <;> try (exfalso; omega)) | refine wIn (by omega) ?_ | refine nI (by omega) ?_) <;> conv => whnf))
      all_goals exact ⟨_, rfl, fun h => by first | cases h | (simp at h; omega)⟩
theorem s32 (f : Fig) (hs : f.small) : FnA Try.prog 32 [.agg f.cells] (· = .int .i64 f.chk) := by
  have e0 := k28 f.d
  have l1 : (f.d.gs.map iAV).length = f.d.gs.length := by simp
  by_cases hd : f.d.ok
  case neg =>
    have h0 := chk_pos hd
    have : f.chk = f.d.chk := by unfold Fig.chk; rw [if_neg hd]
    rw [this]
    refine fnA 1 ok32 (by simp) ?_
    (conv => whnf); (repeat' ((first | refine bT ?_ | refine bF ?_ | refine bN ?_ | ((first | refine bD ?_ ?_ | refine bEq ?_ ?_ | refine bNe ?_ ?_) <;> intro hh <;> try (exfalso; omega)) | (refine (e0).callq rfl rfl fun _ h => ?_; subst h) | refine wIn (by omega) ?_ | refine nI (by omega) ?_) <;> conv => whnf))
    all_goals rfl
  rw [chk_ok hd] at e0
  have hF : f.chk = if f.okF then 0 else 40 := by unfold Fig.chk; rw [if_pos hd]
  have hh : f.okF ↔ ((1 ≤ f.per ∧ f.per ≤ 60) ∧ (0 ≤ f.run ∧ f.run ≤ 2000) ∧ (0 ≤ f.near ∧ f.near ≤ f.per.tdiv 2) ∧ ((∀ x ∈ f.st, 0 ≤ x ∧ x ≤ f.per - 1) ∧ (f.st.length : Int) = ↑(f.d.gs.map iAV).length) ∧ ((∀ x ∈ f.ti, 1 ≤ x ∧ x ≤ 99) ∧ (f.ti.length : Int) = ↑(f.d.gs.map iAV).length)) := by
    rw [l1]
    constructor
    · rintro ⟨h1, h2, h3, h4, h5, h6, h7⟩
      exact ⟨h1, h2, h3, ⟨h5, by omega⟩, h7, by omega⟩
    · rintro ⟨h1, h2, h3, ⟨h4, h5⟩, h6, h7⟩
      exact ⟨h1, h2, h3, by omega, h4, by omega, h6⟩
  have e1 := s64 f.st (by have := hs.2.1; omega) ↑(f.d.gs.map iAV).length 0 (f.per - 1)
  have e2 := s64 f.ti (by have := hs.2.2; omega) ↑(f.d.gs.map iAV).length 1 99
  rw [hF]
  by_cases c1 : 1 ≤ f.per ∧ f.per ≤ 60
  case neg =>
    rw [if_neg fun h => c1 h.1]
    refine fnA 1 ok32 (by simp) ?_
    (conv => whnf); (repeat' ((first | refine bT ?_ | refine bF ?_ | refine bN ?_ | ((first | refine bD ?_ ?_ | refine bEq ?_ ?_ | refine bNe ?_ ?_) <;> intro hh <;> try (exfalso; omega)) | (refine (e0).callq rfl rfl fun _ h => ?_; subst h) | refine wIn (by omega) ?_ | refine nI (by omega) ?_) <;> conv => whnf))
    all_goals rfl
  have hq : 0 ≤ f.per.tdiv 2 ∧ f.per.tdiv 2 ≤ 60 := by rw [Int.tdiv_eq_ediv_of_nonneg (by omega)]; omega
  by_cases c2 : (0 ≤ f.run ∧ f.run ≤ 2000) ∧ (0 ≤ f.near ∧ f.near ≤ f.per.tdiv 2)
  case neg =>
    rw [if_neg fun h => c2 ⟨h.2.1, h.2.2.1⟩]
    refine fnA 1 ok32 (by simp) ?_
    (conv => whnf); (repeat' ((first | refine bT ?_ | refine bF ?_ | refine bN ?_ | ((first | refine bD ?_ ?_ | refine bEq ?_ ?_ | refine bNe ?_ ?_) <;> intro hh <;> try (exfalso; omega)) | (refine (e0).callq rfl rfl fun _ h => ?_; subst h) | refine wIn (by omega) ?_ | refine nI (by omega) ?_) <;> conv => whnf))
    all_goals rfl
  by_cases c3 : (∀ x ∈ f.st, 0 ≤ x ∧ x ≤ f.per - 1) ∧ (f.st.length : Int) = ↑(f.d.gs.map iAV).length
  case neg =>
    rw [if_neg fun h => c3 (hh.1 h).2.2.2.1]
    rw [decide_eq_false c3] at e1
    refine fnA 1 ok32 (by simp) ?_
    (conv => whnf); (repeat' ((first | refine bT ?_ | refine bF ?_ | refine bN ?_ | ((first | refine bD ?_ ?_ | refine bEq ?_ ?_ | refine bNe ?_ ?_) <;> intro hh <;> try (exfalso; omega)) | (refine (e0).callq rfl rfl fun _ h => ?_; subst h) | (refine (e1).callq rfl rfl fun _ h => ?_; subst h) | refine wIn (by omega) ?_ | refine nI (by omega) ?_) <;> conv => whnf))
    all_goals rfl
  rw [decide_eq_true c3] at e1
  by_cases c4 : (∀ x ∈ f.ti, 1 ≤ x ∧ x ≤ 99) ∧ (f.ti.length : Int) = ↑(f.d.gs.map iAV).length
  case neg =>
    rw [if_neg fun h => c4 (hh.1 h).2.2.2.2]
    rw [decide_eq_false c4] at e2
    refine fnA 1 ok32 (by simp) ?_
    (conv => whnf); (repeat' ((first | refine bT ?_ | refine bF ?_ | refine bN ?_ | ((first | refine bD ?_ ?_ | refine bEq ?_ ?_ | refine bNe ?_ ?_) <;> intro hh <;> try (exfalso; omega)) | (refine (e0).callq rfl rfl fun _ h => ?_; subst h) | (refine (e1).callq rfl rfl fun _ h => ?_; subst h) | (refine (e2).callq rfl rfl fun _ h => ?_; subst h) | refine wIn (by omega) ?_ | refine nI (by omega) ?_) <;> conv => whnf))
    all_goals rfl
  rw [decide_eq_true c4] at e2
  rw [if_pos (hh.2 ⟨c1, c2.1, c2.2, c3, c4⟩)]
  refine fnA 1 ok32 (by simp) ?_
  (conv => whnf); (repeat' ((first | refine bT ?_ | refine bF ?_ | refine bN ?_ | ((first | refine bD ?_ ?_ | refine bEq ?_ ?_ | refine bNe ?_ ?_) <;> intro hh <;> try (exfalso; omega)) | (refine (e0).callq rfl rfl fun _ h => ?_; subst h) | (refine (e1).callq rfl rfl fun _ h => ?_; subst h) | (refine (e2).callq rfl rfl fun _ h => ?_; subst h) | refine wIn (by omega) ?_ | refine nI (by omega) ?_) <;> conv => whnf))
  all_goals rfl
/-- a seam meets with a length of its run, with some starts -/
def Fig.mbL (f : Fig) (l : List Int) (i : Nat) (x : Int) : Bool := decide (f.dist ((l.getD i 0 + x).tmod f.per) (l.getD ((i + 1) % f.N) 0) ≤ f.near)
theorem getD_in {l : List Int} {p : Int → Prop} (h : ∀ x ∈ l, p x) {i : Nat} (hi : i < l.length) : p (l.getD i 0) := by
  rw [List.getD_eq_getElem?_getD, List.getElem?_eq_getElem hi]; exact h _ (List.getElem_mem _)
def Fig.cntL (f : Fig) (l : List Int) (i : Nat) : Nat := ((f.rs i).filter (f.mbL l i)).length
theorem s28o (f : Fig) (hs : f.small) : FnO Try.prog 28 [.agg f.cells] (fun r rows => r = .agg [.row 3, .row 4, .int .i64 f.d.loss, .row 5, .row 6, .int .i64 f.d.slope, .int .i64 f.per, .int .i64 f.run, .int .i64 f.near, .row 8, .row 10] ∧ rows = [(3, .row false 55 4 (f.d.bs.map Bolt.av)), (4, .row false 3 1 (f.d.gs.map iAV)), (5, .row false 50 2 (f.d.rs.map pairAV)), (6, .row false 3 1 (f.d.ws.map iAV)), (8, .row false 3 1 (f.st.map iAV)), (10, .row false 3 1 (f.ti.map iAV))]) := by
  have e0 := k27o f.d hs.1
  have l2 : (f.st.map iAV).length = f.st.length := by simp
  have l3 : (f.ti.map iAV).length = f.ti.length := by simp
  obtain ⟨_, h2, h3⟩ := hs
  refine fnO 11 ok28 (by simp) ?_
  (conv => whnf); (repeat' ((first | refine bT ?_ | refine bF ?_ | refine bN ?_ | ((first | refine bD ?_ ?_ | refine bEq ?_ ?_ | refine bNe ?_ ?_) <;> intro hh <;> try (exfalso; omega)) | refine wIn (by omega) ?_ | refine nI (by omega) ?_) <;> conv => whnf))
  refine e0.callzq rfl rfl (fun r rows (hr : r = _ ∧ rows = _) => ?_); obtain ⟨hr1, hr2⟩ := hr; subst hr1; subst hr2; refine ⟨rfl, ?_⟩
  (conv => whnf); (repeat' ((first | refine bT ?_ | refine bF ?_ | refine bN ?_ | ((first | refine bD ?_ ?_ | refine bEq ?_ ?_ | refine bNe ?_ ?_) <;> intro hh <;> try (exfalso; omega)) | refine wIn (by omega) ?_ | refine nI (by omega) ?_) <;> conv => whnf))
  refine apI (one_iAV _) (by simp only [l2, List.length_nil]; omega) ?_
  (conv => whnf); (repeat' ((first | refine bT ?_ | refine bF ?_ | refine bN ?_ | ((first | refine bD ?_ ?_ | refine bEq ?_ ?_ | refine bNe ?_ ?_) <;> intro hh <;> try (exfalso; omega)) | refine wIn (by omega) ?_ | refine nI (by omega) ?_) <;> conv => whnf))
  refine apI (one_iAV _) (by simp only [l3, List.length_nil]; omega) ?_
  (conv => whnf); (repeat' ((first | refine bT ?_ | refine bF ?_ | refine bN ?_ | ((first | refine bD ?_ ?_ | refine bEq ?_ ?_ | refine bNe ?_ ?_) <;> intro hh <;> try (exfalso; omega)) | refine wIn (by omega) ?_ | refine nI (by omega) ?_) <;> conv => whnf))
  all_goals exact ⟨rfl, rfl⟩
/-- beginnings, as the reference says it -/
def Fig.areB (f : Fig) (l : List Int) : Prop := l.length = f.N ∧ (∀ x ∈ l, 0 ≤ x ∧ x < f.per) ∧ ∀ i, i < f.N → ∀ x ∈ f.rs i, f.mbL l i x = true
def Fig.metN (f : Fig) (l : List Int) (k : Nat) : Bool := (List.range k).all fun i => decide ((f.rs i).length ≤ f.cntL l i)
theorem metN_iff {f : Fig} {l : List Int} : f.metN l f.N = true ↔ ∀ i, i < f.N → ∀ x ∈ f.rs i, f.mbL l i x = true := by
  unfold Fig.metN
  rw [List.all_eq_true]
  constructor
  · intro h i hi x hx
    have this : (f.rs i).length ≤ ((f.rs i).filter (f.mbL l i)).length := of_decide_eq_true (h i (List.mem_range.2 hi))
    have h2 : (f.rs i).filter (f.mbL l i) = f.rs i := (List.filter_sublist).eq_of_length (Nat.le_antisymm (List.length_filter_le _ _) this)
    rw [← h2] at hx; exact (List.mem_filter.1 hx).2
  · intro h i hi
    refine decide_eq_true ?_
    show (f.rs i).length ≤ ((f.rs i).filter (f.mbL l i)).length
    rw [List.filter_eq_self.2 (h i (List.mem_range.1 hi))]
    exact Nat.le_refl _
instance (f : Fig) (l : List Int) : Decidable (f.areB l) := decidable_of_iff (l.length = f.N ∧ (∀ x ∈ l, 0 ≤ x ∧ x < f.per) ∧ f.metN l f.N = true) (by unfold Fig.areB; rw [metN_iff])
/-- how soon an arc can have ended -/
def Fig.E (f : Fig) (m i : Nat) : Int := arcE (f.arcsT m) m i
theorem arcE_stab (f : Fig) {m i : Nat} : ∀ k, m ≤ k → arcE (f.arcsT k) m i = f.E m i := by
  intro k hk
  induction k with
  | zero => obtain rfl : m = 0 := by omega
            rfl
  | succ k ih =>
    by_cases h : m = k + 1
    · subst h; rfl
    · rw [← ih (by omega)]
      have hl := arcsT_len f k
      unfold arcE
      congr 2
      simp only [Fig.arcsT, List.getD_eq_getElem?_getD]
      rw [List.getElem?_append_left (by omega)]
theorem soonN_min {f : Fig} (hok : f.ok) {A : List (List (Int × Int))} (hA : arcsOk f A) {first : Nat} (hf : first < f.N) : ∀ b, b ≤ A.length → ∀ c, c < b → (f.soonN A first b).1 ≤ f.endB A first c
  | 0, _ => fun c hc => by omega
  | b + 1, hb => fun c hc => by
    have ih := soonN_min hok hA hf b (by omega)
    simp only [Fig.soonN]
    split
    · rename_i h
      by_cases hcb : c = b
      · subst hcb; exact Int.le_refl _
      · have := ih c (by omega)
        show f.endB A first b ≤ _
        omega
    · rename_i h
      by_cases hcb : c = b
      · subst hcb; omega
      · exact ih c (by omega)
/-- the end of an arc of which a seam is begun last -/
def Fig.V (f : Fig) (m i b : Nat) : Int := max (f.E b i) (f.E (m - b) (((i + b) % f.N + 1) % f.N)) + f.T ((i + b) % f.N)
theorem E_0 {f : Fig} (hok : f.ok) {i : Nat} (hi : i < f.N) : f.E 0 i = 0 := by
  simp only [Fig.E, arcE, Fig.arcsT, List.getD_eq_getElem?_getD, List.getElem?_cons_zero, Option.getD_some, List.getElem?_replicate, if_pos hi]
theorem E_min {f : Fig} (hok : f.ok) {m i : Nat} (hm : m + 1 < f.N) (hi : i < f.N) : (∃ b, b ≤ m ∧ f.E (m + 1) i = f.V m i b) ∧ ∀ b, b ≤ m → f.E (m + 1) i ≤ f.V m i b := by
  have hA := arcsT_ok hok m (by omega)
  have hl := arcsT_len f m
  have he : f.E (m + 1) i = (f.soon (f.arcsT m) i).1 := by
    have hnew : (f.arcsT (m + 1)).getD (m + 1) [] = (List.range f.N).map (f.soon (f.arcsT m)) := by
      simp only [Fig.arcsT, List.getD_eq_getElem?_getD]
      rw [List.getElem?_append_right (by omega), hl]; simp
    unfold Fig.E arcE; rw [hnew]; simp [List.getD_eq_getElem?_getD, hi]
  have hV : ∀ b, b ≤ m → f.endB (f.arcsT m) i b = f.V m i b := fun b hb => by
    unfold Fig.endB Fig.V
    rw [hl, arcE_stab f m (by omega), arcE_stab f m (by omega), show m + 1 - 1 - b = m - b by omega]
  refine ⟨?_, fun b hb => ?_⟩
  · rcases soonN_in hok hA hi (f.arcsT m).length (Nat.le_refl _) with ⟨h1, _⟩ | ⟨_, c, h2, h3⟩
    · omega
    · exact ⟨c, by omega, by rw [he, ← hV c (by omega)]; unfold Fig.soon; rw [h3]⟩
  · rw [he, ← hV b hb]
    exact soonN_min hok hA hi _ (Nat.le_refl _) b (by omega)
theorem E_in {f : Fig} (hok : f.ok) {m i : Nat} (hm : m < f.N) (hi : i < f.N) : 0 ≤ f.E m i ∧ f.E m i ≤ 99 * m := (arcsT_ok hok m hm).val m i (by rw [arcsT_len]; omega) hi
theorem whN_min {f : Fig} (hok : f.ok) {A : List (List (Int × Int))} (hA : arcsOk f A) : ∀ b, b ≤ f.N → ∀ c, c < b → (f.whN A b).1 ≤ f.endW A c
  | 0, _ => fun c hc => by omega
  | b + 1, hb => fun c hc => by
    have ih := whN_min hok hA b (by omega)
    simp only [Fig.whN]
    split
    · rename_i h
      by_cases hcb : c = b
      · subst hcb; exact Int.le_refl _
      · have := ih c (by omega)
        show f.endW A b ≤ _
        omega
    · rename_i h
      by_cases hcb : c = b
      · subst hcb; omega
      · exact ih c (by omega)
theorem snd_min {f : Fig} (hok : f.ok) : (∃ k, k < f.N ∧ f.snd = f.E (f.N - 1) ((k + 1) % f.N) + f.T k) ∧ ∀ k, k < f.N → f.snd ≤ f.E (f.N - 1) ((k + 1) % f.N) + f.T k := by
  have hN := N_in hok
  have hW : ∀ k, f.endW f.A k = f.E (f.N - 1) ((k + 1) % f.N) + f.T k := fun k => by
    unfold Fig.endW; rw [A_len hok]; rfl
  obtain ⟨_, h2, h3⟩ := wh_eq hok
  refine ⟨⟨f.wl, h2, ?_⟩, fun k hk => ?_⟩
  · rw [← hW]; unfold Fig.snd; rw [h3]
  · rw [← hW]; exact whN_min hok (A_ok hok) _ (Nat.le_refl _) k hk
theorem add_mod_ne {i j b N : Nat} (h1 : j < N) (h2 : b < N) (h : j ≠ b) : (i + j) % N ≠ (i + b) % N := fun e => by
  have h3 : (i + j) % N = (i % N + j) % N := by rw [Nat.mod_add_mod]
  have h4 : (i + b) % N = (i % N + b) % N := by rw [Nat.mod_add_mod]
  rw [h3, h4] at e
  have hi : i % N < N := Nat.mod_lt _ (by omega)
  generalize i % N = q at *
  by_cases c1 : q + j < N <;> by_cases c2 : q + b < N
  · rw [Nat.mod_eq_of_lt c1, Nat.mod_eq_of_lt c2] at e; omega
  · rw [Nat.mod_eq_of_lt c1, Nat.mod_eq_sub_mod (by omega), Nat.mod_eq_of_lt (by omega)] at e; omega
  · rw [Nat.mod_eq_sub_mod (by omega), Nat.mod_eq_of_lt (by omega), Nat.mod_eq_of_lt c2] at e; omega
  · rw [Nat.mod_eq_sub_mod (by omega), Nat.mod_eq_of_lt (by omega), Nat.mod_eq_sub_mod (by omega), Nat.mod_eq_of_lt (by omega)] at e; omega
/-- two figures with as many seams; the times of one are the other's, but for one seam, which is quicker by d -/
structure Qk (f g : Fig) (sm : Nat) (d : Int) : Prop where
  of : f.ok
  og : g.ok
  n : g.N = f.N
  dn : 0 ≤ d
  s : sm < f.N
  at_ : g.T sm = f.T sm - d
  ne : ∀ i, i < f.N → i ≠ sm → g.T i = f.T i
theorem Qk.same {f g : Fig} {sm : Nat} {d : Int} (q : Qk f g sm d) : ∀ (n m i : Nat), m ≤ n → m < f.N → i < f.N → (∀ j, j < m → (i + j) % f.N ≠ sm) → f.E m i = g.E m i
  | 0, m, i, hmn, hm, hi, h => by
    obtain rfl : m = 0 := by omega
    rw [E_0 q.of hi, E_0 q.og (by rw [q.n]; exact hi)]
  | n + 1, m, i, hmn, hm, hi, h => by
    have hN := N_in q.of
    cases m with
    | zero => rw [E_0 q.of hi, E_0 q.og (by rw [q.n]; exact hi)]
    | succ m =>
      have hmod : ∀ x, x % f.N < f.N := fun x => Nat.mod_lt _ (by omega)
      have hV : ∀ b, b ≤ m → f.V m i b = g.V m i b := fun b hb => by
        unfold Fig.V
        rw [q.n, Qk.same q n b i (by omega) (by omega) hi fun j hj => h j (by omega),
          Qk.same q n (m - b) (((i + b) % f.N + 1) % f.N) (by omega) (by omega) (hmod _) fun j hj => by
            have := h (b + 1 + j) (by omega)
            rwa [show (((i + b) % f.N + 1) % f.N + j) % f.N = (i + (b + 1 + j)) % f.N by simp only [Nat.mod_add_mod]; congr 1; omega],
          q.ne _ (hmod _) (h b (by omega))]
      obtain ⟨⟨b1, h1, h2⟩, h3⟩ := E_min q.of (m := m) (by omega) hi
      obtain ⟨⟨b2, h4, h5⟩, h6⟩ := E_min q.og (m := m) (i := i) (by rw [q.n]; omega) (by rw [q.n]; exact hi)
      have h7 := h3 b2 h4
      have h8 := h6 b1 h1
      rw [hV b2 h4] at h7
      rw [← hV b1 h1] at h8
      omega
theorem Qk.less {f g : Fig} {sm : Nat} {d : Int} (q : Qk f g sm d) : ∀ (n m i : Nat), m ≤ n → m < f.N → i < f.N → g.E m i ≤ f.E m i ∧ f.E m i ≤ g.E m i + d
  | 0, m, i, hmn, hm, hi => by
    obtain rfl : m = 0 := by omega
    rw [E_0 q.of hi, E_0 q.og (by rw [q.n]; exact hi)]
    have := q.dn; omega
  | n + 1, m, i, hmn, hm, hi => by
    have hN := N_in q.of
    have hd := q.dn
    cases m with
    | zero => rw [E_0 q.of hi, E_0 q.og (by rw [q.n]; exact hi)]; omega
    | succ m =>
      have hmod : ∀ x, x % f.N < f.N := fun x => Nat.mod_lt _ (by omega)
      have hV : ∀ b, b ≤ m → g.V m i b ≤ f.V m i b ∧ f.V m i b ≤ g.V m i b + d := fun b hb => by
        have a1 := Qk.less q n b i (by omega) (by omega) hi
        have a2 := Qk.less q n (m - b) (((i + b) % f.N + 1) % f.N) (by omega) (by omega) (hmod _)
        unfold Fig.V
        rw [q.n]
        by_cases hs : (i + b) % f.N = sm
        · have b1 := Qk.same q n b i (by omega) (by omega) hi fun j hj => by rw [← hs]; exact add_mod_ne (by omega) (by omega) (by omega)
          have b2 := Qk.same q n (m - b) (((i + b) % f.N + 1) % f.N) (by omega) (by omega) (hmod _) fun j hj => by
            rw [show (((i + b) % f.N + 1) % f.N + j) % f.N = (i + (b + 1 + j)) % f.N by simp only [Nat.mod_add_mod]; congr 1; omega, ← hs]
            exact add_mod_ne (by omega) (by omega) (by omega)
          rw [hs] at b2 a2 ⊢
          rw [q.at_, b1, b2]; omega
        · rw [q.ne _ (hmod _) hs]; omega
      obtain ⟨⟨b1, h1, h2⟩, h3⟩ := E_min q.of (m := m) (by omega) hi
      obtain ⟨⟨b2, h4, h5⟩, h6⟩ := E_min q.og (m := m) (i := i) (by rw [q.n]; omega) (by rw [q.n]; exact hi)
      have h7 := h3 b2 h4
      have h8 := h6 b1 h1
      have := hV b1 h1
      have := hV b2 h4
      omega
theorem Qk.snd {f g : Fig} {sm : Nat} {d : Int} (q : Qk f g sm d) : g.snd ≤ f.snd ∧ f.snd ≤ g.snd + d := by
  have hN := N_in q.of
  have hd := q.dn
  have hmod : ∀ x, x % f.N < f.N := fun x => Nat.mod_lt _ (by omega)
  have hV : ∀ k, k < f.N → g.E (g.N - 1) ((k + 1) % g.N) + g.T k ≤ f.E (f.N - 1) ((k + 1) % f.N) + f.T k ∧ f.E (f.N - 1) ((k + 1) % f.N) + f.T k ≤ g.E (g.N - 1) ((k + 1) % g.N) + g.T k + d := fun k hk => by
    rw [q.n]
    have a1 := q.less (f.N - 1) (f.N - 1) ((k + 1) % f.N) (by omega) (by omega) (hmod _)
    by_cases hs : k = sm
    · have b1 := q.same (f.N - 1) (f.N - 1) ((k + 1) % f.N) (by omega) (by omega) (hmod _) fun j hj => by
        rw [Nat.mod_add_mod, ← hs]
        have := add_mod_ne (i := k) (j := 1 + j) (b := 0) (N := f.N) (by omega) (by omega) (by omega)
        rw [Nat.add_zero, Nat.mod_eq_of_lt hk] at this
        rw [show k + 1 + j = k + (1 + j) by omega]; exact this
      rw [b1]
      rw [hs, q.at_]; omega
    · rw [q.ne _ hk hs]; omega
  obtain ⟨⟨k1, h1, h2⟩, h3⟩ := snd_min q.of
  obtain ⟨⟨k2, h4, h5⟩, h6⟩ := snd_min q.og
  rw [q.n] at h4
  have h7 := h3 k2 h4
  have h8 := h6 k1 (by rw [q.n]; exact h1)
  have := hV k1 h1
  have := hV k2 h4
  omega
/-- times that are twice as great -/
structure Tw (f g : Fig) : Prop where
  of : f.ok
  og : g.ok
  n : g.N = f.N
  t : ∀ i, i < f.N → g.T i = 2 * f.T i
theorem Tw.E {f g : Fig} (q : Tw f g) : ∀ (n m i : Nat), m ≤ n → m < f.N → i < f.N → g.E m i = 2 * f.E m i
  | 0, m, i, hmn, hm, hi => by
    obtain rfl : m = 0 := by omega
    rw [E_0 q.of hi, E_0 q.og (by rw [q.n]; exact hi)]; rfl
  | n + 1, m, i, hmn, hm, hi => by
    have hN := N_in q.of
    cases m with
    | zero => rw [E_0 q.of hi, E_0 q.og (by rw [q.n]; exact hi)]; rfl
    | succ m =>
      have hmod : ∀ x, x % f.N < f.N := fun x => Nat.mod_lt _ (by omega)
      have hV : ∀ b, b ≤ m → g.V m i b = 2 * f.V m i b := fun b hb => by
        unfold Fig.V
        rw [q.n, Tw.E q n b i (by omega) (by omega) hi, Tw.E q n (m - b) (((i + b) % f.N + 1) % f.N) (by omega) (by omega) (hmod _), q.t _ (hmod _)]
        omega
      obtain ⟨⟨b1, h1, h2⟩, h3⟩ := E_min q.of (m := m) (by omega) hi
      obtain ⟨⟨b2, h4, h5⟩, h6⟩ := E_min q.og (m := m) (i := i) (by rw [q.n]; omega) (by rw [q.n]; exact hi)
      have h7 := h3 b2 h4
      have h8 := h6 b1 h1
      have := hV b1 h1
      have := hV b2 h4
      omega
theorem Tw.snd {f g : Fig} (q : Tw f g) : g.snd = 2 * f.snd := by
  have hN := N_in q.of
  have hmod : ∀ x, x % f.N < f.N := fun x => Nat.mod_lt _ (by omega)
  have hV : ∀ k, k < f.N → g.E (g.N - 1) ((k + 1) % g.N) + g.T k = 2 * (f.E (f.N - 1) ((k + 1) % f.N) + f.T k) := fun k hk => by
    rw [q.n, q.E (f.N - 1) (f.N - 1) ((k + 1) % f.N) (by omega) (by omega) (hmod _), q.t k hk]; omega
  obtain ⟨⟨k1, h1, h2⟩, h3⟩ := snd_min q.of
  obtain ⟨⟨k2, h4, h5⟩, h6⟩ := snd_min q.og
  rw [q.n] at h4
  have h7 := h3 k2 h4
  have h8 := h6 k1 (by rw [q.n]; exact h1)
  have := hV k1 h1
  have := hV k2 h4
  omega
theorem ti_len {f : Fig} (hok : f.ok) : f.ti.length = f.N := hok.2.2.2.2.2.2.1
def bAV (b : Bool) : List AV := [.bool b]
/-- whether a seam has ended when another one is begun -/
def Fig.endd (f : Fig) (B : List Int) (s i : Nat) : Bool := decide (B.getD i 0 + f.T i ≤ B.getD s 0)
def Fig.occ1 (f : Fig) (B : List Int) (s : Nat) (l : List Bool) (i : Nat) : List Bool :=
  if f.endd B s i && (l.getD i false || l.getD ((i + 1) % f.N) false) then (l.set i true).set ((i + 1) % f.N) true else l
def Fig.occR (f : Fig) (B : List Int) (s : Nat) (l : List Bool) : Nat → List Bool
  | 0 => l
  | k + 1 => f.occ1 B s (f.occR B s l k) k
def Fig.occ (f : Fig) (B : List Int) (s : Nat) : Nat → List Bool
  | 0 => ((List.replicate f.N false).set s true).set ((s + 1) % f.N) true
  | r + 1 => f.occR B s (f.occ B s r) f.N
theorem occ1_len (f : Fig) (B : List Int) (s : Nat) (l : List Bool) (i : Nat) : (f.occ1 B s l i).length = l.length := by
  unfold Fig.occ1; split <;> simp
theorem occR_len (f : Fig) (B : List Int) (s : Nat) (l : List Bool) : ∀ k, (f.occR B s l k).length = l.length
  | 0 => rfl
  | k + 1 => by rw [Fig.occR, occ1_len, occR_len f B s l k]
theorem occ_len (f : Fig) (B : List Int) (s : Nat) : ∀ r, (f.occ B s r).length = f.N
  | 0 => by simp [Fig.occ]
  | r + 1 => by rw [Fig.occ, occR_len, occ_len f B s r]
theorem setT {l : List Bool} {i g : Nat} (h : l.getD g false = true) : (l.set i true).getD g false = true := by
  simp only [List.getD_eq_getElem?_getD, List.getElem?_set] at *
  split
  · split
    · rfl
    · rename_i h1 h2
      subst h1
      rw [List.getElem?_eq_none (by omega)] at h; exact h
  · exact h
theorem setS {l : List Bool} {i : Nat} (h : i < l.length) : (l.set i true).getD i false = true := by
  simp [List.getD_eq_getElem?_getD, h]
theorem occ1_mono {f : Fig} {B : List Int} {s : Nat} {l : List Bool} {i g : Nat} (h : l.getD g false = true) : (f.occ1 B s l i).getD g false = true := by
  unfold Fig.occ1
  split
  · exact setT (setT h)
  · exact h
theorem occ1_eff {f : Fig} (hok : f.ok) {B : List Int} {s : Nat} {l : List Bool} {i : Nat} (hl : l.length = f.N) (hi : i < f.N) (he : f.endd B s i = true) (h : l.getD i false = true ∨ l.getD ((i + 1) % f.N) false = true) : (f.occ1 B s l i).getD i false = true ∧ (f.occ1 B s l i).getD ((i + 1) % f.N) false = true := by
  have hN := N_in hok
  have hm := Nat.mod_lt (i + 1) (show 0 < f.N by omega)
  unfold Fig.occ1
  rw [if_pos (by rw [he]; rcases h with h | h <;> rw [h] <;> simp)]
  exact ⟨setT (setS (by omega)), setS (by rw [List.length_set]; omega)⟩
theorem occR_mono {f : Fig} {B : List Int} {s : Nat} {l : List Bool} {g : Nat} (h : l.getD g false = true) : ∀ k, (f.occR B s l k).getD g false = true
  | 0 => h
  | k + 1 => occ1_mono (occR_mono h k)
theorem occR_eff {f : Fig} (hok : f.ok) {B : List Int} {s : Nat} {l : List Bool} {i : Nat} (hl : l.length = f.N) (he : f.endd B s i = true) (h : l.getD i false = true ∨ l.getD ((i + 1) % f.N) false = true) : ∀ k, k ≤ f.N → i < k → (f.occR B s l k).getD i false = true ∧ (f.occR B s l k).getD ((i + 1) % f.N) false = true
  | 0, _, hi => by omega
  | k + 1, hk, hi => by
    by_cases hik : i = k
    · subst hik
      exact occ1_eff hok (by rw [occR_len]; exact hl) (by omega) he (h.imp (fun h => occR_mono h _) fun h => occR_mono h _)
    · have := occR_eff hok hl he h k (by omega) (by omega)
      exact ⟨occ1_mono this.1, occ1_mono this.2⟩
theorem occ_mono {f : Fig} {B : List Int} {s g : Nat} {r : Nat} (h : (f.occ B s r).getD g false = true) : (f.occ B s (r + 1)).getD g false = true := occR_mono h _
theorem occ_own {f : Fig} (hok : f.ok) (B : List Int) {s : Nat} (hs : s < f.N) : ∀ r, (f.occ B s r).getD s false = true ∧ (f.occ B s r).getD ((s + 1) % f.N) false = true
  | 0 => by
    have hN := N_in hok
    have hm := Nat.mod_lt (s + 1) (show 0 < f.N by omega)
    exact ⟨setT (setS (by simpa using hs)), setS (by simpa using hm)⟩
  | r + 1 => ⟨occ_mono (occ_own hok B hs r).1, occ_mono (occ_own hok B hs r).2⟩
/-- behind seams that have ended -/
theorem occ_right {f : Fig} (hok : f.ok) {B : List Int} {s : Nat} (hs : s < f.N) : ∀ r t, t ≤ r → (∀ u, 1 ≤ u → u ≤ t → f.endd B s ((s + u) % f.N) = true) → (f.occ B s r).getD ((s + 1 + t) % f.N) false = true
  | 0, t, ht, _ => by
    obtain rfl : t = 0 := by omega
    exact (occ_own hok B hs 0).2
  | r + 1, t, ht, h => by
    have hN := N_in hok
    by_cases h1 : t ≤ r
    · exact occ_mono (occ_right hok hs r t h1 h)
    · obtain rfl : t = r + 1 := by omega
      have ih := occ_right hok hs r r (Nat.le_refl _) fun u h1 h2 => h u h1 (by omega)
      have := (occR_eff hok (occ_len f B s r) (i := (s + (r + 1)) % f.N) (h (r + 1) (by omega) (by omega)) (.inl (by rw [show s + (r + 1) = s + 1 + r by omega]; exact ih)) f.N (Nat.le_refl _) (Nat.mod_lt _ (by omega))).2
      rw [Nat.mod_add_mod, show s + (r + 1) + 1 = s + 1 + (r + 1) by omega] at this
      exact this
/-- before seams that have ended -/
theorem occ_left {f : Fig} (hok : f.ok) {B : List Int} {s : Nat} (hs : s < f.N) : ∀ r t, t ≤ r → t < f.N → (∀ u, 1 ≤ u → u ≤ t → f.endd B s ((s + f.N - u) % f.N) = true) → (f.occ B s r).getD ((s + f.N - t) % f.N) false = true
  | 0, t, ht, _, _ => by
    obtain rfl : t = 0 := by omega
    rw [Nat.sub_zero, Nat.add_mod_right, Nat.mod_eq_of_lt hs]
    exact (occ_own hok B hs 0).1
  | r + 1, t, ht, hn, h => by
    have hN := N_in hok
    by_cases h1 : t ≤ r
    · exact occ_mono (occ_left hok hs r t h1 hn h)
    · obtain rfl : t = r + 1 := by omega
      have ih := occ_left hok hs r r (Nat.le_refl _) (by omega) fun u h1 h2 => h u h1 (by omega)
      exact (occR_eff hok (occ_len f B s r) (i := (s + f.N - (r + 1)) % f.N) (h (r + 1) (by omega) (by omega)) (.inr (by
        rw [Nat.mod_add_mod, show s + f.N - (r + 1) + 1 = s + f.N - r by omega]; exact ih)) f.N (Nat.le_refl _) (Nat.mod_lt _ (by omega))).1
theorem getD_b {l : List Bool} {i : Nat} (h : i < l.length) : (l.map bAV).getD i [] = [.bool (l.getD i false)] := by
  simp [List.getD_eq_getElem?_getD, h, bAV]
set_option maxHeartbeats 4000000 in
theorem s71 (f : Fig) (hok : f.ok) (B : List Int) (hB : B.length = f.N) (hv : ∀ x ∈ B, 0 ≤ x ∧ x ≤ 1000000) (s : Nat) (hs : s < f.N) : FnA Try.prog 71 [.agg f.cells, .isl (B.map iAV), .int .i64 s] (· = .isl ((f.occ B s f.N).map bAV)) := by
  have hN := N_in hok
  have hti : f.ti.length = f.N := ti_len hok
  have l1 : (B.map iAV).length = f.N := by simpa using hB
  have l2 : (f.ti.map iAV).length = f.N := by simpa using hti
  have hval : ∀ i, i < f.N → 0 ≤ B.getD i 0 ∧ B.getD i 0 ≤ 1000000 := fun i hi => getD_in (p := fun x => 0 ≤ x ∧ x ≤ 1000000) hv (by omega)
  have hgB : ∀ i, i < f.N → (B.map iAV).getD i [] = [.int .i64 (B.getD i 0)] := fun i hi => row_at (by omega)
  have hgT : ∀ i, i < f.N → (f.ti.map iAV).getD i [] = [.int .i64 (f.T i)] := fun i hi => row_at (by omega)
  have hm : ∀ x, x % f.N < f.N := fun x => Nat.mod_lt _ (by omega)
  have ht : ∀ i : Nat, ((i : Int) + 1).tmod ↑(B.map iAV).length = (((i + 1) % f.N : Nat) : Int) := fun i => by
    rw [l1, Int.tmod_eq_emod_of_nonneg (by omega)]; push_cast; rfl
  have hb1 := hm (s + 1)
  have hts := ht s
  have hrl : (List.replicate (↑(B.map iAV).length : Int).toNat [AV.bool false]).length = f.N := by simp [hB]
  have hr1 : (List.replicate (↑(B.map iAV).length : Int).toNat [AV.bool false]).getD s [] = [.bool false] := by simp [List.getD_eq_getElem?_getD, hB, hs]
  have hr0 : (List.replicate (↑(B.map iAV).length : Int).toNat [AV.bool false]).set (s : Int).toNat [.bool true] = ((List.replicate f.N false).set s true).map bAV := by
    rw [List.map_set, List.map_replicate, Int.toNat_natCast, Int.toNat_natCast, l1]; rfl
  have hr3 : ((List.replicate (↑(B.map iAV).length : Int).toNat [AV.bool false]).set (s : Int).toNat [.bool true]).length = f.N := by rw [hr0]; simp
  have hr2 : ((List.replicate (↑(B.map iAV).length : Int).toNat [AV.bool false]).set (s : Int).toNat [.bool true]).getD (((s : Int) + 1).tmod ↑(B.map iAV).length).toNat [] = [.bool (((List.replicate f.N false).set s true).getD ((s + 1) % f.N) false)] := by
    rw [hts, hr0, Int.toNat_natCast]; exact getD_b (by rw [List.length_set, List.length_replicate]; exact hb1)
  have hz : (f.occ B s 0).map bAV = ((List.replicate (↑(B.map iAV).length : Int).toNat [AV.bool false]).set (s : Int).toNat [.bool true]).set (((s : Int) + 1).tmod ↑(B.map iAV).length).toNat [.bool true] := by
    rw [hts]
    simp only [Fig.occ, List.map_set, List.map_replicate, Int.toNat_natCast, l1]; rfl
  refine fnA 2 ok71 (by simp) ?_
  conv => whnf
  refine mkI (by omega) (by omega) (by omega) ?_
  (conv => whnf); (repeat' ((first | refine bT ?_ | refine bF ?_ | refine bN ?_ | ((first | refine bD ?_ ?_ | refine bEq ?_ ?_ | refine bNe ?_ ?_) <;> intro hh <;> try (exfalso; omega)) | refine wIn (by omega) ?_ | refine nI (by omega) ?_) <;> conv => whnf))
  refine iaI (by omega) (by omega) hr1 ?_
  (conv => whnf); (repeat' ((first | refine bT ?_ | refine bF ?_ | refine bN ?_ | ((first | refine bD ?_ ?_ | refine bEq ?_ ?_ | refine bNe ?_ ?_) <;> intro hh <;> try (exfalso; omega)) | refine wIn (by omega) ?_ | refine nI (by omega) ?_) <;> conv => whnf))
  refine iaI (by omega) (by omega) hr2 ?_
  (conv => whnf); (repeat' ((first | refine bT ?_ | refine bF ?_ | refine bN ?_ | ((first | refine bD ?_ ?_ | refine bEq ?_ ?_ | refine bNe ?_ ?_) <;> intro hh <;> try (exfalso; omega)) | refine wIn (by omega) ?_ | refine nI (by omega) ?_) <;> conv => whnf))
  refine loop_i (α := Nat) (fun r => [(9, .int .i64 r), (8, .row 1), (7, .int .i64 (B.map iAV).length), (3, .own 0 0), (2, .int .i64 s), (1, .isl (B.map iAV))]) (fun r => [.box false f.cells, .row false 4 1 ((f.occ B s r).map bAV)]) (fun r => r ≤ f.N) (fun r => f.N - r) 0 ?_ (by omega) ?_
  · rw [hz]; exact (meets_id (by (repeat' apply And.intro) <;> first | rfl | exact True.intro | (intro hh; cases hh)))
  intro r hr
  conv => whnf
  refine bD (fun h4 => ?_) (fun h4 => ?_)
  · (conv => whnf); (repeat' ((first | refine bT ?_ | refine bF ?_ | refine bN ?_ | ((first | refine bD ?_ ?_ | refine bEq ?_ ?_ | refine bNe ?_ ?_) <;> intro hh <;> try (exfalso; omega)) | refine wIn (by omega) ?_ | refine nI (by omega) ?_) <;> conv => whnf))
    refine loop_i (α := Nat) (fun k => [(10, .int .i64 k), (9, .int .i64 r), (8, .row 1), (7, .int .i64 (B.map iAV).length), (3, .own 0 0), (2, .int .i64 s), (1, .isl (B.map iAV))]) (fun k => [.box false f.cells, .row false 4 1 ((f.occR B s (f.occ B s r) k).map bAV)]) (fun k => k ≤ f.N) (fun k => f.N - k) 0 (meets_id (by (repeat' apply And.intro) <;> first | rfl | exact True.intro | (intro hh; cases hh))) (by omega) ?_
    intro k hk0
    conv => whnf
    refine bD (fun h5 => ?_) (fun h5 => ?_)
    · have hk : k < f.N := by omega
      have hlo : (f.occR B s (f.occ B s r) k).length = f.N := by rw [occR_len, occ_len]
      have hstep : f.occR B s (f.occ B s r) (k + 1) = f.occ1 B s (f.occR B s (f.occ B s r) k) k := rfl
      generalize f.occR B s (f.occ B s r) k = l at *
      have hml : (l.map bAV).length = f.N := by rw [List.length_map, hlo]
      have vk := hval k hk
      have vs := hval s hs
      have vT := T_in hok hk
      have hk1 := hm (k + 1)
      have htk := ht k
      have ge1 : (l.map bAV).getD k [] = [.bool (l.getD k false)] := getD_b (by omega)
      have ge2 : (l.map bAV).getD (((k : Int) + 1).tmod ↑(B.map iAV).length).toNat [] = [.bool (l.getD ((k + 1) % f.N) false)] := by
        rw [htk]; exact getD_b (by simp only [Int.toNat_natCast]; omega)
      have ge0 : (l.map bAV).set (k : Int).toNat [.bool true] = (l.set k true).map bAV := by rw [List.map_set]; rfl
      have hml2 : ((l.map bAV).set (k : Int).toNat [.bool true]).length = f.N := by rw [List.length_set]; exact hml
      have ge3 : ((l.map bAV).set (k : Int).toNat [.bool true]).getD (((k : Int) + 1).tmod ↑(B.map iAV).length).toNat [] = [.bool ((l.set k true).getD ((k + 1) % f.N) false)] := by
        rw [htk, ge0]; exact getD_b (by rw [List.length_set]; simp only [Int.toNat_natCast]; omega)
      have hset : ((l.map bAV).set (k : Int).toNat [.bool true]).set (((k : Int) + 1).tmod ↑(B.map iAV).length).toNat [.bool true] = ((l.set k true).set ((k + 1) % f.N) true).map bAV := by
        rw [htk]; simp only [List.map_set, Int.toNat_natCast]; rfl
      by_cases he : B.getD k 0 + f.T k ≤ B.getD s 0
      · have hen : f.endd B s k = true := decide_eq_true he
        cases h1 : l.getD k false with
        | true =>
          rw [h1] at ge1
          have hst : f.occ1 B s l k = (l.set k true).set ((k + 1) % f.N) true := by unfold Fig.occ1; rw [hen, h1]; rfl
          (conv => whnf); (repeat' ((first | refine bT ?_ | refine bF ?_ | refine bN ?_ | ((first | refine bD ?_ ?_ | refine bEq ?_ ?_ | refine bNe ?_ ?_) <;> intro hh <;> try (exfalso; omega)) | (refine iaI (by omega) (by omega) (hgB k hk) ?_) | (refine iaI (by omega) (by omega) (hgT k hk) ?_) | (refine iaI (by omega) (by omega) (hgB s hs) ?_) | (refine iaI (by omega) (by omega) ge1 ?_) | (refine iaI (by omega) (by omega) ge2 ?_) | (refine iaI (by omega) (by omega) ge3 ?_) | refine wIn (by omega) ?_ | refine nI (by omega) ?_) <;> conv => whnf))
          refine ⟨k + 1, ?_, by omega, by omega⟩
          rw [hstep, hst, ← hset]
          exact (meets_id (by (repeat' apply And.intro) <;> first | rfl | exact True.intro | (intro hh; cases hh)))
        | false =>
          rw [h1] at ge1
          cases h2 : l.getD ((k + 1) % f.N) false with
          | true =>
            rw [h2] at ge2
            have hst : f.occ1 B s l k = (l.set k true).set ((k + 1) % f.N) true := by unfold Fig.occ1; rw [hen, h1, h2]; rfl
            (conv => whnf); (repeat' ((first | refine bT ?_ | refine bF ?_ | refine bN ?_ | ((first | refine bD ?_ ?_ | refine bEq ?_ ?_ | refine bNe ?_ ?_) <;> intro hh <;> try (exfalso; omega)) | (refine iaI (by omega) (by omega) (hgB k hk) ?_) | (refine iaI (by omega) (by omega) (hgT k hk) ?_) | (refine iaI (by omega) (by omega) (hgB s hs) ?_) | (refine iaI (by omega) (by omega) ge1 ?_) | (refine iaI (by omega) (by omega) ge2 ?_) | (refine iaI (by omega) (by omega) ge3 ?_) | refine wIn (by omega) ?_ | refine nI (by omega) ?_) <;> conv => whnf))
            refine ⟨k + 1, ?_, by omega, by omega⟩
            rw [hstep, hst, ← hset]
            exact (meets_id (by (repeat' apply And.intro) <;> first | rfl | exact True.intro | (intro hh; cases hh)))
          | false =>
            rw [h2] at ge2
            have hst : f.occ1 B s l k = l := by unfold Fig.occ1; rw [hen, h1, h2]; rfl
            (conv => whnf); (repeat' ((first | refine bT ?_ | refine bF ?_ | refine bN ?_ | ((first | refine bD ?_ ?_ | refine bEq ?_ ?_ | refine bNe ?_ ?_) <;> intro hh <;> try (exfalso; omega)) | (refine iaI (by omega) (by omega) (hgB k hk) ?_) | (refine iaI (by omega) (by omega) (hgT k hk) ?_) | (refine iaI (by omega) (by omega) (hgB s hs) ?_) | (refine iaI (by omega) (by omega) ge1 ?_) | (refine iaI (by omega) (by omega) ge2 ?_) | (refine iaI (by omega) (by omega) ge3 ?_) | refine wIn (by omega) ?_ | refine nI (by omega) ?_) <;> conv => whnf))
            refine ⟨k + 1, ?_, by omega, by omega⟩
            rw [hstep, hst]
            exact (meets_id (by (repeat' apply And.intro) <;> first | rfl | exact True.intro | (intro hh; cases hh)))
      · have hst : f.occ1 B s l k = l := by unfold Fig.occ1; rw [show f.endd B s k = false from decide_eq_false he]; rfl
        (conv => whnf); (repeat' ((first | refine bT ?_ | refine bF ?_ | refine bN ?_ | ((first | refine bD ?_ ?_ | refine bEq ?_ ?_ | refine bNe ?_ ?_) <;> intro hh <;> try (exfalso; omega)) | (refine iaI (by omega) (by omega) (hgB k hk) ?_) | (refine iaI (by omega) (by omega) (hgT k hk) ?_) | (refine iaI (by omega) (by omega) (hgB s hs) ?_) | refine wIn (by omega) ?_ | refine nI (by omega) ?_) <;> conv => whnf))
        refine ⟨k + 1, ?_, by omega, by omega⟩
        rw [hstep, hst]
        exact (meets_id (by (repeat' apply And.intro) <;> first | rfl | exact True.intro | (intro hh; cases hh)))
    · have : k = f.N := by omega
      subst this
      (conv => whnf); (repeat' ((first | refine bT ?_ | refine bF ?_ | refine bN ?_ | ((first | refine bD ?_ ?_ | refine bEq ?_ ?_ | refine bNe ?_ ?_) <;> intro hh <;> try (exfalso; omega)) | refine wIn (by omega) ?_ | refine nI (by omega) ?_) <;> conv => whnf))
      exact ⟨r + 1, (meets_id (by (repeat' apply And.intro) <;> first | rfl | exact True.intro | (intro hh; cases hh))), by omega, by omega⟩
  · have : r = f.N := by omega
    subst this
    (conv => whnf); (repeat' ((first | refine bT ?_ | refine bF ?_ | refine bN ?_ | ((first | refine bD ?_ ?_ | refine bEq ?_ ?_ | refine bNe ?_ ?_) <;> intro hh <;> try (exfalso; omega)) | refine wIn (by omega) ?_ | refine nI (by omega) ?_) <;> conv => whnf))
    all_goals rfl
/-- two seams are sewn at the same time -/
def Fig.lap (f : Fig) (B : List Int) (a b : Nat) : Prop := B.getD a 0 < B.getD b 0 + f.T b ∧ B.getD b 0 < B.getD a 0 + f.T a
def Fig.both (f : Fig) (B : List Int) (a b g : Nat) : Prop := (f.occ B a f.N).getD g false = true ∧ (f.occ B b f.N).getD g false = true
structure Fig.okS (f : Fig) (B : List Int) : Prop where
  len : B.length = f.N
  val : ∀ x ∈ B, 0 ≤ x ∧ x ≤ 1000000
  no : ∀ a, a < f.N → ∀ b, b < a → f.lap B a b → ∀ g, g < f.N → ¬ f.both B a b g
theorem Fig.okS.no2 {f : Fig} {B : List Int} (h : f.okS B) {a b : Nat} (ha : a < f.N) (hb : b < f.N) (hne : a ≠ b) (hl : f.lap B a b) {g : Nat} (hg : g < f.N) : ¬ f.both B a b g := by
  by_cases hab : b < a
  · exact h.no a ha b hab hl g hg
  · exact fun hb2 => h.no b hb a (by omega) ⟨hl.2, hl.1⟩ g hg ⟨hb2.2, hb2.1⟩
/-- seams behind the last one have ended when it is begun -/
theorem Fig.okS.right {f : Fig} (hok : f.ok) {B : List Int} (h : f.okS B) {c : Nat} (hc : c < f.N) : ∀ K, K < f.N → (∀ t, 1 ≤ t → t ≤ K → B.getD ((c + t) % f.N) 0 ≤ B.getD c 0) → ∀ t, 1 ≤ t → t ≤ K → f.endd B c ((c + t) % f.N) = true
  | 0, _, _, t, h1, h2 => by omega
  | K + 1, hK, hle, t, h1, h2 => by
    have hN := N_in hok
    have ih := Fig.okS.right hok h hc K (by omega) fun t a b => hle t a (by omega)
    by_cases htK : t ≤ K
    · exact ih t h1 htK
    obtain rfl : t = K + 1 := by omega
    have hm : (c + (K + 1)) % f.N < f.N := Nat.mod_lt _ (by omega)
    have hne : c ≠ (c + (K + 1)) % f.N := fun e => add_mod_ne (i := c) (j := K + 1) (b := 0) (N := f.N) (by omega) (by omega) (by omega) (by rw [← e, Nat.add_zero, Nat.mod_eq_of_lt hc])
    have hT := T_in hok hc
    have hl := hle (K + 1) h1 (Nat.le_refl _)
    have ho := occ_right hok hc f.N K (by omega) (fun u a b => ih u a b)
    rw [show c + 1 + K = c + (K + 1) by omega] at ho
    have hn := h.no2 hc hm hne (g := (c + (K + 1)) % f.N)
    refine decide_eq_true (Classical.byContradiction fun hbad => hn ⟨by omega, by omega⟩ hm ⟨ho, (occ_own hok B hm _).1⟩)
theorem Fig.okS.left {f : Fig} (hok : f.ok) {B : List Int} (h : f.okS B) {c : Nat} (hc : c < f.N) : ∀ K, K < f.N → (∀ t, 1 ≤ t → t ≤ K → B.getD ((c + f.N - t) % f.N) 0 ≤ B.getD c 0) → ∀ t, 1 ≤ t → t ≤ K → f.endd B c ((c + f.N - t) % f.N) = true
  | 0, _, _, t, h1, h2 => by omega
  | K + 1, hK, hle, t, h1, h2 => by
    have hN := N_in hok
    have ih := Fig.okS.left hok h hc K (by omega) fun t a b => hle t a (by omega)
    by_cases htK : t ≤ K
    · exact ih t h1 htK
    obtain rfl : t = K + 1 := by omega
    have hm : (c + f.N - (K + 1)) % f.N < f.N := Nat.mod_lt _ (by omega)
    have hne : c ≠ (c + f.N - (K + 1)) % f.N := fun e => add_mod_ne (i := c) (j := f.N - (K + 1)) (b := 0) (N := f.N) (by omega) (by omega) (by omega) (by rw [show c + (f.N - (K + 1)) = c + f.N - (K + 1) by omega, ← e, Nat.add_zero, Nat.mod_eq_of_lt hc])
    have hT := T_in hok hc
    have hl := hle (K + 1) h1 (Nat.le_refl _)
    have ho := occ_left hok hc f.N K (by omega) (by omega) (fun u a b => ih u a b)
    have hg : (c + f.N - K) % f.N < f.N := Nat.mod_lt _ (by omega)
    have ho2 := (occ_own hok B hm f.N).2
    rw [Nat.mod_add_mod, show c + f.N - (K + 1) + 1 = c + f.N - K by omega] at ho2
    have hn := h.no2 hc hm hne (g := (c + f.N - K) % f.N)
    refine decide_eq_true (Classical.byContradiction fun hbad => hn ⟨by omega, by omega⟩ hg ⟨ho, ho2⟩)
def Fig.ends (f : Fig) (B : List Int) : Nat → Int
  | 0 => 0
  | k + 1 => max (f.ends B k) (B.getD k 0 + f.T k)
theorem ends_ge (f : Fig) (B : List Int) : ∀ {k i : Nat}, i < k → B.getD i 0 + f.T i ≤ f.ends B k
  | k + 1, i, h => by
    simp only [Fig.ends]
    by_cases e : i = k
    · subst e; omega
    · have := ends_ge f B (k := k) (i := i) (by omega); omega
theorem s34 (f : Fig) (hok : f.ok) (B : List Int) (hB : B.length = f.N) (hv : ∀ x ∈ B, 0 ≤ x ∧ x ≤ 1000000) : FnA Try.prog 34 [.agg f.cells, .isl (B.map iAV)] (· = .int .i64 (f.ends B f.N)) := by
  have hN := N_in hok
  have hti : f.ti.length = f.N := ti_len hok
  have l1 : (B.map iAV).length = f.N := by simpa using hB
  have l2 : (f.ti.map iAV).length = f.N := by simpa using hti
  refine fnA 1 ok34 (by simp) ?_
  (conv => whnf); (repeat' ((first | refine bT ?_ | refine bF ?_ | refine bN ?_ | ((first | refine bD ?_ ?_ | refine bEq ?_ ?_ | refine bNe ?_ ?_) <;> intro hh <;> try (exfalso; omega)) | refine wIn (by omega) ?_ | refine nI (by omega) ?_) <;> conv => whnf))
  refine loop_i (α := Nat) (fun k => [(6, .int .i64 k), (5, .int .i64 (f.ends B k)), (2, .own 0 0), (1, .isl (B.map iAV))]) (fun k => [.box false f.cells]) (fun k => k ≤ f.N) (fun k => f.N - k) 0 (meets_id (by (repeat' apply And.intro) <;> first | rfl | exact True.intro | (intro hh; cases hh))) (by omega) ?_
  intro k hk0
  conv => whnf
  refine bD (fun h4 => ?_) (fun h4 => ?_)
  · have hk : k < f.N := by omega
    have vk : 0 ≤ B.getD k 0 ∧ B.getD k 0 ≤ 1000000 := getD_in (p := fun x => 0 ≤ x ∧ x ≤ 1000000) hv (by omega)
    have vT := T_in hok hk
    have gB : (B.map iAV).getD k [] = [.int .i64 (B.getD k 0)] := row_at (by omega)
    have gT : (f.ti.map iAV).getD k [] = [.int .i64 (f.T k)] := row_at (by omega)
    have hst : f.ends B (k + 1) = max (f.ends B k) (B.getD k 0 + f.T k) := rfl
    (conv => whnf); (repeat' ((first | refine bT ?_ | refine bF ?_ | refine bN ?_ | ((first | refine bD ?_ ?_ | refine bEq ?_ ?_ | refine bNe ?_ ?_) <;> intro hh <;> try (exfalso; omega)) | (refine iaI (by omega) (by omega) gB ?_) | (refine iaI (by omega) (by omega) gT ?_) | refine wIn (by omega) ?_ | refine nI (by omega) ?_) <;> conv => whnf))
    refine ⟨k + 1, ?_, by omega, by omega⟩
    rw [hst]
    exact (meets_id (by (repeat' apply And.intro) <;> first | rfl | exact True.intro | (intro hh; cases hh)))
  · have : k = f.N := by omega
    subst this
    (conv => whnf); (repeat' ((first | refine bT ?_ | refine bF ?_ | refine bN ?_ | ((first | refine bD ?_ ?_ | refine bEq ?_ ?_ | refine bNe ?_ ?_) <;> intro hh <;> try (exfalso; omega)) | refine wIn (by omega) ?_ | refine nI (by omega) ?_) <;> conv => whnf))
    all_goals rfl
set_option maxHeartbeats 8000000 in
theorem s33 (f : Fig) (hok : f.ok) (B : List Int) (hl : B.length ≤ 1000000) : FnA Try.prog 33 [.agg f.cells, .isl (B.map iAV)] (fun r => ∃ b : Bool, r = .bool b ∧ (b = true ↔ f.okS B)) := by
  have hN := N_in hok
  have hti : f.ti.length = f.N := ti_len hok
  have l2 : (f.ti.map iAV).length = f.N := by simpa using hti
  have c0 := s64 B hl (f.ti.map iAV).length 0 1000000
  refine fnA 3 ok33 (by simp) ?_
  by_cases hg : (∀ x ∈ B, 0 ≤ x ∧ x ≤ 1000000) ∧ (B.length : Int) = ↑(f.ti.map iAV).length
  case neg =>
    rw [decide_eq_false hg] at c0
    (conv => whnf); (repeat' ((first | refine bT ?_ | refine bF ?_ | refine bN ?_ | ((first | refine bD ?_ ?_ | refine bEq ?_ ?_ | refine bNe ?_ ?_) <;> intro hh <;> try (exfalso; omega)) | (refine (c0).callq rfl rfl fun _ h => ?_; subst h) | refine wIn (by omega) ?_ | refine nI (by omega) ?_) <;> conv => whnf))
    all_goals exact ⟨false, rfl, by simp, fun h => absurd ⟨h.val, by rw [h.len, l2]⟩ hg⟩
  rw [decide_eq_true hg] at c0
  obtain ⟨hv, hB⟩ := hg
  have hB : B.length = f.N := by omega
  have l1 : (B.map iAV).length = f.N := by simpa using hB
  have hval : ∀ i, i < f.N → 0 ≤ B.getD i 0 ∧ B.getD i 0 ≤ 1000000 := fun i hi => getD_in (p := fun x => 0 ≤ x ∧ x ≤ 1000000) hv (by omega)
  have hgB : ∀ i, i < f.N → (B.map iAV).getD i [] = [.int .i64 (B.getD i 0)] := fun i hi => row_at (by omega)
  have hgT : ∀ i, i < f.N → (f.ti.map iAV).getD i [] = [.int .i64 (f.T i)] := fun i hi => row_at (by omega)
  (conv => whnf); (repeat' ((first | refine bT ?_ | refine bF ?_ | refine bN ?_ | ((first | refine bD ?_ ?_ | refine bEq ?_ ?_ | refine bNe ?_ ?_) <;> intro hh <;> try (exfalso; omega)) | (refine (c0).callq rfl rfl fun _ h => ?_; subst h) | refine wIn (by omega) ?_ | refine nI (by omega) ?_) <;> conv => whnf))
  refine loop_i (α := Nat) (fun a => [(5, .int .i64 a), (2, .own 0 0), (1, .isl (B.map iAV))]) (fun a => [.box false f.cells, .fresh, .fresh]) (fun a => a ≤ f.N ∧ ∀ x, x < a → ∀ y, y < x → f.lap B x y → ∀ g, g < f.N → ¬ f.both B x y g) (fun a => f.N - a) 0 (meets_id (by (repeat' apply And.intro) <;> first | rfl | exact True.intro | (intro hh; cases hh))) ⟨by omega, fun x hx => by omega⟩ ?_
  rintro a ⟨ha0, hina⟩
  conv => whnf
  refine bD (fun h4 => ?_) (fun h4 => ?_)
  · have ha : a < f.N := by omega
    have va := hval a ha
    have ta := T_in hok ha
    (conv => whnf); (repeat' ((first | refine bT ?_ | refine bF ?_ | refine bN ?_ | ((first | refine bD ?_ ?_ | refine bEq ?_ ?_ | refine bNe ?_ ?_) <;> intro hh <;> try (exfalso; omega)) | refine wIn (by omega) ?_ | refine nI (by omega) ?_) <;> conv => whnf))
    refine loop_i (α := Nat) (fun b => [(6, .int .i64 b), (5, .int .i64 a), (2, .own 0 0), (1, .isl (B.map iAV))]) (fun b => [.box false f.cells, .fresh, .fresh]) (fun b => b ≤ a ∧ ∀ y, y < b → f.lap B a y → ∀ g, g < f.N → ¬ f.both B a y g) (fun b => a - b) 0 (meets_id (by (repeat' apply And.intro) <;> first | rfl | exact True.intro | (intro hh; cases hh))) ⟨by omega, fun x hx => by omega⟩ ?_
    rintro b ⟨hb0, hinb⟩
    conv => whnf
    refine bD (fun h5 => ?_) (fun h5 => ?_)
    · have hb : b < f.N := by omega
      have vb := hval b hb
      have tb := T_in hok hb
      by_cases hlap : f.lap B a b
      case neg =>
        have hn : ¬ (B.getD a 0 < B.getD b 0 + f.T b ∧ B.getD b 0 < B.getD a 0 + f.T a) := hlap
        by_cases h1 : B.getD b 0 + f.T b ≤ B.getD a 0
        · (conv => whnf); (repeat' ((first | refine bT ?_ | refine bF ?_ | refine bN ?_ | ((first | refine bD ?_ ?_ | refine bEq ?_ ?_ | refine bNe ?_ ?_) <;> intro hh <;> try (exfalso; omega)) | (refine iaI (by omega) (by omega) (hgB a ha) ?_) | (refine iaI (by omega) (by omega) (hgB b hb) ?_) | (refine iaI (by omega) (by omega) (hgT b hb) ?_) | (refine iaI (by omega) (by omega) (hgT a ha) ?_) | refine wIn (by omega) ?_ | refine nI (by omega) ?_) <;> conv => whnf))
          refine ⟨b + 1, (meets_id (by (repeat' apply And.intro) <;> first | rfl | exact True.intro | (intro hh; cases hh))), ⟨by omega, fun y hy hl2 => ?_⟩, by omega⟩
          by_cases e : y = b
          · subst e; exact absurd hl2 hlap
          · exact hinb y (by omega) hl2
        · (conv => whnf); (repeat' ((first | refine bT ?_ | refine bF ?_ | refine bN ?_ | ((first | refine bD ?_ ?_ | refine bEq ?_ ?_ | refine bNe ?_ ?_) <;> intro hh <;> try (exfalso; omega)) | (refine iaI (by omega) (by omega) (hgB a ha) ?_) | (refine iaI (by omega) (by omega) (hgB b hb) ?_) | (refine iaI (by omega) (by omega) (hgT b hb) ?_) | (refine iaI (by omega) (by omega) (hgT a ha) ?_) | refine wIn (by omega) ?_ | refine nI (by omega) ?_) <;> conv => whnf))
          refine ⟨b + 1, (meets_id (by (repeat' apply And.intro) <;> first | rfl | exact True.intro | (intro hh; cases hh))), ⟨by omega, fun y hy hl2 => ?_⟩, by omega⟩
          by_cases e : y = b
          · subst e; exact absurd hl2 hlap
          · exact hinb y (by omega) hl2
      have hlp : B.getD a 0 < B.getD b 0 + f.T b ∧ B.getD b 0 < B.getD a 0 + f.T a := hlap
      have oa := s71 f hok B hB hv a ha
      have ob := s71 f hok B hB hv b hb
      have la : ((f.occ B a f.N).map bAV).length = f.N := by rw [List.length_map, occ_len]
      have lb : ((f.occ B b f.N).map bAV).length = f.N := by rw [List.length_map, occ_len]
      (conv => whnf); (repeat' ((first | refine bT ?_ | refine bF ?_ | refine bN ?_ | ((first | refine bD ?_ ?_ | refine bEq ?_ ?_ | refine bNe ?_ ?_) <;> intro hh <;> try (exfalso; omega)) | (refine iaI (by omega) (by omega) (hgB a ha) ?_) | (refine iaI (by omega) (by omega) (hgB b hb) ?_) | (refine iaI (by omega) (by omega) (hgT b hb) ?_) | (refine iaI (by omega) (by omega) (hgT a ha) ?_) | (refine (oa).callzq rfl rfl fun _ h => ?_; subst h) | (refine (ob).callzq rfl rfl fun _ h => ?_; subst h) | refine wIn (by omega) ?_ | refine nI (by omega) ?_) <;> conv => whnf))
      refine loop_i (α := Nat) (fun g => [(9, .int .i64 g), (8, .isl ((f.occ B b f.N).map bAV)), (7, .isl ((f.occ B a f.N).map bAV)), (6, .int .i64 b), (5, .int .i64 a), (2, .own 0 0), (1, .isl (B.map iAV))]) (fun b => [.box false f.cells, .fresh, .fresh]) (fun g => g ≤ f.N ∧ ∀ y, y < g → ¬ f.both B a b y) (fun g => f.N - g) 0 (meets_id (by (repeat' apply And.intro) <;> first | rfl | exact True.intro | (intro hh; cases hh))) ⟨by omega, fun x hx => by omega⟩ ?_
      rintro g ⟨hg0, hing⟩
      conv => whnf
      refine bD (fun h6 => ?_) (fun h6 => ?_)
      · have hg : g < f.N := by omega
        have ga : ((f.occ B a f.N).map bAV).getD g [] = [.bool ((f.occ B a f.N).getD g false)] := getD_b (by rw [occ_len]; exact hg)
        have gb : ((f.occ B b f.N).map bAV).getD g [] = [.bool ((f.occ B b f.N).getD g false)] := getD_b (by rw [occ_len]; exact hg)
        cases h1 : (f.occ B a f.N).getD g false with
        | true =>
          rw [h1] at ga
          cases h2 : (f.occ B b f.N).getD g false with
          | true =>
            rw [h2] at gb
            (conv => whnf); (repeat' ((first | refine bT ?_ | refine bF ?_ | refine bN ?_ | ((first | refine bD ?_ ?_ | refine bEq ?_ ?_ | refine bNe ?_ ?_) <;> intro hh <;> try (exfalso; omega)) | (refine iaI (by omega) (by omega) ga ?_) | (refine iaI (by omega) (by omega) gb ?_) | refine wIn (by omega) ?_ | refine nI (by omega) ?_) <;> conv => whnf))
            all_goals exact ⟨false, rfl, by simp, fun h => absurd ⟨h1, h2⟩ (h.no a ha b (by omega) hlap g hg)⟩
          | false =>
            rw [h2] at gb
            (conv => whnf); (repeat' ((first | refine bT ?_ | refine bF ?_ | refine bN ?_ | ((first | refine bD ?_ ?_ | refine bEq ?_ ?_ | refine bNe ?_ ?_) <;> intro hh <;> try (exfalso; omega)) | (refine iaI (by omega) (by omega) ga ?_) | (refine iaI (by omega) (by omega) gb ?_) | refine wIn (by omega) ?_ | refine nI (by omega) ?_) <;> conv => whnf))
            refine ⟨g + 1, (meets_id (by (repeat' apply And.intro) <;> first | rfl | exact True.intro | (intro hh; cases hh))), ⟨by omega, fun y hy hl2 => ?_⟩, by omega⟩
            by_cases e : y = g
            · subst e; rw [hl2.2] at h2; cases h2
            · exact hing y (by omega) hl2
        | false =>
          rw [h1] at ga
          (conv => whnf); (repeat' ((first | refine bT ?_ | refine bF ?_ | refine bN ?_ | ((first | refine bD ?_ ?_ | refine bEq ?_ ?_ | refine bNe ?_ ?_) <;> intro hh <;> try (exfalso; omega)) | (refine iaI (by omega) (by omega) ga ?_) | (refine iaI (by omega) (by omega) gb ?_) | refine wIn (by omega) ?_ | refine nI (by omega) ?_) <;> conv => whnf))
          refine ⟨g + 1, (meets_id (by (repeat' apply And.intro) <;> first | rfl | exact True.intro | (intro hh; cases hh))), ⟨by omega, fun y hy hl2 => ?_⟩, by omega⟩
          by_cases e : y = g
          · subst e; rw [hl2.1] at h1; cases h1
          · exact hing y (by omega) hl2
      · have : g = f.N := by omega
        subst this
        (conv => whnf); (repeat' ((first | refine bT ?_ | refine bF ?_ | refine bN ?_ | ((first | refine bD ?_ ?_ | refine bEq ?_ ?_ | refine bNe ?_ ?_) <;> intro hh <;> try (exfalso; omega)) | refine wIn (by omega) ?_ | refine nI (by omega) ?_) <;> conv => whnf))
        refine ⟨b + 1, (meets_id (by (repeat' apply And.intro) <;> first | rfl | exact True.intro | (intro hh; cases hh))), ⟨by omega, fun y hy hl2 => ?_⟩, by omega⟩
        by_cases e : y = b
        · subst e; exact hing
        · exact hinb y (by omega) hl2
    · have : b = a := by omega
      subst this
      (conv => whnf); (repeat' ((first | refine bT ?_ | refine bF ?_ | refine bN ?_ | ((first | refine bD ?_ ?_ | refine bEq ?_ ?_ | refine bNe ?_ ?_) <;> intro hh <;> try (exfalso; omega)) | refine wIn (by omega) ?_ | refine nI (by omega) ?_) <;> conv => whnf))
      refine ⟨b + 1, (meets_id (by (repeat' apply And.intro) <;> first | rfl | exact True.intro | (intro hh; cases hh))), ⟨by omega, fun x hx => ?_⟩, by omega⟩
      by_cases e : x = b
      · subst e; exact hinb
      · exact hina x (by omega)
  · have : a = f.N := by omega
    subst this
    (conv => whnf); (repeat' ((first | refine bT ?_ | refine bF ?_ | refine bN ?_ | ((first | refine bD ?_ ?_ | refine bEq ?_ ?_ | refine bNe ?_ ?_) <;> intro hh <;> try (exfalso; omega)) | refine wIn (by omega) ?_ | refine nI (by omega) ?_) <;> conv => whnf))
    all_goals exact ⟨true, rfl, fun _ => ⟨hB, hv, fun x hx y hy => hina x hx y hy⟩, fun _ => rfl⟩
theorem arcL_stab (f : Fig) {m i : Nat} : ∀ k, m ≤ k → arcL (f.arcsT k) m i = arcL (f.arcsT m) m i := by
  intro k hk
  induction k with
  | zero => obtain rfl : m = 0 := by omega
            rfl
  | succ k ih =>
    by_cases h : m = k + 1
    · subst h; rfl
    · rw [← ih (by omega)]
      have hl := arcsT_len f k
      unfold arcL
      congr 2
      simp only [Fig.arcsT, List.getD_eq_getElem?_getD]
      rw [List.getElem?_append_left (by omega)]
/-- the seam of an arc that is begun last -/
theorem E_last {f : Fig} (hok : f.ok) {m i : Nat} (hm : m + 1 < f.N) (hi : i < f.N) : ∃ c, c ≤ m ∧ f.E (m + 1) i = f.V m i c ∧ arcL f.A (m + 1) i = (((i + c) % f.N : Nat) : Int) := by
  have hA := arcsT_ok hok m (by omega)
  have hl := arcsT_len f m
  have hnew : (f.arcsT (m + 1)).getD (m + 1) [] = (List.range f.N).map (f.soon (f.arcsT m)) := by
    simp only [Fig.arcsT, List.getD_eq_getElem?_getD]
    rw [List.getElem?_append_right (by omega), hl]; simp
  have he : f.E (m + 1) i = (f.soon (f.arcsT m) i).1 := by
    unfold Fig.E arcE; rw [hnew]; simp [List.getD_eq_getElem?_getD, hi]
  have hL : arcL f.A (m + 1) i = (f.soon (f.arcsT m) i).2 := by
    unfold Fig.A
    rw [arcL_stab f (f.N - 1) (by omega)]
    unfold arcL; rw [hnew]; simp [List.getD_eq_getElem?_getD, hi]
  have hV : ∀ b, b ≤ m → f.endB (f.arcsT m) i b = f.V m i b := fun b hb => by
    unfold Fig.endB Fig.V
    rw [hl, arcE_stab f m (by omega), arcE_stab f m (by omega), show m + 1 - 1 - b = m - b by omega]
  rcases soonN_in hok hA hi (f.arcsT m).length (Nat.le_refl _) with ⟨h1, _⟩ | ⟨_, c, h2, h3⟩
  · omega
  · exact ⟨c, by omega, by rw [he, ← hV c (by omega)]; unfold Fig.soon; rw [h3], by rw [hL]; unfold Fig.soon; rw [h3]⟩
theorem A_E (f : Fig) {m i : Nat} (hm : m < f.N) : arcE f.A m i = f.E m i := arcE_stab f (f.N - 1) (by omega)
/-- the seam at a place, counted from a seam on -/
def Fig.sp (f : Fig) (s p : Nat) : Nat := (s + p) % f.N
theorem sp_lt {f : Fig} (hok : f.ok) (s p : Nat) : f.sp s p < f.N := Nat.mod_lt _ (by have := N_in hok; omega)
theorem sp_ne {f : Fig} {s p q : Nat} (h1 : p < f.N) (h2 : q < f.N) (h : p ≠ q) : f.sp s p ≠ f.sp s q := add_mod_ne h1 h2 h
theorem sp_add {f : Fig} (s p c : Nat) : (f.sp s p + c) % f.N = f.sp s (p + c) := by
  unfold Fig.sp; rw [Nat.mod_add_mod]; congr 1; omega
/-- an arc is sewn as soon as it can be -/
def Sub (f : Fig) (s : Nat) (v : Nat → Int) : Nat → Nat → Nat → Prop
  | 0, _, _ => True
  | n + 1, lo, many => many = 0 ∨ ∃ c, c < many ∧ v (lo + c) + f.T (f.sp s (lo + c)) = f.E many (f.sp s lo) ∧ f.E c (f.sp s lo) ≤ v (lo + c) ∧ f.E (many - 1 - c) (f.sp s (lo + c + 1)) ≤ v (lo + c) ∧ Sub f s v n lo c ∧ Sub f s v n (lo + c + 1) (many - 1 - c)
theorem Sub_congr {f : Fig} {s : Nat} {v w : Nat → Int} : ∀ (n lo many : Nat), (∀ p, lo ≤ p → p < lo + many → v p = w p) → Sub f s v n lo many → Sub f s w n lo many
  | 0, _, _, _, _ => trivial
  | n + 1, lo, many, h, hs => by
    rcases hs with h0 | ⟨c, h1, h2, h3, h4, h5, h6⟩
    · exact .inl h0
    · have hv := h (lo + c) (by omega) (by omega)
      exact .inr ⟨c, h1, by rw [← hv]; exact h2, by rw [← hv]; exact h3, by rw [← hv]; exact h4, Sub_congr n lo c (fun p a b => h p a (by omega)) h5, Sub_congr n (lo + c + 1) (many - 1 - c) (fun p a b => h p (by omega) (by omega)) h6⟩
theorem getD_set_ne {l : List Int} {i j : Nat} {x : Int} (h : i ≠ j) : (l.set i x).getD j 0 = l.getD j 0 := by
  simp only [List.getD_eq_getElem?_getD, List.getElem?_set, if_neg h]
theorem getD_set_eq {l : List Int} {i : Nat} {x : Int} (h : i < l.length) : (l.set i x).getD i 0 = x := by
  simp [List.getD_eq_getElem?_getD, h]
theorem rest_sub {f : Fig} (hok : f.ok) (s : Nat) : ∀ (n lo many : Nat) (b : List Int), many ≤ n → lo + many < f.N → b.length = f.N →
    (∀ q, q < f.N → (q < lo ∨ lo + many ≤ q) → (f.rest f.A n (f.sp s lo) many b).getD (f.sp s q) 0 = b.getD (f.sp s q) 0) ∧ Sub f s (fun p => (f.rest f.A n (f.sp s lo) many b).getD (f.sp s p) 0) n lo many
  | 0, lo, many, b, hm, hN, hb => ⟨fun q _ _ => rfl, trivial⟩
  | n + 1, lo, many, b, hm, hlt, hb => by
    have hN := N_in hok
    cases many with
    | zero =>
      have : f.rest f.A (n + 1) (f.sp s lo) 0 b = b := by simp [Fig.rest]
      rw [this]
      exact ⟨fun q _ _ => rfl, .inl rfl⟩
    | succ m =>
      obtain ⟨c, hc, hE, hL⟩ := E_last hok (m := m) (by omega) (sp_lt hok s lo)
      have hbk := back_mod (i := f.sp s lo) (c := c) (N := f.N) (sp_lt hok s lo) (by omega)
      have hla : (f.sp s lo + c) % f.N = f.sp s (lo + c) := sp_add s lo c
      have hla1 : (f.sp s (lo + c) + 1) % f.N = f.sp s (lo + c + 1) := sp_add s (lo + c) 1
      have hrest : f.rest f.A (n + 1) (f.sp s lo) (m + 1) b = f.rest f.A n (f.sp s (lo + c + 1)) (m - c) (f.rest f.A n (f.sp s lo) c (b.set (f.sp s (lo + c)) (f.E (m + 1) (f.sp s lo) - f.T (f.sp s (lo + c))))) := by
        simp only [Fig.rest]
        rw [if_neg (by omega), hL, hbk, A_E f (by omega), Int.toNat_natCast, hla, hla1, show m + 1 - 1 - c = m - c by omega]
      have hb' : (b.set (f.sp s (lo + c)) (f.E (m + 1) (f.sp s lo) - f.T (f.sp s (lo + c)))).length = f.N := by rw [List.length_set]; exact hb
      obtain ⟨a1, b1⟩ := rest_sub hok s n lo c _ (by omega) (by omega) hb'
      have hb2 : (f.rest f.A n (f.sp s lo) c (b.set (f.sp s (lo + c)) (f.E (m + 1) (f.sp s lo) - f.T (f.sp s (lo + c))))).length = f.N := by rw [rest_len]; exact hb'
      obtain ⟨a2, b2⟩ := rest_sub hok s n (lo + c + 1) (m - c) _ (by omega) (by omega) hb2
      have hx : f.E (m + 1) (f.sp s lo) = max (f.E c (f.sp s lo)) (f.E (m - c) (f.sp s (lo + c + 1))) + f.T (f.sp s (lo + c)) := by
        rw [hE]; unfold Fig.V; rw [hla, hla1]
      rw [hrest]
      have hv := (a2 (lo + c) (by omega) (.inl (by omega))).trans ((a1 (lo + c) (by omega) (.inr (by omega))).trans (getD_set_eq (by rw [hb]; exact sp_lt hok s _)))
      refine ⟨fun q hq h => (a2 q hq (by omega)).trans ((a1 q hq (by omega)).trans (getD_set_ne (sp_ne (by omega) hq (by omega)))), .inr ⟨c, by omega, ?_, ?_, ?_, ?_, ?_⟩⟩
      · dsimp only
        rw [hv]; omega
      · dsimp only
        rw [hv]; omega
      · dsimp only
        rw [hv, show m + 1 - 1 - c = m - c by omega]; omega
      · refine Sub_congr n lo c (fun p h1 h2 => ?_) b1
        exact (a2 p (by omega) (.inl (by omega))).symm
      · rw [show m + 1 - 1 - c = m - c by omega]
        exact b2
theorem Sub_in {f : Fig} (hok : f.ok) {s : Nat} {v : Nat → Int} : ∀ (n lo many : Nat), many ≤ n → lo + many < f.N → Sub f s v n lo many → ∀ p, lo ≤ p → p < lo + many → 0 ≤ v p ∧ v p + f.T (f.sp s p) ≤ f.E many (f.sp s lo)
  | 0, lo, many, h1, h2, hs, p, h3, h4 => by omega
  | n + 1, lo, many, h1, h2, hs, p, h3, h4 => by
    rcases hs with h0 | ⟨c, k1, k2, k3, k4, k5, k6⟩
    · omega
    · have e1 := E_in hok (m := c) (by omega) (sp_lt hok s lo)
      have hT := T_in hok (sp_lt hok s (lo + c))
      by_cases e : p = lo + c
      · subst e; omega
      · by_cases hlt : p < lo + c
        · have := Sub_in hok n lo c (by omega) (by omega) k5 p h3 hlt
          omega
        · have := Sub_in hok n (lo + c + 1) (many - 1 - c) (by omega) (by omega) k6 p (by omega) (by omega)
          omega
theorem occ1_snd {f : Fig} {B : List Int} {s : Nat} {l : List Bool} {i g : Nat} (h : (f.occ1 B s l i).getD g false = true) : l.getD g false = true ∨ (f.endd B s i = true ∧ (l.getD i false = true ∨ l.getD ((i + 1) % f.N) false = true) ∧ (g = i ∨ g = (i + 1) % f.N)) := by
  unfold Fig.occ1 at h
  split at h
  · rename_i h1
    simp only [Bool.and_eq_true, Bool.or_eq_true] at h1
    by_cases e1 : g = i
    · exact .inr ⟨h1.1, h1.2, .inl e1⟩
    · by_cases e2 : g = (i + 1) % f.N
      · exact .inr ⟨h1.1, h1.2, .inr e2⟩
      · left
        simp only [List.getD_eq_getElem?_getD, List.getElem?_set] at h ⊢
        rwa [if_neg (fun e => e2 e.symm), if_neg (fun e => e1 e.symm)] at h
  · exact .inl h
theorem occ_snd {f : Fig} {B : List Int} {s : Nat} {G : Nat → Prop} (h0 : G s) (h1 : G ((s + 1) % f.N)) (hc : ∀ i, i < f.N → f.endd B s i = true → (G i ∨ G ((i + 1) % f.N)) → G i ∧ G ((i + 1) % f.N)) : ∀ r g, (f.occ B s r).getD g false = true → G g
  | 0, g, h => by
    by_cases e1 : g = s
    · subst e1; exact h0
    · by_cases e2 : g = (s + 1) % f.N
      · subst e2; exact h1
      · exfalso
        simp only [Fig.occ, List.getD_eq_getElem?_getD, List.getElem?_set, if_neg (fun e : (s + 1) % f.N = g => e2 e.symm), if_neg (fun e : s = g => e1 e.symm), List.getElem?_replicate] at h
        split at h <;> simp at h
  | r + 1, g, h => by
    have key : ∀ k, k ≤ f.N → ∀ g, (f.occR B s (f.occ B s r) k).getD g false = true → G g := by
      intro k
      induction k with
      | zero => exact fun _ g hg => occ_snd h0 h1 hc r g hg
      | succ k ih =>
        intro hk g hg
        rcases occ1_snd hg with h2 | ⟨h2, h3, h4⟩
        · exact ih (by omega) g h2
        · have := hc k (by omega) h2 (h3.imp (ih (by omega) _) (ih (by omega) _))
          rcases h4 with rfl | rfl
          · exact this.1
          · exact this.2
    exact key f.N (Nat.le_refl _) g h
/-- what is seen from a seam: beginnings by place -/
def Fig.bp (f : Fig) (B : List Int) (s p : Nat) : Int := B.getD (f.sp s p) 0
theorem sp_succ {f : Fig} (s p : Nat) : (f.sp s p + 1) % f.N = f.sp s (p + 1) := sp_add s p 1
/-- a place for each seam -/
theorem sp_of {f : Fig} (hok : f.ok) {s i : Nat} (hs : s < f.N) (hi : i < f.N) : ∃ p, p < f.N ∧ i = f.sp s p := by
  have hN := N_in hok
  by_cases h : s ≤ i
  · exact ⟨i - s, by omega, by unfold Fig.sp; rw [show s + (i - s) = i by omega, Nat.mod_eq_of_lt hi]⟩
  · exact ⟨i + f.N - s, by omega, by unfold Fig.sp; rw [show s + (i + f.N - s) = i + f.N by omega, Nat.add_mod_right, Nat.mod_eq_of_lt hi]⟩
/-- what a seam of an arc occupies lies in the arc, if the seams beside the arc have not ended -/
theorem occ_arc {f : Fig} (hok : f.ok) {B : List Int} {s lo many p : Nat} (hs : s < f.N) (hlt : lo + many < f.N) (h1 : lo ≤ p) (h2 : p < lo + many)
    (hl : f.bp B s p < f.bp B s ((lo + f.N - 1) % f.N) + f.T (f.sp s ((lo + f.N - 1) % f.N))) (hr : f.bp B s p < f.bp B s (lo + many) + f.T (f.sp s (lo + many))) {g : Nat}
    (hg : (f.occ B (f.sp s p) f.N).getD g false = true) : ∃ q, lo ≤ q ∧ q ≤ lo + many ∧ g = f.sp s q := by
  have hN := N_in hok
  refine occ_snd (G := fun g => ∃ q, lo ≤ q ∧ q ≤ lo + many ∧ g = f.sp s q) ⟨p, h1, by omega, rfl⟩ ⟨p + 1, by omega, by omega, sp_succ s p⟩ (fun i hi he hor => ?_) f.N g hg
  have hend := of_decide_eq_true he
  obtain ⟨k, hk, rfl⟩ := sp_of hok hs hi
  change f.bp B s k + f.T (f.sp s k) ≤ f.bp B s p at hend
  rw [sp_succ] at hor ⊢
  by_cases hkin : lo ≤ k ∧ k < lo + many
  · exact ⟨⟨k, by omega, by omega, rfl⟩, k + 1, by omega, by omega, rfl⟩
  · exfalso
    rcases hor with ⟨q, q1, q2, q3⟩ | ⟨q, q1, q2, q3⟩
    · have : k = q := Classical.byContradiction fun hne => sp_ne hk (by omega) hne q3
      have : k = lo + many := by omega
      subst this; omega
    · by_cases hk1 : k + 1 < f.N
      · have : k + 1 = q := Classical.byContradiction fun hne => sp_ne hk1 (by omega) hne q3
        have e : (lo + f.N - 1) % f.N = k := by
          rw [show lo + f.N - 1 = k + f.N by omega, Nat.add_mod_right, Nat.mod_eq_of_lt hk]
        rw [e] at hl; omega
      · have e0 : f.sp s (k + 1) = f.sp s 0 := by
          unfold Fig.sp; rw [show s + (k + 1) = s + 0 + f.N by omega, Nat.add_mod_right]
        rw [e0] at q3
        have : 0 = q := Classical.byContradiction fun hne => sp_ne (by omega) (by omega) hne q3
        have e : (lo + f.N - 1) % f.N = k := by
          rw [show lo + f.N - 1 = k by omega, Nat.mod_eq_of_lt hk]
        rw [e] at hl; omega
/-- two seams of an arc that are sewn at the same time occupy no gore in common -/
theorem Sub_sep {f : Fig} (hok : f.ok) {B : List Int} {s : Nat} (hs : s < f.N) : ∀ (n lo many : Nat), many ≤ n → lo + many < f.N → Sub f s (f.bp B s) n lo many →
    f.E many (f.sp s lo) ≤ f.bp B s ((lo + f.N - 1) % f.N) → f.E many (f.sp s lo) ≤ f.bp B s (lo + many) →
    ∀ p q, lo ≤ p → p < q → q < lo + many → f.lap B (f.sp s p) (f.sp s q) → ∀ g, ¬ f.both B (f.sp s p) (f.sp s q) g
  | 0, lo, many, h1, h2, hS, hl, hr, p, q, k1, k2, k3 => by omega
  | n + 1, lo, many, h1, h2, hS, hl, hr, p, q, k1, k2, k3 => by
    have hN := N_in hok
    have hT0 : ∀ x, 1 ≤ f.T (f.sp s x) := fun x => (T_in hok (sp_lt hok s x)).1
    rcases hS with h0 | ⟨c, c1, c2, c3, c4, c5, c6⟩
    · omega
    intro hlap g hb
    have hlap' : f.bp B s p < f.bp B s q + f.T (f.sp s q) ∧ f.bp B s q < f.bp B s p + f.T (f.sp s p) := hlap
    have inL := Sub_in hok n lo c (by omega) (by omega) c5
    have inR := Sub_in hok n (lo + c + 1) (many - 1 - c) (by omega) (by omega) c6
    have tc := hT0 (lo + c)
    have eb : (lo + c + 1 + f.N - 1) % f.N = lo + c := by
      rw [show lo + c + 1 + f.N - 1 = lo + c + f.N by omega, Nat.add_mod_right, Nat.mod_eq_of_lt (by omega)]
    have er : lo + c + 1 + (many - 1 - c) = lo + many := by omega
    by_cases hq : q < lo + c
    · exact Sub_sep hok hs n lo c (by omega) (by omega) c5 (by omega) c3 p q k1 k2 hq hlap g hb
    by_cases hp : lo + c < p
    · exact Sub_sep hok hs n (lo + c + 1) (many - 1 - c) (by omega) (by omega) c6 (by rw [eb]; exact c4) (by rw [er]; omega) p q (by omega) k2 (by omega) hlap g hb
    by_cases hpc : p = lo + c
    · subst hpc
      have := inR q (by omega) (by omega)
      omega
    by_cases hqc : q = lo + c
    · subst hqc
      have := inL p k1 (by omega)
      omega
    have a1 := inL p k1 (by omega)
    have a2 := inR q (by omega) (by omega)
    have tp := hT0 p
    have tq := hT0 q
    have tl := hT0 ((lo + f.N - 1) % f.N)
    have tr := hT0 (lo + many)
    obtain ⟨x, x1, x2, x3⟩ := occ_arc hok (many := c) hs (by omega) k1 (by omega) (by omega) (by omega) hb.1
    obtain ⟨y, y1, y2, y3⟩ := occ_arc hok (lo := lo + c + 1) (many := many - 1 - c) hs (by omega) (by omega) (by omega) (by rw [eb]; omega) (by rw [er]; omega) hb.2
    exact sp_ne (f := f) (s := s) (p := x) (q := y) (by omega) (by omega) (by omega) (by rw [← x3, ← y3])
theorem snd_w {f : Fig} (hok : f.ok) : f.snd = f.E (f.N - 1) ((f.wl + 1) % f.N) + f.T f.wl := by
  obtain ⟨_, h2, h3⟩ := wh_eq hok
  unfold Fig.snd; rw [h3]
  unfold Fig.endW; rw [A_len hok]; rfl
theorem plan_len (f : Fig) : f.plan.length = f.N := by
  unfold Fig.plan; rw [rest_len]; simp
structure planOk (f : Fig) (s : Nat) : Prop where
  lt : s < f.N
  w : f.sp s (f.N - 1) = f.wl
  wb : f.bp f.plan s (f.N - 1) = f.E (f.N - 1) s
  sub : Sub f s (f.bp f.plan s) (f.N - 1) 0 (f.N - 1)
theorem plan_ok {f : Fig} (hok : f.ok) : planOk f ((f.wl + 1) % f.N) := by
  have hN := N_in hok
  have hw : f.wl < f.N := (wh_eq hok).2.1
  have hsl : (f.wl + 1) % f.N < f.N := Nat.mod_lt _ (by omega)
  have e0 : f.sp ((f.wl + 1) % f.N) 0 = (f.wl + 1) % f.N := by unfold Fig.sp; rw [Nat.add_zero, Nat.mod_eq_of_lt hsl]
  have e1 : f.sp ((f.wl + 1) % f.N) (f.N - 1) = f.wl := by
    unfold Fig.sp; rw [Nat.mod_add_mod, show f.wl + 1 + (f.N - 1) = f.wl + f.N by omega, Nat.add_mod_right, Nat.mod_eq_of_lt hw]
  have hR := rest_sub hok ((f.wl + 1) % f.N) (f.N - 1) 0 (f.N - 1) ((List.replicate f.N 0).set f.wl (f.snd - f.T f.wl)) (Nat.le_refl _) (by omega) (by simp)
  rw [e0] at hR
  refine ⟨hsl, e1, ?_, hR.2⟩
  have := hR.1 (f.N - 1) (by omega) (.inr (by omega))
  rw [e1, getD_set_eq (by simpa using hw)] at this
  have h2 := snd_w hok
  show f.plan.getD (f.sp ((f.wl + 1) % f.N) (f.N - 1)) 0 = _
  rw [e1]
  have h3 : f.plan.getD f.wl 0 = f.snd - f.T f.wl := this
  omega
theorem plan_bd {f : Fig} (hok : f.ok) {i : Nat} (hi : i < f.N) : 0 ≤ f.plan.getD i 0 ∧ f.plan.getD i 0 + f.T i ≤ f.snd := by
  have hN := N_in hok
  have hP := plan_ok hok
  have hsw := snd_w hok
  have e0 : f.sp ((f.wl + 1) % f.N) 0 = (f.wl + 1) % f.N := by unfold Fig.sp; rw [Nat.add_zero, Nat.mod_eq_of_lt hP.lt]
  obtain ⟨p, hp, rfl⟩ := sp_of hok hP.lt hi
  have hE := E_in hok (m := f.N - 1) (by omega) hP.lt
  by_cases h : p = f.N - 1
  · subst h
    have h1 := hP.wb
    have h2 := hP.w
    unfold Fig.bp at h1
    rw [h2] at h1 ⊢
    omega
  · have h1 := Sub_in hok (f.N - 1) 0 (f.N - 1) (Nat.le_refl _) (by omega) hP.sub p (by omega) (by omega)
    rw [e0] at h1
    unfold Fig.bp at h1
    have hT := T_in hok (wh_eq hok).2.1
    omega
theorem lap_symm {f : Fig} {B : List Int} {a b : Nat} (h : f.lap B a b) : f.lap B b a := ⟨h.2, h.1⟩
theorem plan_okS {f : Fig} (hok : f.ok) : f.okS f.plan := by
  have hN := N_in hok
  have hP := plan_ok hok
  have hsw := snd_w hok
  have e0 : f.sp ((f.wl + 1) % f.N) 0 = (f.wl + 1) % f.N := by unfold Fig.sp; rw [Nat.add_zero, Nat.mod_eq_of_lt hP.lt]
  have hsn := (wh_eq hok).1
  have hT0 : ∀ x, 1 ≤ f.T (f.sp ((f.wl + 1) % f.N) x) := fun x => (T_in hok (sp_lt hok _ x)).1
  refine ⟨plan_len f, fun x hx => ?_, fun a ha b hb hlap g hg hbo => ?_⟩
  · obtain ⟨i, hi, rfl⟩ := List.getElem_of_mem hx
    rw [plan_len] at hi
    have := plan_bd hok hi
    have hT := T_in hok hi
    rw [List.getD_eq_getElem?_getD, List.getElem?_eq_getElem (by rw [plan_len]; exact hi), Option.getD_some] at this
    omega
  · have key : ∀ p q, p < q → q < f.N → f.lap f.plan (f.sp ((f.wl + 1) % f.N) p) (f.sp ((f.wl + 1) % f.N) q) → ¬ f.both f.plan (f.sp ((f.wl + 1) % f.N) p) (f.sp ((f.wl + 1) % f.N) q) g := fun p q hpq hq hl => by
      by_cases hqw : q = f.N - 1
      · subst hqw
        have h1 := Sub_in hok (f.N - 1) 0 (f.N - 1) (Nat.le_refl _) (by omega) hP.sub p (by omega) (by omega)
        rw [e0] at h1
        have h2 := hP.wb
        have h3 : f.bp f.plan ((f.wl + 1) % f.N) (f.N - 1) < f.bp f.plan ((f.wl + 1) % f.N) p + f.T (f.sp ((f.wl + 1) % f.N) p) := hl.2
        omega
      · have hb0 : (0 + f.N - 1) % f.N = f.N - 1 := by rw [Nat.zero_add, Nat.mod_eq_of_lt (by omega)]
        exact Sub_sep hok hP.lt (f.N - 1) 0 (f.N - 1) (Nat.le_refl _) (by omega) hP.sub (by rw [e0, hb0, hP.wb]; exact Int.le_refl _) (by rw [e0, Nat.zero_add, hP.wb]; exact Int.le_refl _) p q (by omega) hpq (by omega) hl g
    obtain ⟨p, hp, rfl⟩ := sp_of hok hP.lt ha
    obtain ⟨q, hq, e⟩ := sp_of hok hP.lt (show b < f.N by omega)
    subst e
    by_cases hpq : p < q
    · exact key p q hpq hq hlap hbo
    · by_cases e : p = q
      · subst e; omega
      · exact key q p (by omega) hp (lap_symm hlap) ⟨hbo.2, hbo.1⟩
theorem plan_ends {f : Fig} (hok : f.ok) : f.ends f.plan f.N = f.snd := by
  have hN := N_in hok
  have hP := plan_ok hok
  have hsw := snd_w hok
  have hsn := (wh_eq hok).1
  have hw := (wh_eq hok).2.1
  have h1 : ∀ k, k ≤ f.N → f.ends f.plan k ≤ f.snd := by
    intro k
    induction k with
    | zero => intro _; simp only [Fig.ends]; omega
    | succ k ih =>
      intro hk
      have := ih (by omega)
      have := plan_bd hok (show k < f.N by omega)
      simp only [Fig.ends]; omega
  have h2 := ends_ge f f.plan (k := f.N) hw
  have h3 := hP.wb
  unfold Fig.bp at h3
  rw [hP.w] at h3
  have := h1 f.N (Nat.le_refl _)
  omega
/-- the best of what is tried so far -/
def bestI (v : Nat → Int) (j : Nat) (x : Int) : Prop := (j = 0 ∧ x = -1) ∨ (0 ≤ x ∧ (∃ b, b < j ∧ x = v b) ∧ ∀ b, b < j → x ≤ v b)
theorem bestI_step {v : Nat → Int} {j : Nat} {x : Int} (h : bestI v j x) (h0 : 0 ≤ v j) : bestI v (j + 1) (if x < 0 ∨ v j < x then v j else x) := by
  right
  rcases h with ⟨h1, h2⟩ | ⟨h1, ⟨b, h2, h3⟩, h4⟩
  · rw [if_pos (by omega)]
    exact ⟨h0, ⟨j, by omega, rfl⟩, fun b hb => by obtain rfl : b = j := by omega
                                                  exact Int.le_refl _⟩
  · by_cases hc : x < 0 ∨ v j < x
    · rw [if_pos hc]
      refine ⟨h0, ⟨j, by omega, rfl⟩, fun c hc2 => ?_⟩
      by_cases e : c = j
      · subst e; exact Int.le_refl _
      · have := h4 c (by omega); omega
    · rw [if_neg hc]
      refine ⟨h1, ⟨b, by omega, h3⟩, fun c hc2 => ?_⟩
      by_cases e : c = j
      · subst e; omega
      · exact h4 c (by omega)
theorem V_in {f : Fig} (hok : f.ok) {m i b : Nat} (hm : m + 1 < f.N) (hi : i < f.N) (hb : b ≤ m) : 0 ≤ f.V m i b ∧ f.V m i b ≤ 99 * (f.N : Nat) := by
  have hN := N_in hok
  have hm1 : ∀ x, x % f.N < f.N := fun x => Nat.mod_lt _ (by omega)
  have e1 := E_in hok (m := b) (by omega) hi
  have e2 := E_in hok (m := m - b) (by omega) (hm1 ((i + b) % f.N + 1))
  have hT := T_in hok (hm1 (i + b))
  unfold Fig.V; omega
set_option maxHeartbeats 8000000 in
/-- the reference's recursion -/
theorem s77 (f : Fig) (hok : f.ok) : ∀ (n k fr : Nat), k ≤ n → k < f.N → fr ≤ 1000 * (f.N - k) → FnA Try.prog 77 [.agg f.cells, .int .i64 fr, .int .i64 k] (· = .int .i64 (f.E k ((fr + 1) % f.N))) := by
  have hN := N_in hok
  have hti : f.ti.length = f.N := ti_len hok
  have l2 : (f.ti.map iAV).length = f.N := by simpa using hti
  have hm1 : ∀ x, x % f.N < f.N := fun x => Nat.mod_lt _ (by omega)
  have hgT : ∀ i, i < f.N → (f.ti.map iAV).getD i [] = [.int .i64 (f.T i)] := fun i hi => row_at (by omega)
  intro n
  induction n with
  | zero =>
    intro k fr hk hkN hfr
    obtain rfl : k = 0 := by omega
    rw [E_0 hok (hm1 _)]
    refine fnA 1 ok77 (by simp) ?_
    (conv => whnf); (repeat' ((first | refine bT ?_ | refine bF ?_ | refine bN ?_ | ((first | refine bD ?_ ?_ | refine bEq ?_ ?_ | refine bNe ?_ ?_) <;> intro hh <;> try (exfalso; omega)) | refine wIn (by omega) ?_ | refine nI (by omega) ?_) <;> conv => whnf))
    all_goals rfl
  | succ n ih =>
    intro k fr hk hkN hfr
    cases k with
    | zero =>
      rw [E_0 hok (hm1 _)]
      refine fnA 1 ok77 (by simp) ?_
      (conv => whnf); (repeat' ((first | refine bT ?_ | refine bF ?_ | refine bN ?_ | ((first | refine bD ?_ ?_ | refine bEq ?_ ?_ | refine bNe ?_ ?_) <;> intro hh <;> try (exfalso; omega)) | refine wIn (by omega) ?_ | refine nI (by omega) ?_) <;> conv => whnf))
      all_goals rfl
    | succ m =>
      refine fnA 1 ok77 (by simp) ?_
      (conv => whnf); (repeat' ((first | refine bT ?_ | refine bF ?_ | refine bN ?_ | ((first | refine bD ?_ ?_ | refine bEq ?_ ?_ | refine bNe ?_ ?_) <;> intro hh <;> try (exfalso; omega)) | refine wIn (by omega) ?_ | refine nI (by omega) ?_) <;> conv => whnf))
      refine loop_i (α := Nat × Int) (fun p => [(9, .int .i64 (p.1 + 1 : Nat)), (8, .int .i64 p.2), (7, .int .i64 (f.ti.map iAV).length), (3, .own 0 0), (2, .int .i64 (m + 1 : Nat)), (1, .int .i64 fr)]) (fun p => [.box false f.cells]) (fun p => p.1 ≤ m + 1 ∧ bestI (f.V m ((fr + 1) % f.N)) p.1 p.2) (fun p => m + 1 - p.1) (0, -1) (meets_id (by (repeat' apply And.intro) <;> first | rfl | exact True.intro | (intro hh; cases hh))) ⟨by simp, .inl ⟨rfl, rfl⟩⟩ ?_
      rintro ⟨j, x⟩ ⟨hj0, hx⟩
      simp only at hj0 hx
      dsimp only
      have hxb : -1 ≤ x ∧ x ≤ 1584 := by
        rcases hx with ⟨_, h⟩ | ⟨h1, ⟨b, h2, h3⟩, _⟩
        · omega
        · have := V_in hok hkN (hm1 (fr + 1)) (show b ≤ m by omega); omega
      conv => whnf
      refine bD (fun h4 => ?_) (fun h4 => ?_)
      · have hj : j ≤ m := by omega
        have hv := V_in hok hkN (hm1 (fr + 1)) hj
        have e1 := ih j fr (by omega) (by omega) (by have : 1000 * (f.N - (m + 1)) ≤ 1000 * (f.N - j) := Nat.mul_le_mul_left _ (by omega)
                                                     omega)
        have e2 := ih (m - j) (fr + (j + 1)) (by omega) (by omega) (by omega)
        have hT := T_in hok (hm1 (fr + (j + 1)))
        have hE1 := E_in hok (m := j) (by omega) (hm1 (fr + 1))
        have hE2 := E_in hok (m := m - j) (by omega) (hm1 (fr + (j + 1) + 1))
        have hV : f.V m ((fr + 1) % f.N) j = max (f.E j ((fr + 1) % f.N)) (f.E (m - j) ((fr + (j + 1) + 1) % f.N)) + f.T ((fr + (j + 1)) % f.N) := by
          unfold Fig.V
          rw [show ((fr + 1) % f.N + j) % f.N = (fr + (j + 1)) % f.N by rw [Nat.mod_add_mod]; congr 1; omega, Nat.mod_add_mod]
        have c1 : ((m - j : Nat) : Int) = ((m + 1 : Nat) : Int) - ((j + 1 : Nat) : Int) := by omega
        have c2 : ((fr + (j + 1) : Nat) : Int) = (fr : Int) + ((j + 1 : Nat) : Int) := by omega
        have c3 : (j : Int) = ((j + 1 : Nat) : Int) - 1 := by omega
        rw [c3] at e1
        rw [c1, c2] at e2
        have ht : ((fr : Int) + ((j + 1 : Nat) : Int)).tmod ↑(f.ti.map iAV).length = (((fr + (j + 1)) % f.N : Nat) : Int) := by
          rw [l2, Int.tmod_eq_emod_of_nonneg (by omega)]; push_cast; rfl
        have gT : (f.ti.map iAV).getD (((fr : Int) + ((j + 1 : Nat) : Int)).tmod ↑(f.ti.map iAV).length).toNat [] = [.int .i64 (f.T ((fr + (j + 1)) % f.N))] := by
          rw [ht]; exact hgT _ (hm1 _)
        have hb := hm1 (fr + (j + 1))
        have hEq : (if true = true then max (f.E j ((fr + 1) % f.N)) (f.E (m - j) ((fr + (j + 1) + 1) % f.N)) else min (f.E j ((fr + 1) % f.N)) (f.E (m - j) ((fr + (j + 1) + 1) % f.N))) + f.T ((fr + (j + 1)) % f.N) = f.V m ((fr + 1) % f.N) j := hV.symm
        (conv => whnf); (repeat' ((first | refine bT ?_ | refine bF ?_ | refine bN ?_ | ((first | refine bD ?_ ?_ | refine bEq ?_ ?_ | refine bNe ?_ ?_) <;> intro hh <;> try (exfalso; omega)) | (refine iaI (by omega) (by omega) gT ?_) | (refine (e1).callq rfl rfl fun _ h => ?_; subst h) | (refine (e2).callq rfl rfl fun _ h => ?_; subst h) | refine wIn (by omega) ?_ | refine nI (by omega) ?_) <;> conv => whnf))
        all_goals first
          | (refine ⟨(j + 1, f.V m ((fr + 1) % f.N) j), ?_, ⟨by simp only; omega, ?_⟩, by simp only; omega⟩
             · rw [hV]; exact (meets_id (by (repeat' apply And.intro) <;> first | rfl | exact True.intro | (intro hh; cases hh)))
             · have := bestI_step hx hv.1
               rw [if_pos (by omega)] at this; exact this)
          | (refine ⟨(j + 1, x), ?_, ⟨by simp only; omega, ?_⟩, by simp only; omega⟩
             · exact (meets_id (by (repeat' apply And.intro) <;> first | rfl | exact True.intro | (intro hh; cases hh)))
             · have := bestI_step hx hv.1
               rw [if_neg (by omega)] at this; exact this)
      · have : j = m + 1 := by omega
        subst this
        have hfin : f.E (m + 1) ((fr + 1) % f.N) = x := by
          rcases hx with ⟨h, _⟩ | ⟨h1, ⟨b, h2, h3⟩, h5⟩
          · omega
          · obtain ⟨⟨c, k1, k2⟩, k3⟩ := E_min hok hkN (hm1 (fr + 1))
            have := h5 c (by omega)
            have := k3 b (by omega)
            omega
        rw [hfin]
        (conv => whnf); (repeat' ((first | refine bT ?_ | refine bF ?_ | refine bN ?_ | ((first | refine bD ?_ ?_ | refine bEq ?_ ?_ | refine bNe ?_ ?_) <;> intro hh <;> try (exfalso; omega)) | refine wIn (by omega) ?_ | refine nI (by omega) ?_) <;> conv => whnf))
        all_goals rfl
def Fig.eW (f : Fig) (k : Nat) : Int := f.E (f.N - 1) ((k + 1) % f.N) + f.T k
theorem eW_in {f : Fig} (hok : f.ok) {k : Nat} (hk : k < f.N) : 0 ≤ f.eW k ∧ f.eW k ≤ 1584 := by
  have hN := N_in hok
  have h1 := E_in hok (m := f.N - 1) (i := (k + 1) % f.N) (by omega) (Nat.mod_lt _ (by omega))
  have h2 := T_in hok hk
  unfold Fig.eW; omega
set_option maxHeartbeats 8000000 in
theorem s43 (f : Fig) (hok : f.ok) (hs : f.small) : FnA Try.prog 43 [.agg f.cells] (· = .tup [.int .i64 f.snd, .int .i64 0]) := by
  have hN := N_in hok
  have hti : f.ti.length = f.N := ti_len hok
  have l2 : (f.ti.map iAV).length = f.N := by simpa using hti
  have c0 := s32 f hs
  rw [chkF_ok hok] at c0
  refine fnA 1 ok43 (by simp) ?_
  (conv => whnf); (repeat' ((first | refine bT ?_ | refine bF ?_ | refine bN ?_ | ((first | refine bD ?_ ?_ | refine bEq ?_ ?_ | refine bNe ?_ ?_) <;> intro hh <;> try (exfalso; omega)) | (refine (c0).callq rfl rfl fun _ h => ?_; subst h) | refine wIn (by omega) ?_ | refine nI (by omega) ?_) <;> conv => whnf))
  refine loop_i (α := Nat × Int) (fun p => [(6, .int .i64 p.1), (5, .int .i64 p.2), (1, .own 0 0)]) (fun p => [.box false f.cells]) (fun p => p.1 ≤ f.N ∧ bestI f.eW p.1 p.2) (fun p => f.N - p.1) (0, -1) (meets_id (by (repeat' apply And.intro) <;> first | rfl | exact True.intro | (intro hh; cases hh))) ⟨by simp, .inl ⟨rfl, rfl⟩⟩ ?_
  rintro ⟨j, x⟩ ⟨hj0, hx⟩
  simp only at hj0 hx
  dsimp only
  have hxb : -1 ≤ x ∧ x ≤ 1584 := by
    rcases hx with ⟨_, h⟩ | ⟨h1, ⟨b, h2, h3⟩, _⟩
    · omega
    · have := eW_in hok (show b < f.N by omega); omega
  conv => whnf
  refine bD (fun h4 => ?_) (fun h4 => ?_)
  · have hj : j < f.N := by omega
    have hv := eW_in hok hj
    have hE := E_in hok (m := f.N - 1) (i := (j + 1) % f.N) (by omega) (Nat.mod_lt _ (by omega))
    have hT := T_in hok hj
    have e1 := s77 f hok f.N (f.N - 1) j (by omega) (by omega) (by omega)
    have c3 : ((f.N - 1 : Nat) : Int) = (↑(f.ti.map iAV).length : Int) - 1 := by omega
    rw [c3] at e1
    have gT : (f.ti.map iAV).getD j [] = [.int .i64 (f.T j)] := row_at (by omega)
    have hEq : f.E (f.N - 1) ((j + 1) % f.N) + f.T j = f.eW j := rfl
    (conv => whnf); (repeat' ((first | refine bT ?_ | refine bF ?_ | refine bN ?_ | ((first | refine bD ?_ ?_ | refine bEq ?_ ?_ | refine bNe ?_ ?_) <;> intro hh <;> try (exfalso; omega)) | (refine iaI (by omega) (by omega) gT ?_) | (refine (e1).callq rfl rfl fun _ h => ?_; subst h) | refine wIn (by omega) ?_ | refine nI (by omega) ?_) <;> conv => whnf))
    all_goals first
      | (refine ⟨(j + 1, f.eW j), ?_, ⟨by simp only; omega, ?_⟩, by simp only; omega⟩
         · exact (meets_id (by (repeat' apply And.intro) <;> first | rfl | exact True.intro | (intro hh; cases hh)))
         · have := bestI_step hx hv.1
           rw [if_pos (by omega)] at this; exact this)
      | (refine ⟨(j + 1, x), ?_, ⟨by simp only; omega, ?_⟩, by simp only; omega⟩
         · exact (meets_id (by (repeat' apply And.intro) <;> first | rfl | exact True.intro | (intro hh; cases hh)))
         · have := bestI_step hx hv.1
           rw [if_neg (by omega)] at this; exact this)
  · have : j = f.N := by omega
    subst this
    have hfin : f.snd = x := by
      rcases hx with ⟨h, _⟩ | ⟨h1, ⟨b, h2, h3⟩, h5⟩
      · omega
      · obtain ⟨⟨c, k1, k2⟩, k3⟩ := snd_min hok
        have a1 := h5 c k1
        have a2 := k3 b h2
        unfold Fig.eW at h3 a1
        omega
    rw [hfin]
    (conv => whnf); (repeat' ((first | refine bT ?_ | refine bF ?_ | refine bN ?_ | ((first | refine bD ?_ ?_ | refine bEq ?_ ?_ | refine bNe ?_ ?_) <;> intro hh <;> try (exfalso; omega)) | refine wIn (by omega) ?_ | refine nI (by omega) ?_) <;> conv => whnf))
    all_goals rfl
theorem s43_no (f : Fig) (hok : ¬ f.ok) (hs : f.small) : FnA Try.prog 43 [.agg f.cells] (· = .tup [.int .i64 0, .int .i64 f.chk]) := by
  have c0 := s32 f hs
  have h0 := chkF_pos hok
  refine fnA 1 ok43 (by simp) ?_
  (conv => whnf); (repeat' ((first | refine bT ?_ | refine bF ?_ | refine bN ?_ | ((first | refine bD ?_ ?_ | refine bEq ?_ ?_ | refine bNe ?_ ?_) <;> intro hh <;> try (exfalso; omega)) | (refine (c0).callq rfl rfl fun _ h => ?_; subst h) | refine wIn (by omega) ?_ | refine nI (by omega) ?_) <;> conv => whnf))
  all_goals rfl
set_option maxHeartbeats 8000000 in
/-- SeamsSewn -/
theorem l13 (f : Fig) : FnA Try.prog 13 [.agg f.cells] (· = .bool true) := by
  have w := s20
  refine fnA 14 ok13 (by simp) ?_
  conv => whnf
  refine (s17 f).callq rfl rfl (fun r hr => ?_); obtain ⟨b, rfl, hb⟩ := hr
  cases b with
  | true =>
    (conv => whnf); (repeat' ((first | refine bT ?_ | refine bF ?_ | refine bN ?_ | ((first | refine bD ?_ ?_ | refine bEq ?_ ?_ | refine bNe ?_ ?_) <;> intro hh <;> try (exfalso; omega)) | (refine (w).callq rfl rfl fun _ h => ?_; subst h) | refine wIn (by omega) ?_ | refine nI (by omega) ?_) <;> conv => whnf))
    all_goals rfl
  | false =>
    have hs := hb rfl
    have e0 := s28o f hs
    by_cases hok : f.ok
    · have hN := N_in hok
      have a1 := s31 f hok
      have a2 := s43 f hok hs
      have a3 := s44 f hok
      have hpl := plan_len f
      have hS := plan_okS hok
      have a4 := s34 f hok f.plan hS.len hS.val
      rw [plan_ends hok] at a4
      (conv => whnf); (repeat' ((first | refine bT ?_ | refine bF ?_ | refine bN ?_ | ((first | refine bD ?_ ?_ | refine bEq ?_ ?_ | refine bNe ?_ ?_) <;> intro hh <;> try (exfalso; omega)) | refine wIn (by omega) ?_ | refine nI (by omega) ?_) <;> conv => whnf))
      refine e0.callzq rfl rfl (fun r rows (hr : r = _ ∧ rows = _) => ?_); obtain ⟨hr1, hr2⟩ := hr; subst hr1; subst hr2; refine ⟨rfl, ?_⟩
      (conv => whnf); (repeat' ((first | refine bT ?_ | refine bF ?_ | refine bN ?_ | ((first | refine bD ?_ ?_ | refine bEq ?_ ?_ | refine bNe ?_ ?_) <;> intro hh <;> try (exfalso; omega)) | (refine (a1).lendq rfl fun _ h => ?_; subst h; refine ⟨rfl, ?_⟩) | (refine (a2).callq rfl rfl fun _ h => ?_; subst h) | refine wIn (by omega) ?_ | refine nI (by omega) ?_) <;> conv => whnf))
      refine e0.callzq rfl rfl (fun r rows (hr : r = _ ∧ rows = _) => ?_); obtain ⟨hr1, hr2⟩ := hr; subst hr1; subst hr2; refine ⟨rfl, ?_⟩
      (conv => whnf); (repeat' ((first | refine bT ?_ | refine bF ?_ | refine bN ?_ | ((first | refine bD ?_ ?_ | refine bEq ?_ ?_ | refine bNe ?_ ?_) <;> intro hh <;> try (exfalso; omega)) | (refine (a3).callzq rfl rfl fun _ h => ?_; subst h) | refine wIn (by omega) ?_ | refine nI (by omega) ?_) <;> conv => whnf))
      refine (s33 f hok f.plan (by omega)).callq rfl rfl (fun r hr => ?_); obtain ⟨c, rfl, hc⟩ := hr
      obtain rfl : c = true := hc.2 hS
      (conv => whnf); (repeat' ((first | refine bT ?_ | refine bF ?_ | refine bN ?_ | ((first | refine bD ?_ ?_ | refine bEq ?_ ?_ | refine bNe ?_ ?_) <;> intro hh <;> try (exfalso; omega)) | (refine (a4).callq rfl rfl fun _ h => ?_; subst h) | (refine (w).callq rfl rfl fun _ h => ?_; subst h) | refine wIn (by omega) ?_ | refine nI (by omega) ?_) <;> conv => whnf))
      all_goals rfl
    · have h0 := chkF_pos hok
      have a1 := s31_no f hok
      have a2 := s43_no f hok hs
      have a3 := s44_no f hok
      (conv => whnf); (repeat' ((first | refine bT ?_ | refine bF ?_ | refine bN ?_ | ((first | refine bD ?_ ?_ | refine bEq ?_ ?_ | refine bNe ?_ ?_) <;> intro hh <;> try (exfalso; omega)) | refine wIn (by omega) ?_ | refine nI (by omega) ?_) <;> conv => whnf))
      refine e0.callzq rfl rfl (fun r rows (hr : r = _ ∧ rows = _) => ?_); obtain ⟨hr1, hr2⟩ := hr; subst hr1; subst hr2; refine ⟨rfl, ?_⟩
      (conv => whnf); (repeat' ((first | refine bT ?_ | refine bF ?_ | refine bN ?_ | ((first | refine bD ?_ ?_ | refine bEq ?_ ?_ | refine bNe ?_ ?_) <;> intro hh <;> try (exfalso; omega)) | (refine (a1).lendq rfl fun _ h => ?_; subst h; refine ⟨rfl, ?_⟩) | (refine (a2).callq rfl rfl fun _ h => ?_; subst h) | refine wIn (by omega) ?_ | refine nI (by omega) ?_) <;> conv => whnf))
      refine e0.callzq rfl rfl (fun r rows (hr : r = _ ∧ rows = _) => ?_); obtain ⟨hr1, hr2⟩ := hr; subst hr1; subst hr2; refine ⟨rfl, ?_⟩
      (conv => whnf); (repeat' ((first | refine bT ?_ | refine bF ?_ | refine bN ?_ | ((first | refine bD ?_ ?_ | refine bEq ?_ ?_ | refine bNe ?_ ?_) <;> intro hh <;> try (exfalso; omega)) | (refine (a3).callzq rfl rfl fun _ h => ?_; subst h) | (refine (w).callq rfl rfl fun _ h => ?_; subst h) | refine wIn (by omega) ?_ | refine nI (by omega) ?_) <;> conv => whnf))
      all_goals rfl
end Go.Proofs
