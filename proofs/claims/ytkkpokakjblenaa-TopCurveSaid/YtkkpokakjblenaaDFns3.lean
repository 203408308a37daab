/- What each function of this program answers, proved by walking its body: the contracts that the law rests on, part 3. -/
import Derived.Test.YtkkpokakjblenaaDFns2
set_option linter.unusedSimpArgs false
set_option linter.unusedVariables false
set_option linter.unusedSectionVars false
namespace Go.Proofs
open Go.Eng
attribute [local irreducible] Go.Eng.brB Go.Eng.need Go.Eng.wrE Go.Eng.iaE Go.Eng.slE Go.Eng.apE Go.Eng.CallZ Go.Eng.CallE Go.Eng.VCallE Go.Eng.YldE Go.Eng.GoC Go.Eng.MeetsE Go.Eng.FnA Go.Eng.FnV Go.Eng.ItA
set_option maxRecDepth 100000
/-- beginnings: each seam surely meets with them -/
def Fig.isB (f : Fig) (near : Int) (l : List Int) : Prop := l.length = f.N ∧ (∀ x ∈ l, 0 ≤ x ∧ x < f.per) ∧ ∀ i, i < f.N → ∃ s ∈ f.stp near i, l.getD ((i + 1) % f.N) 0 = (l.getD i 0 + s).tmod f.per
theorem pth_seq {f : Fig} (hp : 1 ≤ f.per ∧ f.per ≤ 60) {near start : Int} (hs : 0 ≤ start ∧ start < f.per) : ∀ (g : Nat) (w : Way) (x : Int), f.pth near start g w x ↔
    ∃ q : Nat → Int, q 0 = start ∧ q g = x ∧ (∀ i, i < g → ∃ s ∈ f.stp near i, q (i + 1) = (q i + s).tmod f.per) ∧ w.1 = (List.range g).map q ∧ w.2 = w.1.sum
  | 0, w, x => by
    constructor
    · rintro ⟨rfl, rfl⟩
      exact ⟨fun _ => x, rfl, rfl, fun i hi => by omega, rfl, rfl⟩
    · rintro ⟨q, h1, h2, _, h3, h4⟩
      refine ⟨?_, h2.symm.trans h1⟩
      obtain ⟨a, b⟩ := w
      simp only [List.range_zero, List.map_nil] at h3
      subst h3
      simp only [List.sum_nil] at h4
      subst h4; rfl
  | g + 1, w, x => by
    constructor
    · rintro ⟨v, y, h1, ⟨s, h2, h3⟩, h4⟩
      obtain ⟨q, a1, a2, a3, a4, a5⟩ := (pth_seq hp hs g v y).1 h1
      refine ⟨fun i => if i = g + 1 then x else q i, ?_, by simp, fun i hi => ?_, ?_, ?_⟩
      · simp only; rw [if_neg (by omega)]; exact a1
      · simp only
        rw [if_neg (show i ≠ g + 1 by omega)]
        by_cases hig : i = g
        · subst hig
          rw [if_pos rfl]
          exact ⟨s, h2, by rw [h3, a2]⟩
        · rw [if_neg (by omega)]
          exact a3 i (by omega)
      · rw [h4, List.range_succ, List.map_append]
        simp only [List.map_cons, List.map_nil]
        rw [if_neg (by omega), a2, a4]
        congr 1
        apply List.map_congr_left
        intro i hi
        have := List.mem_range.1 hi
        rw [if_neg (by omega)]
      · rw [h4]; simp [a5]
    · rintro ⟨q, a1, a2, a3, a4, a5⟩
      have a4' : w.1 = (List.range g).map q ++ [q g] := by rw [a4, List.range_succ, List.map_append]; rfl
      refine ⟨((List.range g).map q, ((List.range g).map q).sum), q g, (pth_seq hp hs g _ _).2 ⟨q, a1, rfl, fun i hi => a3 i (by omega), rfl, rfl⟩, ?_, ?_⟩
      · obtain ⟨s, h1, h2⟩ := a3 g (by omega)
        exact ⟨s, h1, by rw [← h2]; exact a2.symm⟩
      · obtain ⟨a, b⟩ := w
        simp only at a4' a5
        subst a4'
        rw [a5]; simp
theorem rng_iff {f : Fig} (hok : f.ok) (near : Int) (w : Way) : f.rng near w ↔ w.2 = w.1.sum ∧ f.isB near w.1 := by
  have hp := hok.2.1
  have hN := N_in hok
  constructor
  · rintro ⟨st, hs, h⟩
    obtain ⟨q, a1, a2, a3, a4, a5⟩ := (pth_seq hp hs f.N w st).1 h
    have hq : ∀ i, i ≤ f.N → 0 ≤ q i ∧ q i < f.per := fun i hi => by
      cases i with
      | zero => rw [a1]; exact hs
      | succ i =>
        obtain ⟨s, h1, h2⟩ := a3 i (by omega)
        have b := ((mem_stp (by omega)).1 h1).1
        have : ∀ j, j ≤ i → 0 ≤ q j ∧ q j < f.per := by
          intro j hj
          induction j with
          | zero => rw [a1]; exact hs
          | succ j ih =>
            obtain ⟨s', h1', h2'⟩ := a3 j (by omega)
            have b' := ((mem_stp (by omega)).1 h1').1
            have := ih (by omega)
            obtain ⟨c1, c2, c3⟩ := tmod_in (a := q j + s') (b := f.per) (by omega) hp.1
            omega
        have := this i (Nat.le_refl _)
        obtain ⟨c1, c2, c3⟩ := tmod_in (a := q i + s) (b := f.per) (by omega) hp.1
        omega
    have hg : ∀ i, i < f.N → w.1.getD i 0 = q i := fun i hi => by rw [a4]; simp [List.getD_eq_getElem?_getD, hi]
    refine ⟨a5, by rw [a4]; simp, fun x hx => ?_, fun i hi => ?_⟩
    · rw [a4] at hx
      obtain ⟨i, hi, rfl⟩ := List.mem_map.1 hx
      exact hq i (by have := List.mem_range.1 hi; omega)
    · obtain ⟨s, h1, h2⟩ := a3 i hi
      refine ⟨s, h1, ?_⟩
      rw [hg i hi, ← h2]
      by_cases hl : i + 1 = f.N
      · rw [hl, Nat.mod_self, hg 0 (by omega), a1, a2]
      · rw [Nat.mod_eq_of_lt (by omega), hg (i + 1) (by omega)]
  · rintro ⟨h1, h2, h3, h4⟩
    have h0 : w.1.getD 0 0 ∈ w.1 := by
      rw [List.getD_eq_getElem?_getD, List.getElem?_eq_getElem (by omega)]; exact List.getElem_mem _
    refine ⟨w.1.getD 0 0, h3 _ h0, (pth_seq hp (h3 _ h0) f.N w _).2 ⟨fun i => w.1.getD (i % f.N) 0, by simp, by simp, fun i hi => ?_, ?_, h1⟩⟩
    · obtain ⟨s, k1, k2⟩ := h4 i hi
      exact ⟨s, k1, by simp only [Nat.mod_eq_of_lt hi]; exact k2⟩
    · apply List.ext_getElem (by simp [h2])
      intro n k1 k2
      simp only [List.getElem_map, List.getElem_range]
      rw [Nat.mod_eq_of_lt (by omega)]
      simp [List.getD_eq_getElem?_getD, k1]
theorem sum_nn : ∀ {l : List Int}, (∀ x ∈ l, 0 ≤ x) → 0 ≤ l.sum
  | [], _ => by simp
  | x :: l, h => by
    have h1 := h x (by simp)
    have h2 := sum_nn (l := l) fun y hy => h y (by simp [hy])
    simp only [List.sum_cons]; omega
/-- there are beginnings -/
def Fig.hasB (f : Fig) : Prop := ∃ l, f.isB f.near l
theorem minB (f : Fig) (h : f.hasB) : ∃ l, f.isB f.near l ∧ ∀ l', f.isB f.near l' → l.sum ≤ l'.sum := by
  obtain ⟨l0, h0⟩ := h
  have key : ∀ (n : Nat) (l : List Int), f.isB f.near l → l.sum.toNat ≤ n → 0 ≤ l.sum → ∃ l, f.isB f.near l ∧ ∀ l', f.isB f.near l' → l.sum ≤ l'.sum := by
    intro n
    induction n with
    | zero =>
      intro l hl h1 h2
      refine ⟨l, hl, fun l' hl' => ?_⟩
      have : 0 ≤ l'.sum := sum_nn fun x hx => (hl'.2.1 x hx).1
      omega
    | succ n ih =>
      intro l hl h1 h2
      by_cases hex : ∃ l', f.isB f.near l' ∧ l'.sum < l.sum
      · obtain ⟨l', k1, k2⟩ := hex
        have : 0 ≤ l'.sum := sum_nn fun x hx => (k1.2.1 x hx).1
        exact ih l' k1 (by omega) this
      · exact ⟨l, hl, fun l' hl' => by
          by_cases hq : l.sum ≤ l'.sum
          · exact hq
          · exact absurd ⟨l', hl', by omega⟩ hex⟩
  exact key l0.sum.toNat l0 h0 (Nat.le_refl _) (sum_nn fun x hx => (h0.2.1 x hx).1)
open Classical in
/-- the least waste, and whether there is one -/
noncomputable def Fig.lw (f : Fig) : Int := if h : f.hasB then (minB f h).choose.sum else 0
open Classical in
noncomputable def Fig.lE (f : Fig) : Int := if f.hasB then 0 else 3
theorem lw_spec {f : Fig} (h : f.hasB) : f.lE = 0 ∧ (∃ l, f.isB f.near l ∧ l.sum = f.lw) ∧ ∀ l, f.isB f.near l → f.lw ≤ l.sum := by
  have hc := (minB f h).choose_spec
  have e : f.lw = (minB f h).choose.sum := by unfold Fig.lw; rw [dif_pos h]
  refine ⟨by unfold Fig.lE; rw [if_pos h], ⟨_, hc.1, e.symm⟩, fun l hl => by rw [e]; exact hc.2 l hl⟩
theorem lw_no {f : Fig} (h : ¬ f.hasB) : f.lE = 3 ∧ f.lw = 0 := ⟨by unfold Fig.lE; rw [if_neg h], by unfold Fig.lw; rw [dif_neg h]⟩
theorem lw_eq {f : Fig} {l : List Int} (h1 : f.isB f.near l) (h2 : ∀ l', f.isB f.near l' → l.sum ≤ l'.sum) : f.lE = 0 ∧ f.lw = l.sum := by
  have hs := lw_spec ⟨l, h1⟩
  obtain ⟨l', h3, h4⟩ := hs.2.1
  exact ⟨hs.1, by have := hs.2.2 l h1; have := h2 l' h3; omega⟩
def begS (f : Fig) (r : AV) : Prop := ∃ l, r = .tup [.isl (l.map iAV), .int .i64 f.lE] ∧ (f.hasB → f.isB f.near l ∧ l.sum = f.lw) ∧ (¬ f.hasB → l = [])
theorem s42 (f : Fig) (h : f.eF = 0) : FnA Try.prog 42 [.agg f.cells] (begS f) := by
  have hok := (eF_ok h).1
  have e1 := s61 f h
  have e2 := s76 f hok
  refine fnA 10 ok42 (by simp) ?_
  (conv => whnf); (repeat' ((first | refine bT ?_ | refine bF ?_ | refine bN ?_ | ((first | refine bD ?_ ?_ | refine bEq ?_ ?_ | refine bNe ?_ ?_) <;> intro hh <;> try (exfalso; omega)) | (refine (e1).callzq rfl rfl fun _ h => ?_; subst h) | refine wIn (by omega) ?_ | refine nI (by omega) ?_) <;> conv => whnf))
  refine e2.callzq rfl rfl (fun r hr => ?_)
  rcases hr with ⟨w, rfl, h1, h2⟩ | ⟨rfl, h2⟩
  · have hb := (rng_iff hok f.near w).1 h1
    have he := lw_eq hb.2 fun l' hl' => by
      have := h2 (l', l'.sum) ((rng_iff hok f.near _).2 ⟨rfl, hl'⟩)
      omega
    (conv => whnf); (repeat' ((first | refine bT ?_ | refine bF ?_ | refine bN ?_ | ((first | refine bD ?_ ?_ | refine bEq ?_ ?_ | refine bNe ?_ ?_) <;> intro hh <;> try (exfalso; omega)) | refine wIn (by omega) ?_ | refine nI (by omega) ?_) <;> conv => whnf))
    all_goals exact ⟨w.1, by rw [he.1], fun _ => ⟨hb.2, he.2.symm⟩, fun hn => absurd ⟨w.1, hb.2⟩ hn⟩
  · have hn : ¬ f.hasB := fun ⟨l, hl⟩ => h2 (l, l.sum) ((rng_iff hok f.near _).2 ⟨rfl, hl⟩)
    (conv => whnf); (repeat' ((first | refine bT ?_ | refine bF ?_ | refine bN ?_ | ((first | refine bD ?_ ?_ | refine bEq ?_ ?_ | refine bNe ?_ ?_) <;> intro hh <;> try (exfalso; omega)) | refine wIn (by omega) ?_ | refine nI (by omega) ?_) <;> conv => whnf))
    all_goals exact ⟨[], by rw [(lw_no hn).1]; rfl, fun h => absurd h hn, fun _ => rfl⟩
theorem sum_in2 {l : List Int} {a b : Int} (h : ∀ x ∈ l, a ≤ x ∧ x ≤ b) : l.length * a ≤ l.sum ∧ l.sum ≤ l.length * b := by
  induction l with
  | nil => simp
  | cons x l ih =>
    have h1 := h x (by simp)
    have h2 := ih fun y hy => h y (by simp [hy])
    simp only [List.length_cons, List.sum_cons]
    push_cast
    rw [Int.add_mul, Int.add_mul]
    omega
theorem s26 (f : Fig) (h : f.eF = 0) : FnA Try.prog 26 [.agg f.cells] (· = .tup [.int .i64 f.lw, .int .i64 f.lE]) := by
  have hok := (eF_ok h).1
  have hp := hok.2.1
  have hN := N_in hok
  have e1 := s42 f h
  refine fnA 2 ok26 (by simp) ?_
  (conv => whnf); (repeat' ((first | refine bT ?_ | refine bF ?_ | refine bN ?_ | ((first | refine bD ?_ ?_ | refine bEq ?_ ?_ | refine bNe ?_ ?_) <;> intro hh <;> try (exfalso; omega)) | refine wIn (by omega) ?_ | refine nI (by omega) ?_) <;> conv => whnf))
  refine e1.callzq rfl rfl (fun r hr => ?_); obtain ⟨l, rfl, h1, h2⟩ := hr
  have hl : l.length ≤ 16 ∧ (∀ x ∈ l, 0 ≤ x ∧ x ≤ 60) ∧ l.sum = f.lw := by
    by_cases hb : f.hasB
    · obtain ⟨h3, h4⟩ := h1 hb
      exact ⟨by have := h3.1; omega, fun x hx => (by have := h3.2.1 x hx; omega), h4⟩
    · have := h2 hb
      subst this
      exact ⟨by simp, by simp, by rw [(lw_no hb).2]; rfl⟩
  obtain ⟨hl1, hl2, hl3⟩ := hl
  have ll : (l.map iAV).length = l.length := by simp
  (conv => whnf); (repeat' ((first | refine bT ?_ | refine bF ?_ | refine bN ?_ | ((first | refine bD ?_ ?_ | refine bEq ?_ ?_ | refine bNe ?_ ?_) <;> intro hh <;> try (exfalso; omega)) | refine wIn (by omega) ?_ | refine nI (by omega) ?_) <;> conv => whnf))
  refine loop_i (α := Nat) (fun k => [(16, .int .i64 k), (15, .int .i64 ↑(l.map iAV).length), (14, .isl (l.map iAV)), (6, .int .i64 (l.take k).sum), (5, .int .i64 f.lE)]) (fun k => [.fresh, .fresh]) (fun k => k ≤ l.length) (fun k => l.length - k) 0 (meets_id (by (repeat' apply And.intro) <;> first | rfl | exact True.intro | (intro hh; cases hh))) (by omega) ?_
  intro k hk0
  conv => whnf
  refine bD (fun h4 => ?_) (fun h4 => ?_)
  · have hk : k < l.length := by omega
    have hx := hl2 _ (List.getElem_mem hk)
    have hs := sum_in2 (l := l.take k) (a := 0) (b := 60) fun x hx => hl2 x (List.mem_of_mem_take hx)
    have hlt : (l.take k).length ≤ 16 := by rw [List.length_take]; omega
    have hss := sum_succ hk
    conv => whnf
    refine iaI (by omega) (by omega) (getD_map iAV l k hk) ?_
    (conv => whnf); (repeat' ((first | refine bT ?_ | refine bF ?_ | refine bN ?_ | ((first | refine bD ?_ ?_ | refine bEq ?_ ?_ | refine bNe ?_ ?_) <;> intro hh <;> try (exfalso; omega)) | refine wIn (by omega) ?_ | refine nI (by omega) ?_) <;> conv => whnf))
    refine ⟨k + 1, ?_, by omega, by omega⟩
    rw [hss]
    exact (meets_id (by (repeat' apply And.intro) <;> first | rfl | exact True.intro | (intro hh; cases hh)))
  · have : k = l.length := by omega
    subst this
    rw [List.take_length, hl3]
    (conv => whnf); (repeat' ((first | refine bT ?_ | refine bF ?_ | refine bN ?_ | ((first | refine bD ?_ ?_ | refine bEq ?_ ?_ | refine bNe ?_ ?_) <;> intro hh <;> try (exfalso; omega)) | refine wIn (by omega) ?_ | refine nI (by omega) ?_) <;> conv => whnf))
    all_goals rfl
theorem s53 (a b : List Int) (ha : a.length ≤ 1000000) : FnA Try.prog 53 [.isl (a.map iAV), .isl (b.map iAV)] (· = .bool (decide (a = b))) := by
  have l1 : (a.map iAV).length = a.length := by simp
  have l2 : (b.map iAV).length = b.length := by simp
  refine fnA 0 ok53 (by simp) ?_
  by_cases hl : a.length = b.length
  case neg =>
    rw [decide_eq_false fun h : a = b => hl (by rw [h])]
    (conv => whnf); (repeat' ((first | refine bT ?_ | refine bF ?_ | refine bN ?_ | ((first | refine bD ?_ ?_ | refine bEq ?_ ?_ | refine bNe ?_ ?_) <;> intro hh <;> try (exfalso; omega)) | refine wIn (by omega) ?_ | refine nI (by omega) ?_) <;> conv => whnf))
    all_goals rfl
  (conv => whnf); (repeat' ((first | refine bT ?_ | refine bF ?_ | refine bN ?_ | ((first | refine bD ?_ ?_ | refine bEq ?_ ?_ | refine bNe ?_ ?_) <;> intro hh <;> try (exfalso; omega)) | refine wIn (by omega) ?_ | refine nI (by omega) ?_) <;> conv => whnf))
  refine loop_i (α := Nat) (fun k => [(5, .int .i64 k), (1, .isl (b.map iAV)), (0, .isl (a.map iAV))]) (fun k => []) (fun k => k ≤ a.length ∧ a.take k = b.take k) (fun k => a.length - k) 0 (meets_id (by (repeat' apply And.intro) <;> first | rfl | exact True.intro | (intro hh; cases hh))) ⟨by omega, by simp⟩ ?_
  rintro k ⟨hk0, hin⟩
  conv => whnf
  refine bD (fun h4 => ?_) (fun h4 => ?_)
  · have hk : k < a.length := by omega
    have hkb : k < b.length := by omega
    conv => whnf
    refine iaI (by omega) (by omega) (getD_map iAV a k hk) ?_
    (conv => whnf); (repeat' ((first | refine bT ?_ | refine bF ?_ | refine bN ?_ | ((first | refine bD ?_ ?_ | refine bEq ?_ ?_ | refine bNe ?_ ?_) <;> intro hh <;> try (exfalso; omega)) | refine wIn (by omega) ?_ | refine nI (by omega) ?_) <;> conv => whnf))
    refine iaI (by omega) (by omega) (getD_map iAV b k hkb) ?_
    by_cases he : a[k] = b[k]
    · (conv => whnf); (repeat' ((first | refine bT ?_ | refine bF ?_ | refine bN ?_ | ((first | refine bD ?_ ?_ | refine bEq ?_ ?_ | refine bNe ?_ ?_) <;> intro hh <;> try (exfalso; omega)) | refine wIn (by omega) ?_ | refine nI (by omega) ?_) <;> conv => whnf))
      refine ⟨k + 1, (meets_id (by (repeat' apply And.intro) <;> first | rfl | exact True.intro | (intro hh; cases hh))), ⟨by omega, ?_⟩, by omega⟩
      rw [List.take_succ_eq_append_getElem hk, List.take_succ_eq_append_getElem hkb, hin, he]
    · rw [decide_eq_false fun h : a = b => he (by subst h; rfl)]
      (conv => whnf); (repeat' ((first | refine bT ?_ | refine bF ?_ | refine bN ?_ | ((first | refine bD ?_ ?_ | refine bEq ?_ ?_ | refine bNe ?_ ?_) <;> intro hh <;> try (exfalso; omega)) | refine wIn (by omega) ?_ | refine nI (by omega) ?_) <;> conv => whnf))
      all_goals rfl
  · have : k = a.length := by omega
    rw [this, List.take_length, List.take_of_length_le (by omega)] at hin
    rw [decide_eq_true hin]
    (conv => whnf); (repeat' ((first | refine bT ?_ | refine bF ?_ | refine bN ?_ | ((first | refine bD ?_ ?_ | refine bEq ?_ ?_ | refine bNe ?_ ?_) <;> intro hh <;> try (exfalso; omega)) | refine wIn (by omega) ?_ | refine nI (by omega) ?_) <;> conv => whnf))
    all_goals rfl
def exD : Dome := ⟨[⟨0, 20, [⟨1000, 1005, 1010⟩], 0⟩, ⟨0, 10, [], 0⟩], [0, 0, 1, 1], 5, [(400, 404), (600, 650), (803, 806)], [110, 165, 210], 50⟩
def exF : Fig := ⟨exD, 12, 100, 1, [0, 3, 8, 0], [5, 3, 8, 2]⟩
theorem s78 : FnO Try.prog 78 [] (fun r rows => r = .agg [.row 2, .row 3, .int .i64 5, .row 4, .row 5, .int .i64 50] ∧ rows = [(2, .row false 55 4 (exD.bs.map Bolt.av)), (3, .row false 3 1 (exD.gs.map iAV)), (4, .row false 50 2 (exD.rs.map pairAV)), (5, .row false 3 1 (exD.ws.map iAV))]) := by
  refine fnO 6 ok78 (by simp) ?_
  (conv => whnf); (repeat' ((first | refine bT ?_ | refine bF ?_ | refine bN ?_ | ((first | refine bD ?_ ?_ | refine bEq ?_ ?_ | refine bNe ?_ ?_) <;> intro hh <;> try (exfalso; omega)) | refine wIn (by omega) ?_ | refine nI (by omega) ?_) <;> conv => whnf))
  all_goals exact ⟨rfl, rfl⟩
theorem s57 : FnO Try.prog 57 [] (fun r rows => r = .agg [.row 1, .row 2, .int .i64 5, .row 3, .row 4, .int .i64 50, .int .i64 12, .int .i64 100, .int .i64 1, .row 5, .row 6] ∧ rows = [(1, .row false 55 4 (exD.bs.map Bolt.av)), (2, .row false 3 1 (exD.gs.map iAV)), (3, .row false 50 2 (exD.rs.map pairAV)), (4, .row false 3 1 (exD.ws.map iAV)), (5, .row false 3 1 (exF.st.map iAV)), (6, .row false 3 1 (exF.ti.map iAV))]) := by
  refine fnO 7 ok57 (by simp) ?_
  conv => whnf
  refine s78.callzq rfl rfl (fun r rows (hr : r = _ ∧ rows = _) => ?_); obtain ⟨hr1, hr2⟩ := hr; subst hr1; subst hr2; refine ⟨rfl, ?_⟩
  (conv => whnf); (repeat' ((first | refine bT ?_ | refine bF ?_ | refine bN ?_ | ((first | refine bD ?_ ?_ | refine bEq ?_ ?_ | refine bNe ?_ ?_) <;> intro hh <;> try (exfalso; omega)) | refine wIn (by omega) ?_ | refine nI (by omega) ?_) <;> conv => whnf))
  all_goals exact ⟨rfl, rfl⟩
theorem exD_ok : exD.ok := by
  constructor
  · unfold Dome.ok1; decide
  · unfold Dome.okB; decide
theorem exD_has : exD.has = true := by kernel_rfl
theorem exD_round : exD.opn.round 210 = (802, 808) := by kernel_rfl
theorem exF_ok : exF.ok := ⟨exD_ok, by unfold Fig.okF; decide⟩
theorem exF_eF : exF.eF = 0 := by unfold Fig.eF; rw [if_pos exF_ok, show exF.d.has = true from exD_has]; rfl
theorem exF_clst : exF.clst = 2 := by kernel_rfl
theorem s45 : FnA Try.prog 45 [] (· = .bool true) := by
  have hR : exD.eR 2 = 0 := by kernel_rfl
  have e1 := k21 exD 2 hR (by decide)
  rw [show exD.ws[2]'(by decide) = 210 from rfl, exD_round] at e1
  have e2 := s29 exF exF_eF
  rw [exF_clst] at e2
  refine fnA 11 ok45 (by simp) ?_
  conv => whnf
  refine s78.callzq rfl rfl (fun r rows (hr : r = _ ∧ rows = _) => ?_); obtain ⟨hr1, hr2⟩ := hr; subst hr1; subst hr2; refine ⟨rfl, ?_⟩
  (conv => whnf); (repeat' ((first | refine bT ?_ | refine bF ?_ | refine bN ?_ | ((first | refine bD ?_ ?_ | refine bEq ?_ ?_ | refine bNe ?_ ?_) <;> intro hh <;> try (exfalso; omega)) | (refine (e1).lendq rfl fun _ h => ?_; subst h; refine ⟨rfl, ?_⟩) | refine wIn (by omega) ?_ | refine nI (by omega) ?_) <;> conv => whnf))
  refine s57.callzq rfl rfl (fun r rows (hr : r = _ ∧ rows = _) => ?_); obtain ⟨hr1, hr2⟩ := hr; subst hr1; subst hr2; refine ⟨rfl, ?_⟩
  (conv => whnf); (repeat' ((first | refine bT ?_ | refine bF ?_ | refine bN ?_ | ((first | refine bD ?_ ?_ | refine bEq ?_ ?_ | refine bNe ?_ ?_) <;> intro hh <;> try (exfalso; omega)) | (refine (e2).lendq rfl fun _ h => ?_; subst h; refine ⟨rfl, ?_⟩) | refine wIn (by omega) ?_ | refine nI (by omega) ?_) <;> conv => whnf))
  all_goals rfl
theorem s64 (l : List Int) (hl : l.length ≤ 1000000) (many lo hi : Int) : FnA Try.prog 64 [.isl (l.map iAV), .int .i64 many, .int .i64 lo, .int .i64 hi] (· = .bool (decide ((∀ x ∈ l, lo ≤ x ∧ x ≤ hi) ∧ (l.length : Int) = many))) := by
  have l1 : (l.map iAV).length = l.length := by simp
  refine fnA 0 ok64 (by simp) ?_
  (conv => whnf); (repeat' ((first | refine bT ?_ | refine bF ?_ | refine bN ?_ | ((first | refine bD ?_ ?_ | refine bEq ?_ ?_ | refine bNe ?_ ?_) <;> intro hh <;> try (exfalso; omega)) | refine wIn (by omega) ?_ | refine nI (by omega) ?_) <;> conv => whnf))
  refine loop_i (α := Nat) (fun k => [(9, .int .i64 k), (3, .int .i64 hi), (2, .int .i64 lo), (1, .int .i64 many), (0, .isl (l.map iAV))]) (fun k => []) (fun k => k ≤ l.length ∧ ∀ x ∈ l.take k, lo ≤ x ∧ x ≤ hi) (fun k => l.length - k) 0 (meets_id (by (repeat' apply And.intro) <;> first | rfl | exact True.intro | (intro hh; cases hh))) ⟨by omega, by simp⟩ ?_
  rintro k ⟨hk0, hin⟩
  conv => whnf
  refine bD (fun h4 => ?_) (fun h4 => ?_)
  · have hk : k < l.length := by omega
    by_cases hx : lo ≤ l[k] ∧ l[k] ≤ hi
    · (conv => whnf); (repeat' ((first | refine bT ?_ | refine bF ?_ | refine bN ?_ | ((first | refine bD ?_ ?_ | refine bEq ?_ ?_ | refine bNe ?_ ?_) <;> intro hh <;> try (exfalso; omega)) | (refine iaI (by omega) (by omega) (getD_map iAV l k hk) ?_) | refine wIn (by omega) ?_ | refine nI (by omega) ?_) <;> conv => whnf))
      exact ⟨k + 1, (meets_id (by (repeat' apply And.intro) <;> first | rfl | exact True.intro | (intro hh; cases hh))), ⟨by omega, all_take hk hin hx⟩, by omega⟩
    · rw [decide_eq_false fun h : (∀ x ∈ l, lo ≤ x ∧ x ≤ hi) ∧ (l.length : Int) = many => hx (h.1 _ (List.getElem_mem hk))]
      (conv => whnf); (repeat' ((first | refine bT ?_ | refine bF ?_ | refine bN ?_ | ((first | refine bD ?_ ?_ | refine bEq ?_ ?_ | refine bNe ?_ ?_) <;> intro hh <;> try (exfalso; omega)) | (refine iaI (by omega) (by omega) (getD_map iAV l k hk) ?_) | refine wIn (by omega) ?_ | refine nI (by omega) ?_) <;> conv => whnf))
      all_goals rfl
  · have : k = l.length := by omega
    subst this
    rw [List.take_length] at hin
    have e : decide ((∀ x ∈ l, lo ≤ x ∧ x ≤ hi) ∧ (l.length : Int) = many) = decide ((l.length : Int) = many) := decide_eq_decide.2 ⟨fun h => h.2, fun h => ⟨hin, h⟩⟩
    rw [e, ← l1]
    (conv => whnf); (repeat' ((first | refine bT ?_ | refine bF ?_ | refine bN ?_ | ((first | refine bD ?_ ?_ | refine bEq ?_ ?_ | refine bNe ?_ ?_) <;> intro hh <;> try (exfalso; omega)) | refine wIn (by omega) ?_ | refine nI (by omega) ?_) <;> conv => whnf))
    all_goals first | rfl | exact congrArg AV.bool (decide_eq_true (by omega)).symm | exact congrArg AV.bool (decide_eq_false (by omega)).symm
def Fig.small (f : Fig) : Prop := f.d.small ∧ f.st.length ≤ 60 ∧ f.ti.length ≤ 60
theorem s17 (f : Fig) : FnA Try.prog 17 [.agg f.cells] (fun r => ∃ b : Bool, r = .bool b ∧ (b = false → f.small)) := by
  have l2 : (f.st.map iAV).length = f.st.length := by simp
  have l3 : (f.ti.map iAV).length = f.ti.length := by simp
  refine fnA 1 ok17 (by simp) ?_
  (conv => whnf); (repeat' ((first | refine bT ?_ | refine bF ?_ | refine bN ?_ | ((first | refine bD ?_ ?_ | refine bEq ?_ ?_ | refine bNe ?_ ?_) <;> intro hh <;> try (exfalso; omega)) | refine wIn (by omega) ?_ | refine nI (by omega) ?_) <;> conv => whnf))
  refine (k33 f.d).callq rfl rfl (fun r hr => ?_); obtain ⟨b, rfl, hb⟩ := hr
  cases b with
  | true =>
    (conv => whnf); (repeat' ((first | refine bT ?_ | refine bF ?_ | refine bN ?_ | ((first | refine bD ?_ ?_ | refine bEq ?_ ?_ | refine bNe ?_ ?_) <;> intro hh <;> try (exfalso; omega)) | refine wIn (by omega) ?_ | refine nI (by omega) ?_) <;> conv => whnf))
    all_goals exact ⟨_, rfl, fun h => by cases h⟩
  | false =>
    by_cases c1 : f.st.length ≤ 60
    · by_cases c2 : f.ti.length ≤ 60
      · (conv => whnf); (repeat' ((first | refine bT ?_ | refine bF ?_ | refine bN ?_ | ((first | refine bD ?_ ?_ | refine bEq ?_ ?_ | refine bNe ?_ ?_) <;> intro hh <;> try (exfalso; omega)) | refine wIn (by omega) ?_ | refine nI (by omega) ?_) <;> conv => whnf))
        all_goals exact ⟨_, rfl, fun _ => ⟨hb rfl, c1, c2⟩⟩
      · (conv => whnf); (repeat' ((first | refine bT ?_ | refine bF ?_ | refine bN ?_ | ((first | refine bD ?_ ?_ | refine bEq ?_ ?_ | refine bNe ?_ ?_) <;> intro hh <;> try (exfalso; omega)) | refine wIn (by omega) ?_ | refine nI (by omega) ?_) <;> conv => whnf))
        all_goals exact ⟨_, rfl, fun h => by simp at h; omega⟩
    · (conv => whnf); (repeat' ((first | refine bT ?_ | refine bF ?_ | refine bN ?_ | ((first | refine bD ?_ ?_ | refine bEq ?_ ?_ | refine bNe ?_ ?_) <;> intro hh <;> try (exfalso; omega)) | refine wIn (by omega) ?_ | refine nI (by omega) ?_) <;> conv => whnf))
      all_goals exact ⟨_, rfl, fun h => by first | cases h | (simp at h; omega)⟩
theorem s32 (f : Fig) (hs : f.small) : FnA Try.prog 32 [.agg f.cells] (· = .int .i64 f.chk) := by
  have e0 := k28 f.d
  have l1 : (f.d.gs.map iAV).length = f.d.gs.length := by simp
  by_cases hd : f.d.ok
  case neg =>
    have h0 := chk_pos hd
    have : f.chk = f.d.chk := by unfold Fig.chk; rw [if_neg hd]
    rw [this]
    refine fnA 1 ok32 (by simp) ?_
    (conv => whnf); (repeat' ((first | refine bT ?_ | refine bF ?_ | refine bN ?_ | ((first | refine bD ?_ ?_ | refine bEq ?_ ?_ | refine bNe ?_ ?_) <;> intro hh <;> try (exfalso; omega)) | (refine (e0).callq rfl rfl fun _ h => ?_; subst h) | refine wIn (by omega) ?_ | refine nI (by omega) ?_) <;> conv => whnf))
    all_goals rfl
  rw [chk_ok hd] at e0
  have hF : f.chk = if f.okF then 0 else 40 := by unfold Fig.chk; rw [if_pos hd]
  have hh : f.okF ↔ ((1 ≤ f.per ∧ f.per ≤ 60) ∧ (0 ≤ f.run ∧ f.run ≤ 2000) ∧ (0 ≤ f.near ∧ f.near ≤ f.per.tdiv 2) ∧ ((∀ x ∈ f.st, 0 ≤ x ∧ x ≤ f.per - 1) ∧ (f.st.length : Int) = ↑(f.d.gs.map iAV).length) ∧ ((∀ x ∈ f.ti, 1 ≤ x ∧ x ≤ 99) ∧ (f.ti.length : Int) = ↑(f.d.gs.map iAV).length)) := by
    rw [l1]
    constructor
    · rintro ⟨h1, h2, h3, h4, h5, h6, h7⟩
      exact ⟨h1, h2, h3, ⟨h5, by omega⟩, h7, by omega⟩
    · rintro ⟨h1, h2, h3, ⟨h4, h5⟩, h6, h7⟩
      exact ⟨h1, h2, h3, by omega, h4, by omega, h6⟩
  have e1 := s64 f.st (by have := hs.2.1; omega) ↑(f.d.gs.map iAV).length 0 (f.per - 1)
  have e2 := s64 f.ti (by have := hs.2.2; omega) ↑(f.d.gs.map iAV).length 1 99
  rw [hF]
  by_cases c1 : 1 ≤ f.per ∧ f.per ≤ 60
  case neg =>
    rw [if_neg fun h => c1 h.1]
    refine fnA 1 ok32 (by simp) ?_
    (conv => whnf); (repeat' ((first | refine bT ?_ | refine bF ?_ | refine bN ?_ | ((first | refine bD ?_ ?_ | refine bEq ?_ ?_ | refine bNe ?_ ?_) <;> intro hh <;> try (exfalso; omega)) | (refine (e0).callq rfl rfl fun _ h => ?_; subst h) | refine wIn (by omega) ?_ | refine nI (by omega) ?_) <;> conv => whnf))
    all_goals rfl
  have hq : 0 ≤ f.per.tdiv 2 ∧ f.per.tdiv 2 ≤ 60 := by rw [Int.tdiv_eq_ediv_of_nonneg (by omega)]; omega
  by_cases c2 : (0 ≤ f.run ∧ f.run ≤ 2000) ∧ (0 ≤ f.near ∧ f.near ≤ f.per.tdiv 2)
  case neg =>
    rw [if_neg fun h => c2 ⟨h.2.1, h.2.2.1⟩]
    refine fnA 1 ok32 (by simp) ?_
    (conv => whnf); (repeat' ((first | refine bT ?_ | refine bF ?_ | refine bN ?_ | ((first | refine bD ?_ ?_ | refine bEq ?_ ?_ | refine bNe ?_ ?_) <;> intro hh <;> try (exfalso; omega)) | (refine (e0).callq rfl rfl fun _ h => ?_; subst h) | refine wIn (by omega) ?_ | refine nI (by omega) ?_) <;> conv => whnf))
    all_goals rfl
  by_cases c3 : (∀ x ∈ f.st, 0 ≤ x ∧ x ≤ f.per - 1) ∧ (f.st.length : Int) = ↑(f.d.gs.map iAV).length
  case neg =>
    rw [if_neg fun h => c3 (hh.1 h).2.2.2.1]
    rw [decide_eq_false c3] at e1
    refine fnA 1 ok32 (by simp) ?_
    (conv => whnf); (repeat' ((first | refine bT ?_ | refine bF ?_ | refine bN ?_ | ((first | refine bD ?_ ?_ | refine bEq ?_ ?_ | refine bNe ?_ ?_) <;> intro hh <;> try (exfalso; omega)) | (refine (e0).callq rfl rfl fun _ h => ?_; subst h) | (refine (e1).callq rfl rfl fun _ h => ?_; subst h) | refine wIn (by omega) ?_ | refine nI (by omega) ?_) <;> conv => whnf))
    all_goals rfl
  rw [decide_eq_true c3] at e1
  by_cases c4 : (∀ x ∈ f.ti, 1 ≤ x ∧ x ≤ 99) ∧ (f.ti.length : Int) = ↑(f.d.gs.map iAV).length
  case neg =>
    rw [if_neg fun h => c4 (hh.1 h).2.2.2.2]
    rw [decide_eq_false c4] at e2
    refine fnA 1 ok32 (by simp) ?_
    (conv => whnf); (repeat' ((first | refine bT ?_ | refine bF ?_ | refine bN ?_ | ((first | refine bD ?_ ?_ | refine bEq ?_ ?_ | refine bNe ?_ ?_) <;> intro hh <;> try (exfalso; omega)) | (refine (e0).callq rfl rfl fun _ h => ?_; subst h) | (refine (e1).callq rfl rfl fun _ h => ?_; subst h) | (refine (e2).callq rfl rfl fun _ h => ?_; subst h) | refine wIn (by omega) ?_ | refine nI (by omega) ?_) <;> conv => whnf))
    all_goals rfl
  rw [decide_eq_true c4] at e2
  rw [if_pos (hh.2 ⟨c1, c2.1, c2.2, c3, c4⟩)]
  refine fnA 1 ok32 (by simp) ?_
  (conv => whnf); (repeat' ((first | refine bT ?_ | refine bF ?_ | refine bN ?_ | ((first | refine bD ?_ ?_ | refine bEq ?_ ?_ | refine bNe ?_ ?_) <;> intro hh <;> try (exfalso; omega)) | (refine (e0).callq rfl rfl fun _ h => ?_; subst h) | (refine (e1).callq rfl rfl fun _ h => ?_; subst h) | (refine (e2).callq rfl rfl fun _ h => ?_; subst h) | refine wIn (by omega) ?_ | refine nI (by omega) ?_) <;> conv => whnf))
  all_goals rfl
theorem s39 (f : Fig) : FnA Try.prog 39 [.agg f.cells] (fun r => ∃ b : Bool, r = .bool b ∧ (b = false → f.small ∧ (f.ok → f.N ≤ 5 ∧ f.per ≤ 8))) := by
  have l2 : (f.st.map iAV).length = f.st.length := by simp
  refine fnA 1 ok39 (by simp) ?_
  conv => whnf
  refine (s17 f).callq rfl rfl (fun r hr => ?_); obtain ⟨b, rfl, hb⟩ := hr
  cases b with
  | true =>
    (conv => whnf); (repeat' ((first | refine bT ?_ | refine bF ?_ | refine bN ?_ | ((first | refine bD ?_ ?_ | refine bEq ?_ ?_ | refine bNe ?_ ?_) <;> intro hh <;> try (exfalso; omega)) | refine wIn (by omega) ?_ | refine nI (by omega) ?_) <;> conv => whnf))
    all_goals exact ⟨_, rfl, fun h => by cases h⟩
  | false =>
    have e1 := s32 f (hb rfl)
    by_cases hok : f.ok
    · rw [chkF_ok hok] at e1
      have hst : f.st.length = f.N := hok.2.2.2.2.1
      by_cases c1 : f.N ≤ 5
      · by_cases c2 : f.per ≤ 8
        · (conv => whnf); (repeat' ((first | refine bT ?_ | refine bF ?_ | refine bN ?_ | ((first | refine bD ?_ ?_ | refine bEq ?_ ?_ | refine bNe ?_ ?_) <;> intro hh <;> try (exfalso; omega)) | (refine (e1).callq rfl rfl fun _ h => ?_; subst h) | refine wIn (by omega) ?_ | refine nI (by omega) ?_) <;> conv => whnf))
          all_goals exact ⟨_, rfl, fun _ => ⟨hb rfl, fun _ => ⟨c1, c2⟩⟩⟩
        · (conv => whnf); (repeat' ((first | refine bT ?_ | refine bF ?_ | refine bN ?_ | ((first | refine bD ?_ ?_ | refine bEq ?_ ?_ | refine bNe ?_ ?_) <;> intro hh <;> try (exfalso; omega)) | (refine (e1).callq rfl rfl fun _ h => ?_; subst h) | refine wIn (by omega) ?_ | refine nI (by omega) ?_) <;> conv => whnf))
          all_goals exact ⟨_, rfl, fun h => by first | cases h | (simp at h; omega)⟩
      · (conv => whnf); (repeat' ((first | refine bT ?_ | refine bF ?_ | refine bN ?_ | ((first | refine bD ?_ ?_ | refine bEq ?_ ?_ | refine bNe ?_ ?_) <;> intro hh <;> try (exfalso; omega)) | (refine (e1).callq rfl rfl fun _ h => ?_; subst h) | refine wIn (by omega) ?_ | refine nI (by omega) ?_) <;> conv => whnf))
        all_goals exact ⟨_, rfl, fun h => by first | cases h | (simp at h; omega)⟩
    · have h0 := chkF_pos hok
      (conv => whnf); (repeat' ((first | refine bT ?_ | refine bF ?_ | refine bN ?_ | ((first | refine bD ?_ ?_ | refine bEq ?_ ?_ | refine bNe ?_ ?_) <;> intro hh <;> try (exfalso; omega)) | (refine (e1).callq rfl rfl fun _ h => ?_; subst h) | refine wIn (by omega) ?_ | refine nI (by omega) ?_) <;> conv => whnf))
      all_goals exact ⟨_, rfl, fun _ => ⟨hb rfl, fun h => absurd h hok⟩⟩
/-- the error of the reference's check -/
theorem s55 (f : Fig) (hs : f.small) (i : Int) : FnA Try.prog 55 [.agg f.cells, .int .i64 i] (· = .int .i64 (f.eM i)) := by
  have e0 := s32 f hs
  have l2 : (f.st.map iAV).length = f.st.length := by simp
  by_cases hok : f.ok
  case neg =>
    have h0 := chkF_pos hok
    have : f.eM i = f.chk := by unfold Fig.eM; rw [if_neg hok]
    rw [this]
    refine fnA 2 ok55 (by simp) ?_
    (conv => whnf); (repeat' ((first | refine bT ?_ | refine bF ?_ | refine bN ?_ | ((first | refine bD ?_ ?_ | refine bEq ?_ ?_ | refine bNe ?_ ?_) <;> intro hh <;> try (exfalso; omega)) | (refine (e0).callq rfl rfl fun _ h => ?_; subst h) | refine wIn (by omega) ?_ | refine nI (by omega) ?_) <;> conv => whnf))
    all_goals rfl
  rw [chkF_ok hok] at e0
  have hst : f.st.length = f.d.gs.length := hok.2.2.2.2.1
  by_cases hi : 0 ≤ i ∧ i < f.d.gs.length
  case neg =>
    have : f.eM i = 1 := by unfold Fig.eM; rw [if_pos hok, if_neg hi]
    rw [this]
    refine fnA 2 ok55 (by simp) ?_
    (conv => whnf); (repeat' ((first | refine bT ?_ | refine bF ?_ | refine bN ?_ | ((first | refine bD ?_ ?_ | refine bEq ?_ ?_ | refine bNe ?_ ?_) <;> intro hh <;> try (exfalso; omega)) | (refine (e0).callq rfl rfl fun _ h => ?_; subst h) | refine wIn (by omega) ?_ | refine nI (by omega) ?_) <;> conv => whnf))
    all_goals rfl
  have hbl := hok.1.1.1
  have hno : f.d.no 0 = 0 := by unfold Dome.no; rw [if_pos hok.1, if_pos ⟨by omega, by omega⟩]
  by_cases hh : f.d.has = true
  · have : f.eM i = 0 := by unfold Fig.eM; rw [if_pos hok, if_pos hi, if_pos hh]
    rw [this]
    have hB : f.d.eB 0 = 0 := by unfold Dome.eB; rw [if_pos hno, if_pos hh]
    have e1 := k35 f.d 0 hB (by omega)
    refine fnA 2 ok55 (by simp) ?_
    (conv => whnf); (repeat' ((first | refine bT ?_ | refine bF ?_ | refine bN ?_ | ((first | refine bD ?_ ?_ | refine bEq ?_ ?_ | refine bNe ?_ ?_) <;> intro hh <;> try (exfalso; omega)) | (refine (e0).callq rfl rfl fun _ h => ?_; subst h) | (refine (e1).callzq rfl rfl fun _ h => ?_; subst h) | refine wIn (by omega) ?_ | refine nI (by omega) ?_) <;> conv => whnf))
    all_goals rfl
  · have : f.eM i = 3 := by unfold Fig.eM; rw [if_pos hok, if_pos hi, if_neg hh]
    rw [this]
    have hB : f.d.eB 0 = 3 := by unfold Dome.eB; rw [if_pos hno, if_neg hh]
    have e1 := k35_no f.d 0 (by rw [hB]; decide)
    rw [hB] at e1
    refine fnA 2 ok55 (by simp) ?_
    (conv => whnf); (repeat' ((first | refine bT ?_ | refine bF ?_ | refine bN ?_ | ((first | refine bD ?_ ?_ | refine bEq ?_ ?_ | refine bNe ?_ ?_) <;> intro hh <;> try (exfalso; omega)) | (refine (e0).callq rfl rfl fun _ h => ?_; subst h) | (refine (e1).callzq rfl rfl fun _ h => ?_; subst h) | refine wIn (by omega) ?_ | refine nI (by omega) ?_) <;> conv => whnf))
    all_goals rfl
theorem eM_0 (f : Fig) : f.eM 0 = f.eF := by
  unfold Fig.eM Fig.eF
  by_cases hok : f.ok
  · have := hok.1.1.2.1
    rw [if_pos hok, if_pos hok, if_pos ⟨by omega, by omega⟩]
  · rw [if_neg hok, if_neg hok]
theorem s18 (f : Fig) (hs : f.small) : FnA Try.prog 18 [.agg f.cells] (· = .int .i64 f.eF) := by
  have e1 := s55 f hs 0
  rw [eM_0] at e1
  refine fnA 1 ok18 (by simp) ?_
  (conv => whnf); (repeat' ((first | refine bT ?_ | refine bF ?_ | refine bN ?_ | ((first | refine bD ?_ ?_ | refine bEq ?_ ?_ | refine bNe ?_ ?_) <;> intro hh <;> try (exfalso; omega)) | (refine (e1).callq rfl rfl fun _ h => ?_; subst h) | refine wIn (by omega) ?_ | refine nI (by omega) ?_) <;> conv => whnf))
  all_goals rfl
/-- a seam meets with a length of its run, with some starts -/
def Fig.mbL (f : Fig) (l : List Int) (i : Nat) (x : Int) : Bool := decide (f.dist ((l.getD i 0 + x).tmod f.per) (l.getD ((i + 1) % f.N) 0) ≤ f.near)
def Fig.cntL (f : Fig) (l : List Int) (i : Nat) : Nat := ((f.rs i).filter (f.mbL l i)).length
theorem s28o (f : Fig) (hs : f.small) : FnO Try.prog 28 [.agg f.cells] (fun r rows => r = .agg [.row 3, .row 4, .int .i64 f.d.loss, .row 5, .row 6, .int .i64 f.d.slope, .int .i64 f.per, .int .i64 f.run, .int .i64 f.near, .row 8, .row 10] ∧ rows = [(3, .row false 55 4 (f.d.bs.map Bolt.av)), (4, .row false 3 1 (f.d.gs.map iAV)), (5, .row false 50 2 (f.d.rs.map pairAV)), (6, .row false 3 1 (f.d.ws.map iAV)), (8, .row false 3 1 (f.st.map iAV)), (10, .row false 3 1 (f.ti.map iAV))]) := by
  have e0 := k27o f.d hs.1
  have l2 : (f.st.map iAV).length = f.st.length := by simp
  have l3 : (f.ti.map iAV).length = f.ti.length := by simp
  obtain ⟨_, h2, h3⟩ := hs
  refine fnO 11 ok28 (by simp) ?_
  (conv => whnf); (repeat' ((first | refine bT ?_ | refine bF ?_ | refine bN ?_ | ((first | refine bD ?_ ?_ | refine bEq ?_ ?_ | refine bNe ?_ ?_) <;> intro hh <;> try (exfalso; omega)) | refine wIn (by omega) ?_ | refine nI (by omega) ?_) <;> conv => whnf))
  refine e0.callzq rfl rfl (fun r rows (hr : r = _ ∧ rows = _) => ?_); obtain ⟨hr1, hr2⟩ := hr; subst hr1; subst hr2; refine ⟨rfl, ?_⟩
  (conv => whnf); (repeat' ((first | refine bT ?_ | refine bF ?_ | refine bN ?_ | ((first | refine bD ?_ ?_ | refine bEq ?_ ?_ | refine bNe ?_ ?_) <;> intro hh <;> try (exfalso; omega)) | refine wIn (by omega) ?_ | refine nI (by omega) ?_) <;> conv => whnf))
  refine apI (one_iAV _) (by simp only [l2, List.length_nil]; omega) ?_
  (conv => whnf); (repeat' ((first | refine bT ?_ | refine bF ?_ | refine bN ?_ | ((first | refine bD ?_ ?_ | refine bEq ?_ ?_ | refine bNe ?_ ?_) <;> intro hh <;> try (exfalso; omega)) | refine wIn (by omega) ?_ | refine nI (by omega) ?_) <;> conv => whnf))
  refine apI (one_iAV _) (by simp only [l3, List.length_nil]; omega) ?_
  (conv => whnf); (repeat' ((first | refine bT ?_ | refine bF ?_ | refine bN ?_ | ((first | refine bD ?_ ?_ | refine bEq ?_ ?_ | refine bNe ?_ ?_) <;> intro hh <;> try (exfalso; omega)) | refine wIn (by omega) ?_ | refine nI (by omega) ?_) <;> conv => whnf))
  all_goals exact ⟨rfl, rfl⟩
/-- beginnings, as the reference says it -/
def Fig.areB (f : Fig) (l : List Int) : Prop := l.length = f.N ∧ (∀ x ∈ l, 0 ≤ x ∧ x < f.per) ∧ ∀ i, i < f.N → ∀ x ∈ f.rs i, f.mbL l i x = true
def Fig.metN (f : Fig) (l : List Int) (k : Nat) : Bool := (List.range k).all fun i => decide ((f.rs i).length ≤ f.cntL l i)
theorem metN_iff {f : Fig} {l : List Int} : f.metN l f.N = true ↔ ∀ i, i < f.N → ∀ x ∈ f.rs i, f.mbL l i x = true := by
  unfold Fig.metN
  rw [List.all_eq_true]
  constructor
  · intro h i hi x hx
    have this : (f.rs i).length ≤ ((f.rs i).filter (f.mbL l i)).length := of_decide_eq_true (h i (List.mem_range.2 hi))
    have h2 : (f.rs i).filter (f.mbL l i) = f.rs i := (List.filter_sublist).eq_of_length (Nat.le_antisymm (List.length_filter_le _ _) this)
    rw [← h2] at hx; exact (List.mem_filter.1 hx).2
  · intro h i hi
    refine decide_eq_true ?_
    show (f.rs i).length ≤ ((f.rs i).filter (f.mbL l i)).length
    rw [List.filter_eq_self.2 (h i (List.mem_range.1 hi))]
    exact Nat.le_refl _
instance (f : Fig) (l : List Int) : Decidable (f.areB l) := decidable_of_iff (l.length = f.N ∧ (∀ x ∈ l, 0 ≤ x ∧ x < f.per) ∧ f.metN l f.N = true) (by unfold Fig.areB; rw [metN_iff])
theorem lw_congr {f g : Fig} (h : ∀ l, f.isB f.near l ↔ g.isB g.near l) : f.lw = g.lw ∧ f.lE = g.lE := by
  by_cases hb : f.hasB
  · obtain ⟨h1, ⟨l, h2, h3⟩, h4⟩ := lw_spec hb
    have := lw_eq (f := g) ((h l).1 h2) fun l' hl' => by rw [h3]; exact h4 l' ((h l').2 hl')
    exact ⟨by rw [this.2, h3], by rw [h1, this.1]⟩
  · have hg : ¬ g.hasB := fun ⟨l, hl⟩ => hb ⟨l, (h l).2 hl⟩
    rw [(lw_no hb).1, (lw_no hb).2, (lw_no hg).1, (lw_no hg).2]; exact ⟨rfl, rfl⟩
def Fig.wsF (f : Fig) (l : List Int) : Fig := { f with d := { f.d with ws := l } }
theorem wsF_ok {f : Fig} (hok : f.ok) {l : List Int} (h1 : l.length = f.d.rs.length) (h2 : ∀ w ∈ l, 2 * f.d.loss ≤ w ∧ w ≤ 2000) : (f.wsF l).ok := by
  obtain ⟨⟨⟨a1, a2, a3, a4, a5, a6, a7, a8, a9⟩, a10⟩, k⟩ := hok
  exact ⟨⟨⟨a1, a2, a3, a4, a5, a6, h1, h2, a9⟩, a10⟩, k⟩
theorem wsF_sumL (f : Fig) (l : List Int) (n : Int) : ∀ g, (f.wsF l).sumL n g = f.sumL n g
  | 0 => rfl
  | g + 1 => by simp only [Fig.sumL, wsF_sumL f l n g]; rfl
theorem wsF_clst (f : Fig) (l : List Int) : (f.wsF l).clst = f.clst := by
  have hc : ∀ n, (f.wsF l).clo n = f.clo n := fun n => by
    unfold Fig.clo
    rw [wsF_sumL]; rfl
  unfold Fig.clst
  have : (fun j : Nat => (f.wsF l).clo j) = fun j : Nat => f.clo j := funext fun j => hc j
  rw [this]; rfl
theorem wsF_loose {f : Fig} {l : List Int} (h : ∀ k, k < f.d.rs.length → f.d.opn.sure (f.d.rs.getD k (0, 0)) (l.getD k 0) = true) : (f.wsF l).d.opn.loose = [] := by
  unfold Opn.loose Opn.looseN
  have : (List.range (f.wsF l).d.opn.d.rs.length).filter (fun k => !(f.wsF l).d.opn.sure ((f.wsF l).d.opn.d.rs.getD k (0, 0)) ((f.wsF l).d.opn.d.ws.getD k 0)) = [] := by
    refine List.filter_eq_nil_iff.2 fun k hk => ?_
    have hk' : k < f.d.rs.length := List.mem_range.1 hk
    have h2 : (f.wsF l).d.opn.sure ((f.wsF l).d.opn.d.rs.getD k (0, 0)) ((f.wsF l).d.opn.d.ws.getD k 0) = true := h k hk'
    rw [h2]; simp
  rw [this]; rfl
/-- TopCurve -/
theorem l16 (f : Fig) : FnA Try.prog 16 [.agg f.cells] (· = .bool true) := by
  have w := s45
  refine fnA 14 ok16 (by simp) ?_
  conv => whnf
  refine (s39 f).callq rfl rfl (fun r hr => ?_); obtain ⟨b, rfl, hb⟩ := hr
  cases b with
  | true =>
    (conv => whnf); (repeat' ((first | refine bT ?_ | refine bF ?_ | refine bN ?_ | ((first | refine bD ?_ ?_ | refine bEq ?_ ?_ | refine bNe ?_ ?_) <;> intro hh <;> try (exfalso; omega)) | (refine (w).callq rfl rfl fun _ h => ?_; subst h) | refine wIn (by omega) ?_ | refine nI (by omega) ?_) <;> conv => whnf))
    all_goals rfl
  | false =>
    obtain ⟨hs, _⟩ := hb rfl
    have c0 := s18 f hs
    by_cases h0 : f.eF = 0
    case neg =>
      (conv => whnf); (repeat' ((first | refine bT ?_ | refine bF ?_ | refine bN ?_ | ((first | refine bD ?_ ?_ | refine bEq ?_ ?_ | refine bNe ?_ ?_) <;> intro hh <;> try (exfalso; omega)) | (refine (c0).callq rfl rfl fun _ h => ?_; subst h) | (refine (w).callq rfl rfl fun _ h => ?_; subst h) | refine wIn (by omega) ?_ | refine nI (by omega) ?_) <;> conv => whnf))
      all_goals rfl
    rw [h0] at c0
    obtain ⟨hok, hh⟩ := eF_ok h0
    have hD : f.d.eD = 0 := by unfold Dome.eD; rw [if_pos hok.1, if_pos hh]
    have e1 := k43 f.d hD
    have hwl := hok.1.1.2.2.2.2.2.2.1
    have l1 : (f.d.ws.map iAV).length = f.d.ws.length := by simp
    cases hc : f.d.opn.curve with
    | none =>
      rw [hc] at e1
      have e1' : FnA Try.prog 52 [.agg f.d.cells] (· = .tup [.isl [], .int .i64 3]) := e1
      (conv => whnf); (repeat' ((first | refine bT ?_ | refine bF ?_ | refine bN ?_ | ((first | refine bD ?_ ?_ | refine bEq ?_ ?_ | refine bNe ?_ ?_) <;> intro hh <;> try (exfalso; omega)) | (refine (c0).callq rfl rfl fun _ h => ?_; subst h) | (refine (e1').callzq rfl rfl fun _ h => ?_; subst h) | (refine (w).callq rfl rfl fun _ h => ?_; subst h) | refine wIn (by omega) ?_ | refine nI (by omega) ?_) <;> conv => whnf))
      all_goals rfl
    | some l =>
      rw [hc] at e1
      have e1' : FnA Try.prog 52 [.agg f.d.cells] (· = .tup [.isl (l.map iAV), .int .i64 0]) := e1
      have hC := curve_isC hok.1 hh hc
      have hll := hC.1
      have l2 : (l.map iAV).length = l.length := by simp
      have hrow := hC.2
      have hoko : (f.wsF l).ok := wsF_ok hok hll fun x hx => by
        obtain ⟨k, hk, rfl⟩ := List.getElem_of_mem hx
        have h := (hrow k hk).1
        have e : l.getD k 0 = l[k] := by simp [List.getD_eq_getElem?_getD, hk]
        rw [e] at h; exact h
      have hs2 : ∀ k, k < f.d.rs.length → f.d.opn.sure (f.d.rs.getD k (0, 0)) (l.getD k 0) = true := fun k hk => by
        obtain ⟨h1, h2, _⟩ := hrow k (by omega)
        exact (sure_iff hok.1 hh h1.1 _).2 (cnt_all.1 h2)
      have hlo := wsF_loose hs2
      have h0o : (f.wsF l).eF = 0 := by unfold Fig.eF; rw [if_pos hoko, if_pos (show (f.wsF l).d.has = true from hh)]
      have hDo : (f.wsF l).d.eD = 0 := by unfold Dome.eD; rw [if_pos hoko.1, if_pos (show (f.wsF l).d.has = true from hh)]
      have hso : (f.wsF l).small := ⟨⟨hs.1.1, hs.1.2.1, hs.1.2.2.1, by show l.length ≤ 60; have := hs.1.2.2.1; omega, hs.1.2.2.2.2⟩, hs.2⟩
      have e0 := s28o f hs
      have c1 := s32 (f.wsF l) hso
      rw [chkF_ok hoko] at c1
      have c2 := k23 (f.wsF l).d hDo
      rw [hlo] at c2
      have a3 := s22 f h0
      have a4 := s22 (f.wsF l) h0o
      have a5 := s26 f h0
      have a6 := s26 (f.wsF l) h0o
      have hlw := lw_congr (f := f.wsF l) (g := f) fun l' => Iff.rfl
      rw [hlw.1, hlw.2] at a6
      have a7 := s29 f h0
      have a8 := s29 (f.wsF l) h0o
      rw [wsF_clst] at a8
      have a4' : FnA Try.prog 22 [.agg (f.wsF l).cells] (· = .tup [.isl (f.bad.map iAV), .int .i64 0]) := a4
      have hbl : f.bad.length ≤ 1000000 := by have := badN_le f f.d.gs.length; have := hok.1.1.2.1; unfold Fig.bad; omega
      have x1 := s53 f.bad f.bad hbl
      rw [decide_eq_true rfl] at x1
      have hz : ((([] : List Int).map iAV).length : Int) = 0 := rfl
      (conv => whnf); (repeat' ((first | refine bT ?_ | refine bF ?_ | refine bN ?_ | ((first | refine bD ?_ ?_ | refine bEq ?_ ?_ | refine bNe ?_ ?_) <;> intro hh <;> try (exfalso; omega)) | (refine (c0).callq rfl rfl fun _ h => ?_; subst h) | (refine (e1').callzq rfl rfl fun _ h => ?_; subst h) | refine wIn (by omega) ?_ | refine nI (by omega) ?_) <;> conv => whnf))
      refine e0.callzq rfl rfl (fun r rows (hr : r = _ ∧ rows = _) => ?_); obtain ⟨hr1, hr2⟩ := hr; subst hr1; subst hr2; refine ⟨rfl, ?_⟩
      (conv => whnf); (repeat' ((first | refine bT ?_ | refine bF ?_ | refine bN ?_ | ((first | refine bD ?_ ?_ | refine bEq ?_ ?_ | refine bNe ?_ ?_) <;> intro hh <;> try (exfalso; omega)) | refine wIn (by omega) ?_ | refine nI (by omega) ?_) <;> conv => whnf))
      refine apI (one_iAV _) (by simp only [l2, List.length_nil]; have := hs.1.2.2.1; omega) ?_
      (conv => whnf); (repeat' ((first | refine bT ?_ | refine bF ?_ | refine bN ?_ | ((first | refine bD ?_ ?_ | refine bEq ?_ ?_ | refine bNe ?_ ?_) <;> intro hh <;> try (exfalso; omega)) | (refine (c1).lendq rfl fun _ h => ?_; subst h; refine ⟨rfl, ?_⟩) | (refine (c2).callzq rfl rfl fun _ h => ?_; subst h) | (refine (a3).callzq rfl rfl fun _ h => ?_; subst h) | (refine (a4').callzq rfl rfl fun _ h => ?_; subst h) | (refine (a5).callq rfl rfl fun _ h => ?_; subst h) | (refine (a6).lendq rfl fun _ h => ?_; subst h; refine ⟨rfl, ?_⟩) | (refine (a7).callq rfl rfl fun _ h => ?_; subst h) | (refine (a8).lendq rfl fun _ h => ?_; subst h; refine ⟨rfl, ?_⟩) | (refine (x1).callq rfl rfl fun _ h => ?_; subst h) | (refine (w).callq rfl rfl fun _ h => ?_; subst h) | refine wIn (by omega) ?_ | refine nI (by omega) ?_) <;> conv => whnf))
      all_goals rfl
end Go.Proofs
