/- What each function of this program answers, proved by walking its body: the contracts that the law rests on, part 4. -/
import Derived.Test.YtkkpokakjblenaaFns3
set_option linter.unusedSimpArgs false
set_option linter.unusedVariables false
set_option linter.unusedSectionVars false
namespace Go.Proofs
open Go.Eng
attribute [local irreducible] Go.Eng.brB Go.Eng.need Go.Eng.wrE Go.Eng.iaE Go.Eng.slE Go.Eng.apE Go.Eng.CallZ Go.Eng.CallE Go.Eng.VCallE Go.Eng.YldE Go.Eng.GoC Go.Eng.MeetsE Go.Eng.FnA Go.Eng.FnV Go.Eng.ItA
set_option maxRecDepth 100000
/-- beginnings, as the reference says it -/
def Fig.areB (f : Fig) (l : List Int) : Prop := l.length = f.N ∧ (∀ x ∈ l, 0 ≤ x ∧ x < f.per) ∧ ∀ i, i < f.N → ∀ x ∈ f.rs i, f.mbL l i x = true
theorem dist_step {f : Fig} (hp : 1 ≤ f.per) {a b r : Int} (ha : 0 ≤ a ∧ a < f.per) (hb : 0 ≤ b ∧ b < f.per) (hr : 0 ≤ r ∧ r < f.per) : f.dist ((b - a) % f.per) r = f.dist ((a + r).tmod f.per) b := by
  obtain ⟨h1, h2, h3⟩ := tmod_in (a := a + r) (b := f.per) (by omega) hp
  rw [dist_eq ⟨Int.emod_nonneg _ (by omega), Int.emod_lt_of_pos _ (by omega)⟩ hr, h1, dist_eq ⟨h2, h3⟩ hb]
  have e1 : ((b - a) % f.per - r) % f.per = (b - (a + r) % f.per) % f.per := by
    rw [Int.sub_emod, Int.emod_emod_of_dvd _ (Int.dvd_refl _), ← Int.sub_emod, Int.sub_emod b, Int.emod_emod_of_dvd _ (Int.dvd_refl _), ← Int.sub_emod]
    congr 1; omega
  have e2 : (r - (b - a) % f.per) % f.per = ((a + r) % f.per - b) % f.per := by
    rw [Int.sub_emod, Int.emod_emod_of_dvd _ (Int.dvd_refl _), ← Int.sub_emod, Int.sub_emod ((a + r) % f.per), Int.emod_emod_of_dvd _ (Int.dvd_refl _), ← Int.sub_emod]
    congr 1; omega
  rw [e1, e2]; omega
theorem are_iff {f : Fig} (hok : f.ok) (l : List Int) : f.isB f.near l ↔ f.areB l := by
  have hp := hok.2.1
  have hN := N_in hok
  unfold Fig.isB Fig.areB
  refine and_congr_right fun hl => and_congr_right fun hx => forall_congr' fun i => forall_congr' fun hi => ?_
  have hri := rs_in hok (i := i) hi
  have ha := getD_in hx (i := i) (by omega)
  have hb := getD_in hx (i := (i + 1) % f.N) (by rw [hl]; exact Nat.mod_lt _ (by omega))
  unfold Fig.mbL
  generalize l.getD i 0 = a at *
  generalize l.getD ((i + 1) % f.N) 0 = b at *
  constructor
  · rintro ⟨s, hs, rfl⟩ x hx'
    obtain ⟨h1, h2⟩ := (mem_stp (by omega)).1 hs
    obtain ⟨c1, c2, c3⟩ := tmod_in (a := a + s) (b := f.per) (by omega) hp.1
    have e : ((a + s).tmod f.per - a) % f.per = s := by
      rw [c1, Int.sub_emod, Int.emod_emod_of_dvd _ (Int.dvd_refl _), ← Int.sub_emod, show a + s - a = s by omega, Int.emod_eq_of_lt h1.1 h1.2]
    have h3 := dist_step hp.1 ha (b := (a + s).tmod f.per) ⟨by omega, by omega⟩ (hri x hx')
    rw [e] at h3
    rw [← h3]
    exact List.all_eq_true.1 h2 x hx'
  · intro h
    refine ⟨(b - a) % f.per, (mem_stp (by omega)).2 ⟨⟨Int.emod_nonneg _ (by omega), Int.emod_lt_of_pos _ (by omega)⟩, List.all_eq_true.2 fun x hx' => ?_⟩, ?_⟩
    · rw [dist_step hp.1 ha hb (hri x hx')]
      exact h x hx'
    · have h0 := Int.emod_nonneg (b - a) (show f.per ≠ 0 by omega)
      rw [Int.tmod_eq_emod_of_nonneg (by omega), Int.add_emod_emod, show a + (b - a) = b by omega, Int.emod_eq_of_lt hb.1 hb.2]
theorem hasB_iff {f : Fig} (hok : f.ok) : f.hasB ↔ ∃ l, f.areB l := ⟨fun ⟨l, h⟩ => ⟨l, (are_iff hok l).1 h⟩, fun ⟨l, h⟩ => ⟨l, (are_iff hok l).2 h⟩⟩
/-- a gore joins the next one -/
def Fig.jn (f : Fig) (i : Nat) (a b : Int) : Bool := (f.nm i).all fun s => decide (f.dist ((a + f.leng s).tmod f.per) b ≤ f.near)
theorem leng_mod {f : Fig} (hok : f.ok) {a s : Int} (ha : 0 ≤ a ∧ a < f.per) (hs : 0 ≤ s ∧ s ≤ 60) : (a + pulled f.run s) % f.per = (a + f.leng s).tmod f.per ∧ 0 ≤ pulled f.run s ∧ pulled f.run s ≤ 2120 := by
  have hp := hok.2.1
  have hr := hok.2.2.1
  have hp0 : 0 ≤ pulled f.run s := by
    unfold pulled
    rw [Int.tdiv_eq_ediv_of_nonneg (Int.mul_nonneg (by omega) (by omega))]
    exact Int.ediv_nonneg (Int.mul_nonneg (by omega) (by omega)) (by omega)
  have hpm : pulled f.run s ≤ 2120 := by
    have h1 : f.run * (1000 + s) ≤ 2000 * 1060 := Int.mul_le_mul (by omega) (by omega) (by omega) (by omega)
    unfold pulled
    rw [Int.tdiv_eq_ediv_of_nonneg (Int.mul_nonneg (by omega) (by omega))]
    omega
  have h1 : f.leng s = (pulled f.run s) % f.per := Int.tmod_eq_emod_of_nonneg hp0
  have h2 := Int.emod_nonneg (pulled f.run s) (show f.per ≠ 0 by omega)
  exact ⟨by rw [h1, Int.tmod_eq_emod_of_nonneg (by omega), Int.add_emod_emod], hp0, hpm⟩
theorem s103 (f : Fig) (hok : f.ok) (i : Nat) (hi : i < f.N) (a b : Int) (ha : 0 ≤ a ∧ a < f.per) (hb : 0 ≤ b ∧ b < f.per) : FnA Try.prog 103 [.agg f.cells, .isl ((f.nm i).map iAV), .int .i64 a, .int .i64 b] (· = .bool (f.jn i a b)) := by
  obtain ⟨_, hn, hnl⟩ := nm_eq hok hi
  have hp := hok.2.1
  have hr := hok.2.2.1
  unfold Fig.jn
  generalize f.nm i = n at *
  have l1 : (n.map iAV).length = n.length := by simp
  refine fnA 1 ok103 (by simp) ?_
  (conv => whnf); (repeat' ((first | refine bT ?_ | refine bF ?_ | refine bN ?_ | ((first | refine bD ?_ ?_ | refine bEq ?_ ?_ | refine bNe ?_ ?_) <;> intro hh <;> try (exfalso; omega)) | refine wIn (by omega) ?_ | refine nI (by omega) ?_) <;> conv => whnf))
  refine loop_i (α := Nat) (fun k => [(9, .int .i64 k), (4, .own 0 0), (3, .int .i64 b), (2, .int .i64 a), (1, .isl (n.map iAV))]) (fun k => [.box false f.cells]) (fun k => k ≤ n.length ∧ ((n.take k).all fun s => decide (f.dist ((a + f.leng s).tmod f.per) b ≤ f.near)) = true) (fun k => n.length - k) 0 (meets_id (by (repeat' apply And.intro) <;> first | rfl | exact True.intro | (intro hh; cases hh))) ⟨by omega, by simp⟩ ?_
  rintro k ⟨hk0, hin⟩
  conv => whnf
  refine bD (fun h4 => ?_) (fun h4 => ?_)
  · have hk : k < n.length := by omega
    have hs := hn _ (List.getElem_mem hk)
    obtain ⟨m1, m2, m3⟩ := leng_mod hok ha hs
    have e1 := k47 f.run n[k] (by omega) (by omega)
    have e2 := s62 (a + pulled f.run n[k]) f.per (by omega) (by omega)
    rw [m1] at e2
    have hq : 0 ≤ (a + f.leng n[k]).tmod f.per ∧ (a + f.leng n[k]).tmod f.per < f.per := by
      rw [← m1]; exact ⟨Int.emod_nonneg _ (by omega), Int.emod_lt_of_pos _ (by omega)⟩
    have e3 := s63 f hok ((a + f.leng n[k]).tmod f.per) b hq hb
    by_cases hd : f.dist ((a + f.leng n[k]).tmod f.per) b ≤ f.near
    · rw [decide_eq_true hd] at e3
      (conv => whnf); (repeat' ((first | refine bT ?_ | refine bF ?_ | refine bN ?_ | ((first | refine bD ?_ ?_ | refine bEq ?_ ?_ | refine bNe ?_ ?_) <;> intro hh <;> try (exfalso; omega)) | (refine iaI (by omega) (by omega) (getD_map iAV n k hk) ?_) | (refine (e1).callq rfl rfl fun _ h => ?_; subst h) | (refine (e2).callq rfl rfl fun _ h => ?_; subst h) | (refine (e3).callq rfl rfl fun _ h => ?_; subst h) | refine wIn (by omega) ?_ | refine nI (by omega) ?_) <;> conv => whnf))
      exact ⟨k + 1, (meets_id (by (repeat' apply And.intro) <;> first | rfl | exact True.intro | (intro hh; cases hh))), ⟨by omega, each_step (p := fun s => decide (f.dist ((a + f.leng s).tmod f.per) b ≤ f.near)) hk hin (decide_eq_true hd)⟩, by omega⟩
    · rw [decide_eq_false hd] at e3
      rw [each_no (p := fun s => decide (f.dist ((a + f.leng s).tmod f.per) b ≤ f.near)) hk (decide_eq_false hd)]
      (conv => whnf); (repeat' ((first | refine bT ?_ | refine bF ?_ | refine bN ?_ | ((first | refine bD ?_ ?_ | refine bEq ?_ ?_ | refine bNe ?_ ?_) <;> intro hh <;> try (exfalso; omega)) | (refine iaI (by omega) (by omega) (getD_map iAV n k hk) ?_) | (refine (e1).callq rfl rfl fun _ h => ?_; subst h) | (refine (e2).callq rfl rfl fun _ h => ?_; subst h) | (refine (e3).callq rfl rfl fun _ h => ?_; subst h) | refine wIn (by omega) ?_ | refine nI (by omega) ?_) <;> conv => whnf))
      all_goals rfl
  · have : k = n.length := by omega
    subst this
    rw [List.take_length] at hin
    rw [hin]
    (conv => whnf); (repeat' ((first | refine bT ?_ | refine bF ?_ | refine bN ?_ | ((first | refine bD ?_ ?_ | refine bEq ?_ ?_ | refine bNe ?_ ?_) <;> intro hh <;> try (exfalso; omega)) | refine wIn (by omega) ?_ | refine nI (by omega) ?_) <;> conv => whnf))
    all_goals rfl
def Fig.metN (f : Fig) (l : List Int) (k : Nat) : Bool := (List.range k).all fun i => decide ((f.rs i).length ≤ f.cntL l i)
theorem s65 (f : Fig) (hok : f.ok) (l : List Int) (hl : l.length = f.N) (hx : ∀ x ∈ l, 0 ≤ x ∧ x < f.per) : FnA Try.prog 65 [.agg f.cells, .isl (boltsL f f.N), .isl (l.map iAV)] (· = .bool (f.metN l f.N)) := by
  have l1 : (l.map iAV).length = l.length := by simp
  have hN := N_in hok
  have hbl : (boltsL f f.N).length = f.N := by simp [boltsL]
  refine fnA 1 ok65 (by simp) ?_
  (conv => whnf); (repeat' ((first | refine bT ?_ | refine bF ?_ | refine bN ?_ | ((first | refine bD ?_ ?_ | refine bEq ?_ ?_ | refine bNe ?_ ?_) <;> intro hh <;> try (exfalso; omega)) | refine wIn (by omega) ?_ | refine nI (by omega) ?_) <;> conv => whnf))
  refine loop_i (α := Nat) (fun k => [(7, .int .i64 k), (3, .own 0 0), (2, .isl (l.map iAV)), (1, .isl (boltsL f f.N))]) (fun k => [.box false f.cells]) (fun k => k ≤ f.N ∧ f.metN l k = true) (fun k => f.N - k) 0 (meets_id (by (repeat' apply And.intro) <;> first | rfl | exact True.intro | (intro hh; cases hh))) ⟨by omega, rfl⟩ ?_
  rintro k ⟨hk0, hin⟩
  conv => whnf
  refine bD (fun h4 => ?_) (fun h4 => ?_)
  · have hk : k < f.N := by omega
    have e1 := s74 f hok l hl hx k hk
    have hba : (boltsL f f.N).getD k [] = [.isl ((f.nm k).map iAV)] := boltsL_at f hk
    have hnl : ((f.nm k).map iAV).length = (f.rs k).length := by rw [(nm_eq hok hk).1]; simp
    by_cases hd : (f.rs k).length ≤ f.cntL l k
    · (conv => whnf); (repeat' ((first | refine bT ?_ | refine bF ?_ | refine bN ?_ | ((first | refine bD ?_ ?_ | refine bEq ?_ ?_ | refine bNe ?_ ?_) <;> intro hh <;> try (exfalso; omega)) | (refine iaI (by omega) (by omega) hba ?_) | (refine (e1).callq rfl rfl fun _ h => ?_; subst h) | refine wIn (by omega) ?_ | refine nI (by omega) ?_) <;> conv => whnf))
      refine ⟨k + 1, (meets_id (by (repeat' apply And.intro) <;> first | rfl | exact True.intro | (intro hh; cases hh))), ⟨by omega, ?_⟩, by omega⟩
      unfold Fig.metN at hin ⊢
      rw [List.range_succ, List.all_append, hin]; simp [hd]
    · have : f.metN l f.N = false := by
        unfold Fig.metN
        rw [List.all_eq_false]
        exact ⟨k, List.mem_range.2 hk, by simp; omega⟩
      rw [this]
      (conv => whnf); (repeat' ((first | refine bT ?_ | refine bF ?_ | refine bN ?_ | ((first | refine bD ?_ ?_ | refine bEq ?_ ?_ | refine bNe ?_ ?_) <;> intro hh <;> try (exfalso; omega)) | (refine iaI (by omega) (by omega) hba ?_) | (refine (e1).callq rfl rfl fun _ h => ?_; subst h) | refine wIn (by omega) ?_ | refine nI (by omega) ?_) <;> conv => whnf))
      all_goals rfl
  · have : k = f.N := by omega
    subst this
    rw [hin]
    (conv => whnf); (repeat' ((first | refine bT ?_ | refine bF ?_ | refine bN ?_ | ((first | refine bD ?_ ?_ | refine bEq ?_ ?_ | refine bNe ?_ ?_) <;> intro hh <;> try (exfalso; omega)) | refine wIn (by omega) ?_ | refine nI (by omega) ?_) <;> conv => whnf))
    all_goals rfl
theorem metN_iff {f : Fig} {l : List Int} : f.metN l f.N = true ↔ ∀ i, i < f.N → ∀ x ∈ f.rs i, f.mbL l i x = true := by
  unfold Fig.metN
  rw [List.all_eq_true]
  constructor
  · intro h i hi x hx
    have this : (f.rs i).length ≤ ((f.rs i).filter (f.mbL l i)).length := of_decide_eq_true (h i (List.mem_range.2 hi))
    have h2 : (f.rs i).filter (f.mbL l i) = f.rs i := (List.filter_sublist).eq_of_length (Nat.le_antisymm (List.length_filter_le _ _) this)
    rw [← h2] at hx; exact (List.mem_filter.1 hx).2
  · intro h i hi
    refine decide_eq_true ?_
    show (f.rs i).length ≤ ((f.rs i).filter (f.mbL l i)).length
    rw [List.filter_eq_self.2 (h i (List.mem_range.1 hi))]
    exact Nat.le_refl _
instance (f : Fig) (l : List Int) : Decidable (f.areB l) := decidable_of_iff (l.length = f.N ∧ (∀ x ∈ l, 0 ≤ x ∧ x < f.per) ∧ f.metN l f.N = true) (by unfold Fig.areB; rw [metN_iff])
theorem s27 (f : Fig) (hok : f.ok) (hh : f.d.has = true) (l : List Int) (hl : l.length ≤ 1000000) : FnA Try.prog 27 [.agg f.cells, .isl (l.map iAV)] (· = .bool (decide (f.areB l))) := by
  have l1 : (f.st.map iAV).length = f.st.length := by simp
  have hp := hok.2.1
  have hst : f.st.length = f.N := hok.2.2.2.2.1
  have e1 := s64 l hl ↑(f.st.map iAV).length 0 (f.per - 1)
  have e2 := s66 f hok hh
  by_cases hc : (∀ x ∈ l, 0 ≤ x ∧ x ≤ f.per - 1) ∧ (l.length : Int) = ↑(f.st.map iAV).length
  · rw [decide_eq_true hc] at e1
    have e3 := s65 f hok l (by omega) (fun x hx => by have := hc.1 x hx; omega)
    have : decide (f.areB l) = f.metN l f.N := by
      rw [Bool.eq_iff_iff, decide_eq_true_eq, metN_iff]
      exact ⟨fun h => h.2.2, fun h => ⟨by omega, fun x hx => (by have := hc.1 x hx; omega), h⟩⟩
    rw [this]
    refine fnA 2 ok27 (by simp) ?_
    (conv => whnf); (repeat' ((first | refine bT ?_ | refine bF ?_ | refine bN ?_ | ((first | refine bD ?_ ?_ | refine bEq ?_ ?_ | refine bNe ?_ ?_) <;> intro hh <;> try (exfalso; omega)) | (refine (e1).callq rfl rfl fun _ h => ?_; subst h) | (refine (e2).callzq rfl rfl fun _ h => ?_; subst h) | (refine (e3).callq rfl rfl fun _ h => ?_; subst h) | refine wIn (by omega) ?_ | refine nI (by omega) ?_) <;> conv => whnf))
    all_goals rfl
  · rw [decide_eq_false hc] at e1
    rw [decide_eq_false fun h : f.areB l => hc ⟨fun x hx => by have := h.2.1 x hx; omega, by have := h.1; omega⟩]
    refine fnA 2 ok27 (by simp) ?_
    (conv => whnf); (repeat' ((first | refine bT ?_ | refine bF ?_ | refine bN ?_ | ((first | refine bD ?_ ?_ | refine bEq ?_ ?_ | refine bNe ?_ ?_) <;> intro hh <;> try (exfalso; omega)) | (refine (e1).callq rfl rfl fun _ h => ?_; subst h) | refine wIn (by omega) ?_ | refine nI (by omega) ?_) <;> conv => whnf))
    all_goals rfl
def ext (f : Fig) (first l : List Int) : Prop := f.areB l ∧ l.take first.length = first
def lst (f : Fig) (first : List Int) (r : Int) : Prop := (r = -1 ∧ ∀ l, ¬ ext f first l) ∨ (∃ l, ext f first l ∧ r = l.sum ∧ ∀ l', ext f first l' → r ≤ l'.sum)
theorem ext_all {f : Fig} {first l : List Int} (hl : first.length = f.N) : ext f first l ↔ l = first ∧ f.areB first := by
  constructor
  · rintro ⟨h1, h2⟩
    rw [hl, ← h1.1, List.take_length] at h2
    subst h2
    exact ⟨rfl, h1⟩
  · rintro ⟨rfl, h⟩
    exact ⟨h, by rw [List.take_length]⟩
theorem ext_one {f : Fig} {first l : List Int} {k : Int} (hl : first.length < f.N) : ext f (first ++ [k]) l ↔ ext f first l ∧ l.getD first.length 0 = k := by
  unfold ext
  simp only [List.length_append, List.length_singleton]
  constructor
  · rintro ⟨h1, h2⟩
    have hll : first.length < l.length := by rw [h1.1]; exact hl
    rw [List.take_succ_eq_append_getElem hll] at h2
    have h3 := List.append_inj' h2 (by simp)
    refine ⟨⟨h1, h3.1⟩, ?_⟩
    simp only [List.cons.injEq, and_true] at h3
    simp [List.getD_eq_getElem?_getD, hll, h3.2]
  · rintro ⟨⟨h1, h2⟩, h3⟩
    have hll : first.length < l.length := by rw [h1.1]; exact hl
    refine ⟨h1, ?_⟩
    rw [List.take_succ_eq_append_getElem hll, h2]
    simp only [List.getD_eq_getElem?_getD, List.getElem?_eq_getElem hll, Option.getD_some] at h3
    rw [h3]
theorem are_sum {f : Fig} (hok : f.ok) {l : List Int} (h : f.areB l) : 0 ≤ l.sum ∧ l.sum ≤ 960 := by
  have hp := hok.2.1
  have hN := N_in hok
  have h1 := sum_in2 (l := l) (a := 0) (b := 60) fun x hx => (by have := h.2.1 x hx; omega)
  have h2 := h.1
  omega
theorem lst_in {f : Fig} (hok : f.ok) {first : List Int} {r : Int} (h : lst f first r) : -1 ≤ r ∧ r ≤ 960 := by
  rcases h with ⟨rfl, _⟩ | ⟨l, h1, rfl, _⟩
  · omega
  · have := are_sum hok h1.1; omega
theorem jn_iff {f : Fig} (hok : f.ok) {i : Nat} (hi : i < f.N) {l : List Int} (h : f.areB l) : f.jn i (l.getD i 0) (l.getD ((i + 1) % f.N) 0) = true := by
  unfold Fig.jn
  refine List.all_eq_true.2 fun s hs => ?_
  refine h.2.2 i hi (f.leng s) ?_
  rw [(nm_eq hok hi).1]
  exact List.mem_map.2 ⟨s, hs, rfl⟩
def lstK (f : Fig) (first : List Int) (k : Int) (best : Int) : Prop := (best = -1 ∧ ∀ l, ext f first l → k ≤ l.getD first.length 0) ∨ (∃ l, ext f first l ∧ best = l.sum ∧ ∀ l', ext f first l' → l'.getD first.length 0 < k → best ≤ l'.sum)
theorem s75 (f : Fig) (hok : f.ok) : ∀ (m : Nat) (first : List Int), first.length + m = f.N → (∀ x ∈ first, 0 ≤ x ∧ x < f.per) →
    FnA Try.prog 75 [.agg f.cells, .isl (boltsL f f.N), .isl (first.map iAV)] (fun v => ∃ r : Int, v = .int .i64 r ∧ lst f first r) := by
  have hp := hok.2.1
  have hN := N_in hok
  have l3 : (f.st.map iAV).length = f.st.length := by simp
  have hst : f.st.length = f.N := hok.2.2.2.2.1
  intro m
  induction m with
  | zero =>
    intro first hl hx
    have hl : first.length = f.N := by omega
    have l1 : (first.map iAV).length = first.length := by simp
    have e1 := s65 f hok first hl hx
    refine fnA 5 ok75 (by simp) ?_
    cases hm : f.metN first f.N with
    | false =>
      rw [hm] at e1
      (conv => whnf); (repeat' ((first | refine bT ?_ | refine bF ?_ | refine bN ?_ | ((first | refine bD ?_ ?_ | refine bEq ?_ ?_ | refine bNe ?_ ?_) <;> intro hh <;> try (exfalso; omega)) | (refine (e1).callq rfl rfl fun _ h => ?_; subst h) | refine wIn (by omega) ?_ | refine nI (by omega) ?_) <;> conv => whnf))
      all_goals refine ⟨_, rfl, .inl ⟨rfl, fun l h => ?_⟩⟩
      all_goals
        obtain ⟨_, h2⟩ := (ext_all hl).1 h
        have := metN_iff.2 h2.2.2
        rw [hm] at this; cases this
    | true =>
      rw [hm] at e1
      have hare : f.areB first := ⟨hl, hx, metN_iff.1 hm⟩
      (conv => whnf); (repeat' ((first | refine bT ?_ | refine bF ?_ | refine bN ?_ | ((first | refine bD ?_ ?_ | refine bEq ?_ ?_ | refine bNe ?_ ?_) <;> intro hh <;> try (exfalso; omega)) | (refine (e1).callq rfl rfl fun _ h => ?_; subst h) | refine wIn (by omega) ?_ | refine nI (by omega) ?_) <;> conv => whnf))
      refine loop_i (α := Nat) (fun k => [(9, .int .i64 k), (8, .int .i64 (first.take k).sum), (7, .int .i64 ↑(first.map iAV).length), (2, .isl (first.map iAV))]) (fun k => [.fresh, .fresh, .fresh, .fresh, .fresh]) (fun k => k ≤ first.length) (fun k => first.length - k) 0 (meets_id (by (repeat' apply And.intro) <;> first | rfl | exact True.intro | (intro hh; cases hh))) (by omega) ?_
      intro k hk0
      conv => whnf
      refine bD (fun h4 => ?_) (fun h4 => ?_)
      · have hk : k < first.length := by omega
        have hxk := hx _ (List.getElem_mem hk)
        have hs := sum_in2 (l := first.take k) (a := 0) (b := 60) fun x hx' => (by have := hx x (List.mem_of_mem_take hx'); omega)
        have hlt : (first.take k).length ≤ 16 := by rw [List.length_take]; omega
        have hss := sum_succ hk
        conv => whnf
        refine iaI (by omega) (by omega) (getD_map iAV first k hk) ?_
        (conv => whnf); (repeat' ((first | refine bT ?_ | refine bF ?_ | refine bN ?_ | ((first | refine bD ?_ ?_ | refine bEq ?_ ?_ | refine bNe ?_ ?_) <;> intro hh <;> try (exfalso; omega)) | refine wIn (by omega) ?_ | refine nI (by omega) ?_) <;> conv => whnf))
        refine ⟨k + 1, ?_, by omega, by omega⟩
        rw [hss]
        exact (meets_id (by (repeat' apply And.intro) <;> first | rfl | exact True.intro | (intro hh; cases hh)))
      · have : k = first.length := by omega
        subst this
        rw [List.take_length]
        (conv => whnf); (repeat' ((first | refine bT ?_ | refine bF ?_ | refine bN ?_ | ((first | refine bD ?_ ?_ | refine bEq ?_ ?_ | refine bNe ?_ ?_) <;> intro hh <;> try (exfalso; omega)) | refine wIn (by omega) ?_ | refine nI (by omega) ?_) <;> conv => whnf))
        all_goals exact ⟨_, rfl, .inr ⟨first, (ext_all hl).2 ⟨rfl, hare⟩, rfl, fun l' h' => by rw [((ext_all hl).1 h').1]; exact Int.le_refl _⟩⟩
  | succ m ih =>
    intro first hl hx
    have l1 : (first.map iAV).length = first.length := by simp
    refine fnA 5 ok75 (by simp) ?_
    (conv => whnf); (repeat' ((first | refine bT ?_ | refine bF ?_ | refine bN ?_ | ((first | refine bD ?_ ?_ | refine bEq ?_ ?_ | refine bNe ?_ ?_) <;> intro hh <;> try (exfalso; omega)) | refine wIn (by omega) ?_ | refine nI (by omega) ?_) <;> conv => whnf))
    refine loop_i (α := Nat × Int) (fun q => [(11, .int .i64 q.1), (10, .int .i64 q.2), (7, .int .i64 ↑(first.map iAV).length), (3, .own 0 0), (2, .isl (first.map iAV)), (1, .isl (boltsL f f.N))]) (fun q => [.box false f.cells, .fresh, .fresh, .fresh, .fresh]) (fun q => (q.1 : Int) ≤ f.per ∧ lstK f first q.1 q.2) (fun q => f.per.toNat - q.1) (0, -1) (meets_id (by (repeat' apply And.intro) <;> first | rfl | exact True.intro | (intro hh; cases hh))) ⟨by dsimp only; omega, .inl ⟨rfl, fun l h => ?_⟩⟩ ?_
    · dsimp only
      have := getD_in h.1.2.1 (i := first.length) (by rw [h.1.1]; omega)
      omega
    rintro ⟨k, best⟩ ⟨hk0, hin⟩
    dsimp only at hk0 hin ⊢
    have hbest : -1 ≤ best ∧ best ≤ 960 := by
      rcases hin with ⟨rfl, _⟩ | ⟨l, h1, rfl, _⟩
      · omega
      · have := are_sum hok h1.1; omega
    conv => whnf
    refine bD (fun h4 => ?_) (fun h4 => ?_)
    · have hmx : ∀ x ∈ first ++ [(k : Int)], 0 ≤ x ∧ x < f.per := fun x hx' => by
        rcases List.mem_append.1 hx' with h | h
        · exact hx x h
        · simp only [List.mem_singleton] at h; omega
      have i1 := ih (first ++ [(k : Int)]) (by simp; omega) hmx
      have hm : (first ++ [(k : Int)]).map iAV = ([] ++ first.map iAV) ++ [[.int .i64 (k : Int)]] := by simp [iAV]
      rw [hm] at i1
      have hml : (([] ++ first.map iAV) ++ [[AV.int .i64 (k : Int)]]).length = first.length + 1 := by simp
      have hskip : (∀ l, ¬ ext f (first ++ [(k : Int)]) l) → lstK f first (k + 1 : Nat) best := fun hno => by
        rcases hin with ⟨h1, h2⟩ | ⟨l, h1, h2, h3⟩
        · refine .inl ⟨h1, fun l h => ?_⟩
          have := h2 l h
          by_cases he : l.getD first.length 0 = k
          · exact absurd ((ext_one (by omega)).2 ⟨h, he⟩) (hno l)
          · push_cast; omega
        · refine .inr ⟨l, h1, h2, fun l' h h4 => ?_⟩
          by_cases he : l'.getD first.length 0 = k
          · exact absurd ((ext_one (by omega)).2 ⟨h, he⟩) (hno l')
          · exact h3 l' h (by push_cast at h4; omega)
      have hrec : ∀ r, lst f (first ++ [(k : Int)]) r → (0 ≤ r → (best < 0 ∨ r < best) → lstK f first (k + 1 : Nat) r) ∧ (¬ (0 ≤ r ∧ (best < 0 ∨ r < best)) → lstK f first (k + 1 : Nat) best) := fun r hr => by
        rcases hr with ⟨h1, h2⟩ | ⟨l, h1, h2, h3⟩
        · exact ⟨fun h => by omega, fun _ => hskip h2⟩
        · have h0 := are_sum hok h1.1
          have h1' := (ext_one (by omega)).1 h1
          refine ⟨fun _ hb => .inr ⟨l, h1'.1, h2, fun l' h h4 => ?_⟩, fun hb => ?_⟩
          · by_cases he : l'.getD first.length 0 = k
            · exact h3 l' ((ext_one (by omega)).2 ⟨h, he⟩)
            · rcases hin with ⟨h5, h6⟩ | ⟨l0, h5, h6, h7⟩
              · have := h6 l' h; push_cast at h4; omega
              · have := h7 l' h (by push_cast at h4; omega)
                have := are_sum hok h5.1
                omega
          · rcases hin with ⟨h5, h6⟩ | ⟨l0, h5, h6, h7⟩
            · exfalso; apply hb; omega
            · refine .inr ⟨l0, h5, h6, fun l' h h4 => ?_⟩
              by_cases he : l'.getD first.length 0 = k
              · have := h3 l' ((ext_one (by omega)).2 ⟨h, he⟩)
                omega
              · exact h7 l' h (by push_cast at h4; omega)
      by_cases hn0 : first.length = 0
      · (conv => whnf); (repeat' ((first | refine bT ?_ | refine bF ?_ | refine bN ?_ | ((first | refine bD ?_ ?_ | refine bEq ?_ ?_ | refine bNe ?_ ?_) <;> intro hh <;> try (exfalso; omega)) | refine wIn (by omega) ?_ | refine nI (by omega) ?_) <;> conv => whnf))
        refine apI (one_iAV _) (by simp only [l1, List.length_nil]; omega) ?_
        (conv => whnf); (repeat' ((first | refine bT ?_ | refine bF ?_ | refine bN ?_ | ((first | refine bD ?_ ?_ | refine bEq ?_ ?_ | refine bNe ?_ ?_) <;> intro hh <;> try (exfalso; omega)) | refine wIn (by omega) ?_ | refine nI (by omega) ?_) <;> conv => whnf))
        refine apI (by simp [AV.one]) (by simp; omega) ?_
        (conv => whnf); (repeat' ((first | refine bT ?_ | refine bF ?_ | refine bN ?_ | ((first | refine bD ?_ ?_ | refine bEq ?_ ?_ | refine bNe ?_ ?_) <;> intro hh <;> try (exfalso; omega)) | refine wIn (by omega) ?_ | refine nI (by omega) ?_) <;> conv => whnf))
        refine i1.lendq rfl (fun v hv => ?_); obtain ⟨r, rfl, hr⟩ := hv; refine ⟨rfl, ?_⟩
        have hq := hrec r hr
        have hri := lst_in hok hr
        by_cases c1 : 0 ≤ r ∧ (best < 0 ∨ r < best)
        · have h5 := hq.1 c1.1 c1.2
          (conv => whnf); (repeat' ((first | refine bT ?_ | refine bF ?_ | refine bN ?_ | ((first | refine bD ?_ ?_ | refine bEq ?_ ?_ | refine bNe ?_ ?_) <;> intro hh <;> try (exfalso; omega)) | refine wIn (by omega) ?_ | refine nI (by omega) ?_) <;> conv => whnf))
          all_goals first | exact ⟨(k + 1, r), (meets_id (by (repeat' apply And.intro) <;> first | rfl | exact True.intro | (intro hh; cases hh))), ⟨by dsimp only; omega, h5⟩, by dsimp only; omega⟩
        · have h5 := hq.2 c1
          (conv => whnf); (repeat' ((first | refine bT ?_ | refine bF ?_ | refine bN ?_ | ((first | refine bD ?_ ?_ | refine bEq ?_ ?_ | refine bNe ?_ ?_) <;> intro hh <;> try (exfalso; omega)) | refine wIn (by omega) ?_ | refine nI (by omega) ?_) <;> conv => whnf))
          all_goals first | exact ⟨(k + 1, best), (meets_id (by (repeat' apply And.intro) <;> first | rfl | exact True.intro | (intro hh; cases hh))), ⟨by dsimp only; omega, h5⟩, by dsimp only; omega⟩
      · have hba : (boltsL f f.N).getD (first.length - 1) [] = [.isl ((f.nm (first.length - 1)).map iAV)] := boltsL_at f (by omega)
        have hba' : (boltsL f f.N).getD (↑(first.map iAV).length - 1 : Int).toNat [] = [.isl ((f.nm (first.length - 1)).map iAV)] := by
          rw [show (↑(first.map iAV).length - 1 : Int).toNat = first.length - 1 by omega]; exact hba
        have hbl : (boltsL f f.N).length = f.N := by simp [boltsL]
        have hga : (([] ++ first.map iAV) ++ [[AV.int .i64 (k : Int)]]).getD (((first.map iAV).length : Int) - 1).toNat [] = [.int .i64 (first.getD (first.length - 1) 0)] := by
          rw [show (↑(first.map iAV).length - 1 : Int).toNat = first.length - 1 by omega, List.nil_append, List.getD_eq_getElem?_getD, List.getElem?_append_left (by omega), ← List.getD_eq_getElem?_getD]
          exact row_at (by omega)
        have hfi := getD_in hx (i := first.length - 1) (by omega)
        have e3 := s103 f hok (first.length - 1) (by omega) (first.getD (first.length - 1) 0) k hfi (by omega)
        cases hj : f.jn (first.length - 1) (first.getD (first.length - 1) 0) k with
        | false =>
          rw [hj] at e3
          have hno : ∀ l, ¬ ext f (first ++ [(k : Int)]) l := fun l h => by
            have h1 := (ext_one (by omega)).1 h
            have h2 := jn_iff hok (i := first.length - 1) (by omega) h1.1.1
            rw [show (first.length - 1 + 1) % f.N = first.length by rw [Nat.sub_add_cancel (by omega), Nat.mod_eq_of_lt (by omega)], h1.2] at h2
            have h3 : l.getD (first.length - 1) 0 = first.getD (first.length - 1) 0 := by
              have := h1.1.2
              rw [← this]
              simp only [List.getD_eq_getElem?_getD, List.length_take]
              rw [List.getElem?_take]
              rw [if_pos (by have := h1.1.1.1; omega)]
            rw [h3, hj] at h2
            cases h2
          have h5 := hskip hno
          (conv => whnf); (repeat' ((first | refine bT ?_ | refine bF ?_ | refine bN ?_ | ((first | refine bD ?_ ?_ | refine bEq ?_ ?_ | refine bNe ?_ ?_) <;> intro hh <;> try (exfalso; omega)) | refine wIn (by omega) ?_ | refine nI (by omega) ?_) <;> conv => whnf))
          refine apI (one_iAV _) (by simp only [l1, List.length_nil]; omega) ?_
          (conv => whnf); (repeat' ((first | refine bT ?_ | refine bF ?_ | refine bN ?_ | ((first | refine bD ?_ ?_ | refine bEq ?_ ?_ | refine bNe ?_ ?_) <;> intro hh <;> try (exfalso; omega)) | refine wIn (by omega) ?_ | refine nI (by omega) ?_) <;> conv => whnf))
          refine apI (by simp [AV.one]) (by simp; omega) ?_
          (conv => whnf); (repeat' ((first | refine bT ?_ | refine bF ?_ | refine bN ?_ | ((first | refine bD ?_ ?_ | refine bEq ?_ ?_ | refine bNe ?_ ?_) <;> intro hh <;> try (exfalso; omega)) | refine wIn (by omega) ?_ | refine nI (by omega) ?_) <;> conv => whnf))
          refine iaI (by omega) (by omega) hba' ?_
          (conv => whnf); (repeat' ((first | refine bT ?_ | refine bF ?_ | refine bN ?_ | ((first | refine bD ?_ ?_ | refine bEq ?_ ?_ | refine bNe ?_ ?_) <;> intro hh <;> try (exfalso; omega)) | refine wIn (by omega) ?_ | refine nI (by omega) ?_) <;> conv => whnf))
          refine iaI (by omega) (by omega) hga ?_
          (conv => whnf); (repeat' ((first | refine bT ?_ | refine bF ?_ | refine bN ?_ | ((first | refine bD ?_ ?_ | refine bEq ?_ ?_ | refine bNe ?_ ?_) <;> intro hh <;> try (exfalso; omega)) | (refine (e3).callq rfl rfl fun _ h => ?_; subst h) | refine wIn (by omega) ?_ | refine nI (by omega) ?_) <;> conv => whnf))
          all_goals first | exact ⟨(k + 1, best), (meets_id (by (repeat' apply And.intro) <;> first | rfl | exact True.intro | (intro hh; cases hh))), ⟨by dsimp only; omega, h5⟩, by dsimp only; omega⟩
        | true =>
          rw [hj] at e3
          (conv => whnf); (repeat' ((first | refine bT ?_ | refine bF ?_ | refine bN ?_ | ((first | refine bD ?_ ?_ | refine bEq ?_ ?_ | refine bNe ?_ ?_) <;> intro hh <;> try (exfalso; omega)) | refine wIn (by omega) ?_ | refine nI (by omega) ?_) <;> conv => whnf))
          refine apI (one_iAV _) (by simp only [l1, List.length_nil]; omega) ?_
          (conv => whnf); (repeat' ((first | refine bT ?_ | refine bF ?_ | refine bN ?_ | ((first | refine bD ?_ ?_ | refine bEq ?_ ?_ | refine bNe ?_ ?_) <;> intro hh <;> try (exfalso; omega)) | refine wIn (by omega) ?_ | refine nI (by omega) ?_) <;> conv => whnf))
          refine apI (by simp [AV.one]) (by simp; omega) ?_
          (conv => whnf); (repeat' ((first | refine bT ?_ | refine bF ?_ | refine bN ?_ | ((first | refine bD ?_ ?_ | refine bEq ?_ ?_ | refine bNe ?_ ?_) <;> intro hh <;> try (exfalso; omega)) | refine wIn (by omega) ?_ | refine nI (by omega) ?_) <;> conv => whnf))
          refine iaI (by omega) (by omega) hba' ?_
          (conv => whnf); (repeat' ((first | refine bT ?_ | refine bF ?_ | refine bN ?_ | ((first | refine bD ?_ ?_ | refine bEq ?_ ?_ | refine bNe ?_ ?_) <;> intro hh <;> try (exfalso; omega)) | refine wIn (by omega) ?_ | refine nI (by omega) ?_) <;> conv => whnf))
          refine iaI (by omega) (by omega) hga ?_
          (conv => whnf); (repeat' ((first | refine bT ?_ | refine bF ?_ | refine bN ?_ | ((first | refine bD ?_ ?_ | refine bEq ?_ ?_ | refine bNe ?_ ?_) <;> intro hh <;> try (exfalso; omega)) | (refine (e3).callq rfl rfl fun _ h => ?_; subst h) | refine wIn (by omega) ?_ | refine nI (by omega) ?_) <;> conv => whnf))
          refine i1.lendq rfl (fun v hv => ?_); obtain ⟨r, rfl, hr⟩ := hv; refine ⟨rfl, ?_⟩
          have hq := hrec r hr
          have hri := lst_in hok hr
          by_cases c1 : 0 ≤ r ∧ (best < 0 ∨ r < best)
          · have h5 := hq.1 c1.1 c1.2
            (conv => whnf); (repeat' ((first | refine bT ?_ | refine bF ?_ | refine bN ?_ | ((first | refine bD ?_ ?_ | refine bEq ?_ ?_ | refine bNe ?_ ?_) <;> intro hh <;> try (exfalso; omega)) | refine wIn (by omega) ?_ | refine nI (by omega) ?_) <;> conv => whnf))
            all_goals first | exact ⟨(k + 1, r), (meets_id (by (repeat' apply And.intro) <;> first | rfl | exact True.intro | (intro hh; cases hh))), ⟨by dsimp only; omega, h5⟩, by dsimp only; omega⟩
          · have h5 := hq.2 c1
            (conv => whnf); (repeat' ((first | refine bT ?_ | refine bF ?_ | refine bN ?_ | ((first | refine bD ?_ ?_ | refine bEq ?_ ?_ | refine bNe ?_ ?_) <;> intro hh <;> try (exfalso; omega)) | refine wIn (by omega) ?_ | refine nI (by omega) ?_) <;> conv => whnf))
            all_goals first | exact ⟨(k + 1, best), (meets_id (by (repeat' apply And.intro) <;> first | rfl | exact True.intro | (intro hh; cases hh))), ⟨by dsimp only; omega, h5⟩, by dsimp only; omega⟩
    · have hk : (k : Int) = f.per := by omega
      have hfin : lst f first best := by
        rcases hin with ⟨h1, h2⟩ | ⟨l, h1, h2, h3⟩
        · refine .inl ⟨h1, fun l h => ?_⟩
          have := h2 l h
          have := getD_in h.1.2.1 (i := first.length) (by rw [h.1.1]; omega)
          omega
        · refine .inr ⟨l, h1, h2, fun l' h => h3 l' h ?_⟩
          have := getD_in h.1.2.1 (i := first.length) (by rw [h.1.1]; omega)
          omega
      (conv => whnf); (repeat' ((first | refine bT ?_ | refine bF ?_ | refine bN ?_ | ((first | refine bD ?_ ?_ | refine bEq ?_ ?_ | refine bNe ?_ ?_) <;> intro hh <;> try (exfalso; omega)) | refine wIn (by omega) ?_ | refine nI (by omega) ?_) <;> conv => whnf))
      all_goals exact ⟨best, rfl, hfin⟩
theorem lst_lw {f : Fig} (hok : f.ok) {r : Int} (h : lst f [] r) : (r < 0 ∧ r = -1 ∧ f.lE = 3 ∧ f.lw = 0 ∧ ¬ f.hasB) ∨ (0 ≤ r ∧ f.lE = 0 ∧ f.lw = r ∧ f.hasB) := by
  have he : ∀ l, ext f [] l ↔ f.areB l := fun l => by simp [ext]
  rcases h with ⟨rfl, h1⟩ | ⟨l, h1, rfl, h2⟩
  · have hn : ¬ f.hasB := fun hb => by
      obtain ⟨l, hl⟩ := (hasB_iff hok).1 hb
      exact h1 l ((he l).2 hl)
    exact .inl ⟨by omega, rfl, (lw_no hn).1, (lw_no hn).2, hn⟩
  · have hl := (he l).1 h1
    have hb := (are_iff hok l).2 hl
    have := lw_eq hb fun l' hl' => h2 l' ((he l').2 ((are_iff hok l').1 hl'))
    exact .inr ⟨(are_sum hok hl).1, this.1, this.2, ⟨l, hb⟩⟩
theorem s40 (f : Fig) (hs : f.small) (h : f.eF = 0) : FnA Try.prog 40 [.agg f.cells] (· = .tup [.int .i64 f.lw, .int .i64 f.lE]) := by
  obtain ⟨hok, hh⟩ := eF_ok h
  have e0 := s55 f hs 0
  rw [eM_0, h] at e0
  have e1 := s66 f hok hh
  have e2 := s75 f hok f.N [] (by simp) (by simp)
  refine fnA 2 ok40 (by simp) ?_
  (conv => whnf); (repeat' ((first | refine bT ?_ | refine bF ?_ | refine bN ?_ | ((first | refine bD ?_ ?_ | refine bEq ?_ ?_ | refine bNe ?_ ?_) <;> intro hh <;> try (exfalso; omega)) | (refine (e0).callq rfl rfl fun _ h => ?_; subst h) | (refine (e1).callzq rfl rfl fun _ h => ?_; subst h) | refine wIn (by omega) ?_ | refine nI (by omega) ?_) <;> conv => whnf))
  refine e2.callq rfl rfl (fun v hv => ?_); obtain ⟨r, rfl, hr⟩ := hv
  rcases lst_lw hok hr with ⟨h1, _, h2, h3, _⟩ | ⟨h1, h2, h3, _⟩
  · rw [h2, h3]
    (conv => whnf); (repeat' ((first | refine bT ?_ | refine bF ?_ | refine bN ?_ | ((first | refine bD ?_ ?_ | refine bEq ?_ ?_ | refine bNe ?_ ?_) <;> intro hh <;> try (exfalso; omega)) | refine wIn (by omega) ?_ | refine nI (by omega) ?_) <;> conv => whnf))
    all_goals rfl
  · rw [h2, h3]
    (conv => whnf); (repeat' ((first | refine bT ?_ | refine bF ?_ | refine bN ?_ | ((first | refine bD ?_ ?_ | refine bEq ?_ ?_ | refine bNe ?_ ?_) <;> intro hh <;> try (exfalso; omega)) | refine wIn (by omega) ?_ | refine nI (by omega) ?_) <;> conv => whnf))
    all_goals rfl
theorem s40_no (f : Fig) (hs : f.small) (h : f.eF ≠ 0) : FnA Try.prog 40 [.agg f.cells] (· = .tup [.int .i64 0, .int .i64 f.eF]) := by
  have e0 := s55 f hs 0
  rw [eM_0] at e0
  refine fnA 2 ok40 (by simp) ?_
  (conv => whnf); (repeat' ((first | refine bT ?_ | refine bF ?_ | refine bN ?_ | ((first | refine bD ?_ ?_ | refine bEq ?_ ?_ | refine bNe ?_ ?_) <;> intro hh <;> try (exfalso; omega)) | (refine (e0).callq rfl rfl fun _ h => ?_; subst h) | refine wIn (by omega) ?_ | refine nI (by omega) ?_) <;> conv => whnf))
  all_goals rfl
def Fig.atN (f : Fig) (k : Int) : Fig := { f with near := k }
theorem atN_ok {f : Fig} (hok : f.ok) {k : Int} (hk : 0 ≤ k ∧ k ≤ f.per.tdiv 2) : (f.atN k).ok := ⟨hok.1, hok.2.1, hok.2.2.1, hk, hok.2.2.2.2⟩
theorem sum_pth {f : Fig} (hp : 1 ≤ f.per ∧ f.per ≤ 60) {near : Int} : ∀ (g : Nat) (x : Int), x ∈ f.sumL near g → ∃ w, f.pth near 0 g w x
  | 0, x, h => by simp only [Fig.sumL, List.mem_singleton] at h; subst h; exact ⟨_, rfl, rfl⟩
  | g + 1, x, h => by
    obtain ⟨y, h1, s, h2, rfl⟩ := (mem_sumL hp.1).1 h
    obtain ⟨w, h3⟩ := sum_pth hp g y h1
    exact ⟨_, w, y, h3, ⟨s, h2, rfl⟩, rfl⟩
theorem pth_sum {f : Fig} (hp : 1 ≤ f.per ∧ f.per ≤ 60) {near st : Int} (hs : 0 ≤ st ∧ st < f.per) : ∀ (g : Nat) (w : Way) (x : Int), f.pth near st g w x → (x - st) % f.per ∈ f.sumL near g
  | 0, w, x, h => by obtain ⟨_, rfl⟩ := h; simp [Fig.sumL]
  | g + 1, w, x, h => by
    obtain ⟨v, y, h1, ⟨s, h2, rfl⟩, _⟩ := h
    have a := pth_in hp hs g v y h1
    have b := ((mem_stp (by omega)).1 h2).1
    obtain ⟨c1, c2, c3⟩ := tmod_in (a := y + s) (b := f.per) (by omega) hp.1
    refine (mem_sumL hp.1).2 ⟨_, pth_sum hp hs g v y h1, s, h2, ?_⟩
    have h0 := Int.emod_nonneg (y - st) (show f.per ≠ 0 by omega)
    rw [c1, Int.tmod_eq_emod_of_nonneg (by omega), Int.emod_add_emod, Int.sub_emod, Int.emod_emod_of_dvd _ (Int.dvd_refl _), ← Int.sub_emod]
    congr 1; omega
theorem clo_iff {f : Fig} (hok : f.ok) (near : Int) : f.clo near = true ↔ ∃ l, f.isB near l := by
  have hp := hok.2.1
  unfold Fig.clo
  rw [decide_eq_true_eq]
  constructor
  · intro h
    obtain ⟨w, hw⟩ := sum_pth hp _ _ h
    exact ⟨w.1, ((rng_iff hok near w).1 ⟨0, ⟨by omega, by omega⟩, hw⟩).2⟩
  · rintro ⟨l, hl⟩
    obtain ⟨st, hs, hw⟩ := (rng_iff hok near (l, l.sum)).2 ⟨rfl, hl⟩
    have h := pth_sum hp hs _ _ _ hw
    rw [Int.sub_self, Int.zero_emod] at h
    exact h
theorem dist_half {f : Fig} (hp : 1 ≤ f.per) {a b : Int} (ha : 0 ≤ a ∧ a < f.per) (hb : 0 ≤ b ∧ b < f.per) : f.dist a b ≤ f.per.tdiv 2 := by
  rw [Int.tdiv_eq_ediv_of_nonneg (by omega)]
  unfold Fig.dist
  omega
theorem half_B {f : Fig} (hok : f.ok) : ∃ l, f.isB (f.per.tdiv 2) l := by
  have hp := hok.2.1
  have hN := N_in hok
  have hq : 0 ≤ f.per.tdiv 2 := by rw [Int.tdiv_eq_ediv_of_nonneg (by omega)]; omega
  refine ⟨List.replicate f.N 0, by simp, fun x hx => ?_, fun i hi => ⟨0, (mem_stp (by omega)).2 ⟨by omega, List.all_eq_true.2 fun r hr => decide_eq_true (dist_half hp.1 (by omega) (rs_in hok hi r hr))⟩, ?_⟩⟩
  · have := List.eq_of_mem_replicate hx; omega
  · have h1 : ∀ j, (List.replicate f.N (0 : Int)).getD j 0 = 0 := fun j => by
      simp only [List.getD_eq_getElem?_getD, List.getElem?_replicate]; split <;> rfl
    rw [h1, h1]; simp
theorem nr_mono {f : Fig} {n n' s : Int} {l : List Int} (h : n ≤ n') (h1 : f.nr n s l = true) : f.nr n' s l = true := List.all_eq_true.2 fun r hr => by
  have := List.all_eq_true.1 h1 r hr
  simp only [decide_eq_true_eq] at this ⊢
  omega
theorem isB_mono {f : Fig} (hok : f.ok) {n n' : Int} (h : n ≤ n') {l : List Int} (h1 : f.isB n l) : f.isB n' l := by
  have hp := hok.2.1
  refine ⟨h1.1, h1.2.1, fun i hi => ?_⟩
  obtain ⟨s, h2, h3⟩ := h1.2.2 i hi
  have := (mem_stp (by omega)).1 h2
  exact ⟨s, (mem_stp (by omega)).2 ⟨this.1, nr_mono h this.2⟩, h3⟩
theorem clst_spec {f : Fig} (hok : f.ok) : (0 ≤ f.clst ∧ f.clst ≤ f.per.tdiv 2) ∧ (∃ l, f.isB f.clst l) ∧ ∀ near, 0 ≤ near → (∃ l, f.isB near l) → f.clst ≤ near := by
  have hp := hok.2.1
  have hq : 0 ≤ f.per.tdiv 2 := by rw [Int.tdiv_eq_ediv_of_nonneg (by omega)]; omega
  unfold Fig.clst
  split
  · rename_i k hk
    obtain ⟨h1, h2, h3⟩ := List.find?_range_eq_some.1 hk
    have := List.mem_range.1 h2
    refine ⟨by omega, (clo_iff hok _).1 h1, fun near h0 hn => ?_⟩
    by_cases hlt : near < k
    · have := h3 near.toNat (by omega)
      rw [show ((near.toNat : Nat) : Int) = near by omega, (clo_iff hok near).2 hn] at this
      cases this
    · omega
  · rename_i hk
    have h3 := List.find?_range_eq_none.1 hk
    refine ⟨by omega, half_B hok, fun near h0 hn => ?_⟩
    by_cases hlt : near < f.per.tdiv 2
    · have := h3 near.toNat (by omega)
      rw [show ((near.toNat : Nat) : Int) = near by omega, (clo_iff hok near).2 hn] at this
      cases this
    · omega
theorem near_iff {f : Fig} (hok : f.ok) : f.lE = 0 ↔ f.clst ≤ f.near := by
  have hn := hok.2.2.2.1.1
  obtain ⟨h1, ⟨l, h2⟩, h3⟩ := clst_spec hok
  constructor
  · intro h
    by_cases hb : f.hasB
    · exact h3 f.near hn hb
    · have := (lw_no hb).1; omega
  · intro h
    exact (lw_spec ⟨l, isB_mono hok h h2⟩).1
theorem s41 (f : Fig) (hs : f.small) (h : f.eF = 0) : FnA Try.prog 41 [.agg f.cells] (· = .tup [.int .i64 f.clst, .int .i64 0]) := by
  obtain ⟨hok, hh⟩ := eF_ok h
  have hp := hok.2.1
  have hq : 0 ≤ f.per.tdiv 2 ∧ f.per.tdiv 2 ≤ 60 := by rw [Int.tdiv_eq_ediv_of_nonneg (by omega)]; omega
  obtain ⟨c1, c2, c3⟩ := clst_spec hok
  have e0 := s55 f hs 0
  rw [eM_0, h] at e0
  refine fnA 2 ok41 (by simp) ?_
  (conv => whnf); (repeat' ((first | refine bT ?_ | refine bF ?_ | refine bN ?_ | ((first | refine bD ?_ ?_ | refine bEq ?_ ?_ | refine bNe ?_ ?_) <;> intro hh <;> try (exfalso; omega)) | (refine (e0).callq rfl rfl fun _ h => ?_; subst h) | refine wIn (by omega) ?_ | refine nI (by omega) ?_) <;> conv => whnf))
  refine loop_i (α := Nat) (fun k => [(1, .own 0 0)]) (fun k => [.box false (f.d.cells ++ [.int .i64 f.per, .int .i64 f.run, .int .i64 k, .isl (f.st.map iAV), .isl (f.ti.map iAV)]), .fresh]) (fun k => (k : Int) ≤ f.clst) (fun k => f.clst.toNat - k) 0 (meets_id (by (repeat' apply And.intro) <;> first | rfl | exact True.intro | (intro hh; cases hh))) (by omega) ?_
  intro k hk0
  have hokk := atN_ok hok (k := k) ⟨by omega, by omega⟩
  have e1 := s66 (f.atN k) hokk hh
  have e2 := s75 (f.atN k) hokk f.N [] (by simp; rfl) (by simp)
  conv => whnf
  refine e1.callzq rfl rfl (fun r (hr : r = _) => ?_); subst hr
  conv => whnf
  refine e2.callq rfl rfl (fun v hv => ?_); obtain ⟨r, rfl, hr⟩ := hv
  rcases lst_lw hokk hr with ⟨h1, _, _, _, h2⟩ | ⟨h1, _, _, h2⟩
  · have hne : (k : Int) ≠ f.clst := fun he => h2 (by
      obtain ⟨l, hl⟩ := c2
      rw [← he] at hl
      exact ⟨l, hl⟩)
    (conv => whnf); (repeat' ((first | refine bT ?_ | refine bF ?_ | refine bN ?_ | ((first | refine bD ?_ ?_ | refine bEq ?_ ?_ | refine bNe ?_ ?_) <;> intro hh <;> try (exfalso; omega)) | refine wIn (by omega) ?_ | refine nI (by omega) ?_) <;> conv => whnf))
    all_goals first | exact ⟨k + 1, (meets_id (by (repeat' apply And.intro) <;> first | rfl | exact True.intro | (intro hh; cases hh))), by omega, by omega⟩
  · have he : (k : Int) = f.clst := by
      have := c3 k (by omega) h2
      omega
    rw [← he]
    (conv => whnf); (repeat' ((first | refine bT ?_ | refine bF ?_ | refine bN ?_ | ((first | refine bD ?_ ?_ | refine bEq ?_ ?_ | refine bNe ?_ ?_) <;> intro hh <;> try (exfalso; omega)) | refine wIn (by omega) ?_ | refine nI (by omega) ?_) <;> conv => whnf))
    all_goals rfl
theorem s41_no (f : Fig) (hs : f.small) (h : f.eF ≠ 0) : FnA Try.prog 41 [.agg f.cells] (· = .tup [.int .i64 0, .int .i64 f.eF]) := by
  have e0 := s55 f hs 0
  rw [eM_0] at e0
  refine fnA 2 ok41 (by simp) ?_
  (conv => whnf); (repeat' ((first | refine bT ?_ | refine bF ?_ | refine bN ?_ | ((first | refine bD ?_ ?_ | refine bEq ?_ ?_ | refine bNe ?_ ?_) <;> intro hh <;> try (exfalso; omega)) | (refine (e0).callq rfl rfl fun _ h => ?_; subst h) | refine wIn (by omega) ?_ | refine nI (by omega) ?_) <;> conv => whnf))
  all_goals rfl
end Go.Proofs
