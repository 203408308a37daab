/- What each function of this program answers, proved by walking its body: further contracts that the law rests on. -/
import Derived.Test.YtpiofeaafnldfaaFns2
set_option linter.unusedSimpArgs false
set_option linter.unusedVariables false
set_option linter.unusedSectionVars false
namespace Go.Proofs
open Go.Eng
attribute [local irreducible] Go.Eng.brB Go.Eng.need Go.Eng.wrE Go.Eng.iaE Go.Eng.slE Go.Eng.apE Go.Eng.CallZ Go.Eng.CallE Go.Eng.VCallE Go.Eng.YldE Go.Eng.GoC Go.Eng.MeetsE Go.Eng.FnA Go.Eng.FnV Go.Eng.ItA
set_option maxRecDepth 100000

theorem k15 (d : Dome) (i : Int) : FnA Try.prog 15 [.agg d.cells, .int .i64 i] (fun r => ∃ b : Bool, r = .bool b ∧ (b = true → d.small ∧ d.ok ∧ 0 ≤ i ∧ i < d.rs.length)) := by
  have l3 : (d.rs.map pairAV).length = d.rs.length := by simp
  have e := k28 d
  refine fnA 1 ok15 (by simp) ?_
  conv => whnf
  refine (k33 d).callq rfl rfl (fun r hr => ?_); obtain ⟨b, rfl, hb⟩ := hr
  cases b with
  | true =>
    (conv => whnf); (repeat' (first | (refine bT ?_; conv => whnf) | (refine bF ?_; conv => whnf) | (refine bN ?_) | (refine bD (fun hh => ?_) (fun hh => ?_) <;> first | (exfalso; omega) | (conv => whnf)) | (refine bEq (fun hh => ?_) (fun hh => ?_) <;> first | (exfalso; omega) | (conv => whnf)) | (refine bNe (fun hh => ?_) (fun hh => ?_) <;> first | (exfalso; omega) | (conv => whnf)) | (refine wIn (by omega) ?_; conv => whnf) | (refine nI (by omega) ?_; conv => whnf)))
    all_goals exact ⟨false, rfl, by simp⟩
  | false =>
    have hs := hb rfl
    by_cases hok : d.ok
    · rw [show d.chk = 0 from by unfold Dome.chk; rw [if_pos hok.1, if_pos hok.2]] at e
      (conv => whnf); (repeat' (first | (refine bT ?_; conv => whnf) | (refine bF ?_; conv => whnf) | (refine bN ?_) | (refine bD (fun hh => ?_) (fun hh => ?_) <;> first | (exfalso; omega) | (conv => whnf)) | (refine bEq (fun hh => ?_) (fun hh => ?_) <;> first | (exfalso; omega) | (conv => whnf)) | (refine bNe (fun hh => ?_) (fun hh => ?_) <;> first | (exfalso; omega) | (conv => whnf)) | (refine (e).callq rfl rfl (fun r (hr : r = _) => ?_); subst hr; conv => whnf) | (refine wIn (by omega) ?_; conv => whnf) | (refine nI (by omega) ?_; conv => whnf)))
      all_goals first | exact ⟨false, rfl, by simp⟩ | exact ⟨true, rfl, fun _ => ⟨hs, hok, by omega, by omega⟩⟩ | exact ⟨_, rfl, fun h => ⟨hs, hok, by omega, by have := of_decide_eq_true h; omega⟩⟩
    · have h0 : d.chk ≠ 0 := by
        unfold Dome.chk
        by_cases h1 : d.ok1
        · rw [if_pos h1, if_neg fun h2 => hok ⟨h1, h2⟩]; decide
        · rw [if_neg h1]; decide
      (conv => whnf); (repeat' (first | (refine bT ?_; conv => whnf) | (refine bF ?_; conv => whnf) | (refine bN ?_) | (refine bD (fun hh => ?_) (fun hh => ?_) <;> first | (exfalso; omega) | (conv => whnf)) | (refine bEq (fun hh => ?_) (fun hh => ?_) <;> first | (exfalso; omega) | (conv => whnf)) | (refine bNe (fun hh => ?_) (fun hh => ?_) <;> first | (exfalso; omega) | (conv => whnf)) | (refine (e).callq rfl rfl (fun r (hr : r = _) => ?_); subst hr; conv => whnf) | (refine wIn (by omega) ?_; conv => whnf) | (refine nI (by omega) ?_; conv => whnf)))
      all_goals exact ⟨false, rfl, by simp⟩
theorem mem_nums {b : Bolt} {x : Int} : x ∈ b.nums ↔ b.can x = true := by
  constructor
  · exact fun h => (numsN_in b _ x h).1
  · intro h
    have h2 : b.lo ≤ x ∧ x ≤ b.hi := by
      unfold Bolt.can at h
      rw [Bool.and_eq_true] at h
      exact of_decide_eq_true h.1
    have hk : (x - b.lo).toNat < b.nt := by unfold Bolt.nt; omega
    have e : b.lo + ((x - b.lo).toNat : Int) = x := by omega
    have h3 := nums_at b hk (by rw [e]; exact h)
    have h4 := List.mem_of_getElem? h3
    rw [e] at h4
    obtain ⟨y, hy, he⟩ := List.mem_map.1 h4
    simp only [iAV, List.cons.injEq, AV.int.injEq, true_and, and_true] at he
    exact he ▸ hy
theorem isT_T {d : Dome} {t : List Int} : d.isT t ↔ t ∈ d.T := by
  rw [mem_T]
  exact and_congr_right fun _ => forall_congr' fun i => forall_congr' fun h1 => forall_congr' fun h2 => mem_nums.symm
theorem mem_loose {o : Opn} {k : Nat} (hk : k < o.d.rs.length) (hkw : k < o.d.ws.length) : (k : Int) ∈ o.loose ↔ o.sure o.d.rs[k] o.d.ws[k] = false := by
  unfold Opn.loose Opn.looseN
  simp only [List.mem_map, List.mem_filter, List.mem_range]
  have e1 : o.d.rs.getD k (0, 0) = o.d.rs[k] := by simp [List.getD_eq_getElem?_getD, hk]
  have e2 : o.d.ws.getD k 0 = o.d.ws[k] := by simp [List.getD_eq_getElem?_getD, hkw]
  constructor
  · rintro ⟨j, ⟨_, h⟩, hj⟩
    have : j = k := by omega
    subst this
    rw [e1, e2] at h
    simpa using h
  · intro h
    exact ⟨k, ⟨hk, by rw [e1, e2, h]; rfl⟩, rfl⟩

theorem tv_eq {d : Dome} (hok : d.ok) (hh : d.has = true) {w : Int} (hw : 2 * d.loss ≤ w) (s : Int × Int) {t : List Int} (ht : t ∈ d.T) : (d.opn.tv s w = 1 ∧ d.opn.sure s w = true ∧ inS s (d.by w t) = true) ∨ (d.opn.tv s w = 2 ∧ d.opn.sure s w = false ∧ inS s (d.by w t) = false) ∨ (d.opn.tv s w = 3 ∧ d.opn.sure s w = false) := by
  cases hs : d.opn.sure s w with
  | true => exact .inl ⟨(tv_one _ _ _).2 hs, rfl, (sure_iff hok hh hw s).1 hs t ht⟩
  | false =>
    have h1 : d.opn.tv s w ≠ 1 := fun h => by rw [tv_one, hs] at h; cases h
    rcases tv_in d.opn s w with h | h | h
    · exact absurd h h1
    · refine .inr (.inl ⟨h, rfl, ?_⟩)
      have h2 := tv_cnt hok hh hw s
      rw [h] at h2
      have h3 : d.cnt s w d.T = 0 := by
        apply Classical.byContradiction; intro hn
        rw [if_neg hn] at h2
        split at h2 <;> omega
      exact cnt_none.1 h3 t ht
    · exact .inr (.inr ⟨h, rfl⟩)
theorem k3 (d : Dome) (t : List Int) (i : Int) : FnA Try.prog 3 [.agg d.cells, .isl (t.map iAV), .int .i64 i] (· = .bool true) := by
  have l1 : (t.map iAV).length = t.length := by simp
  refine fnA 4 ok3 (by simp) ?_
  conv => whnf
  refine (k15 d i).callq rfl rfl (fun r hr => ?_); obtain ⟨b, rfl, hb⟩ := hr
  cases b with
  | false =>
    (conv => whnf); (repeat' (first | (refine bT ?_; conv => whnf) | (refine bF ?_; conv => whnf) | (refine bN ?_) | (refine bD (fun hh => ?_) (fun hh => ?_) <;> first | (exfalso; omega) | (conv => whnf)) | (refine bEq (fun hh => ?_) (fun hh => ?_) <;> first | (exfalso; omega) | (conv => whnf)) | (refine bNe (fun hh => ?_) (fun hh => ?_) <;> first | (exfalso; omega) | (conv => whnf)) | (refine (k17).callq rfl rfl (fun r (hr : r = _) => ?_); subst hr; conv => whnf) | (refine wIn (by omega) ?_; conv => whnf) | (refine nI (by omega) ?_; conv => whnf)))
    all_goals rfl
  | true =>
    obtain ⟨hs, hok, h0, h1⟩ := hb rfl
    obtain ⟨r, rfl⟩ := Int.eq_ofNat_of_zero_le h0
    have hr : r < d.rs.length := by omega
    have e16 := k16 d t hok
    by_cases hT : d.isT t
    case neg =>
      rw [decide_eq_false hT] at e16
      (conv => whnf); (repeat' (first | (refine bT ?_; conv => whnf) | (refine bF ?_; conv => whnf) | (refine bN ?_) | (refine bD (fun hh => ?_) (fun hh => ?_) <;> first | (exfalso; omega) | (conv => whnf)) | (refine bEq (fun hh => ?_) (fun hh => ?_) <;> first | (exfalso; omega) | (conv => whnf)) | (refine bNe (fun hh => ?_) (fun hh => ?_) <;> first | (exfalso; omega) | (conv => whnf)) | (refine (e16).callq rfl rfl (fun r (hr : r = _) => ?_); subst hr; conv => whnf) | (refine (k17).callq rfl rfl (fun r (hr : r = _) => ?_); subst hr; conv => whnf) | (refine wIn (by omega) ?_; conv => whnf) | (refine nI (by omega) ?_; conv => whnf)))
      all_goals rfl
    rw [decide_eq_true hT] at e16
    have hT2 := isT_T.1 hT
    have hh : d.has = true := T_has.1 (List.ne_nil_of_mem hT2)
    have hrw : d.ws.length = d.rs.length := hok.1.2.2.2.2.2.2.1
    have hbl := hok.1.1
    have l4 : (d.ws.map iAV).length = d.ws.length := by simp
    have l5 : (d.rs.map pairAV).length = d.rs.length := by simp
    have hkw : r < d.ws.length := by omega
    have hD : d.eD = 0 := by unfold Dome.eD; rw [if_pos hok, hh]; rfl
    have hR := eD_eR hD hr
    have hB : ∀ k : Nat, k < d.bs.length → d.eB k = 0 := fun k hk => by
      unfold Dome.eB Dome.no; rw [if_pos hok, if_pos (by omega), hh]; rfl
    have hw := hok.1.2.2.2.2.2.2.2.1 _ (List.getElem_mem hkw)
    have hl := hok.1.2.2.2.1
    have e20 := k20 d d.ws[r] t hok (by omega) (fit_T hok hT2)
    have e24 := k24 (d.opn.round d.ws[r]).1 (d.opn.round d.ws[r]).2 (d.by d.ws[r] t)
    rw [decide_eq_true (by_between hok hw.1 hT2)] at e24
    have e24s := k24 d.rs[r].1 d.rs[r].2 (d.by d.ws[r] t)
    have e19 := k19 d.opn.loose r (loose_len hD)
    (conv => whnf); (repeat' (first | (refine bT ?_; conv => whnf) | (refine bF ?_; conv => whnf) | (refine bN ?_) | (refine bD (fun hh => ?_) (fun hh => ?_) <;> first | (exfalso; omega) | (conv => whnf)) | (refine bEq (fun hh => ?_) (fun hh => ?_) <;> first | (exfalso; omega) | (conv => whnf)) | (refine bNe (fun hh => ?_) (fun hh => ?_) <;> first | (exfalso; omega) | (conv => whnf)) | (refine (e16).callq rfl rfl (fun r (hr : r = _) => ?_); subst hr; conv => whnf) | (refine wIn (by omega) ?_; conv => whnf) | (refine nI (by omega) ?_; conv => whnf)))
    refine loop_i (α := Nat) (fun k => [(7, .int .i64 k), (6, .bool false), (3, .own 0 0), (2, .int .i64 r), (1, .isl (t.map iAV))]) (fun k => [.box false d.cells, .fresh, .fresh, .fresh]) (fun k => k ≤ t.length) (fun k => t.length - k) 0 (meets_id (by (repeat' apply And.intro) <;> first | rfl | exact True.intro | (intro hh; cases hh))) (by omega) ?_
    intro k hk0
    conv => whnf
    refine bD (fun h4 => ?_) (fun h4 => ?_)
    · have hk : k < t.length := by omega
      have hk2 : k < d.bs.length := by have := hT.1; omega
      have hm := hT.2 k hk2 hk
      have e := k19 d.bs[k].nums t[k] (nums_len hok (List.getElem_mem hk2))
      rw [decide_eq_true (mem_nums.2 hm)] at e
      (conv => whnf); (repeat' (first | (refine bT ?_; conv => whnf) | (refine bF ?_; conv => whnf) | (refine bN ?_) | (refine bD (fun hh => ?_) (fun hh => ?_) <;> first | (exfalso; omega) | (conv => whnf)) | (refine bEq (fun hh => ?_) (fun hh => ?_) <;> first | (exfalso; omega) | (conv => whnf)) | (refine bNe (fun hh => ?_) (fun hh => ?_) <;> first | (exfalso; omega) | (conv => whnf)) | (refine (k18 d k (hB k hk2) hk2).callzq rfl rfl (fun r (hr : r = _) => ?_); subst hr; conv => whnf) | (refine wIn (by omega) ?_; conv => whnf) | (refine nI (by omega) ?_; conv => whnf)))
      refine iaI (by omega) (by omega) (getD_map iAV t k hk) ?_
      (conv => whnf); (repeat' (first | (refine bT ?_; conv => whnf) | (refine bF ?_; conv => whnf) | (refine bN ?_) | (refine bD (fun hh => ?_) (fun hh => ?_) <;> first | (exfalso; omega) | (conv => whnf)) | (refine bEq (fun hh => ?_) (fun hh => ?_) <;> first | (exfalso; omega) | (conv => whnf)) | (refine bNe (fun hh => ?_) (fun hh => ?_) <;> first | (exfalso; omega) | (conv => whnf)) | (refine (e).callq rfl rfl (fun r (hr : r = _) => ?_); subst hr; conv => whnf) | (refine wIn (by omega) ?_; conv => whnf) | (refine nI (by omega) ?_; conv => whnf)))
      exact ⟨k + 1, (meets_id (by (repeat' apply And.intro) <;> first | rfl | exact True.intro | (intro hh; cases hh))), by omega, by omega⟩
    · (conv => whnf); (repeat' (first | (refine bT ?_; conv => whnf) | (refine bF ?_; conv => whnf) | (refine bN ?_) | (refine bD (fun hh => ?_) (fun hh => ?_) <;> first | (exfalso; omega) | (conv => whnf)) | (refine bEq (fun hh => ?_) (fun hh => ?_) <;> first | (exfalso; omega) | (conv => whnf)) | (refine bNe (fun hh => ?_) (fun hh => ?_) <;> first | (exfalso; omega) | (conv => whnf)) | (refine wIn (by omega) ?_; conv => whnf) | (refine nI (by omega) ?_; conv => whnf)))
      refine iaI (by omega) (by omega) (getD_map iAV d.ws r hkw) ?_
      have e22 := k22 d r hR hr hkw
      have hml := mem_loose (o := d.opn) (k := r) hr hkw
      rw [show decide (d.rs[r].1 ≤ d.by d.ws[r] t ∧ d.by d.ws[r] t ≤ d.rs[r].2) = inS d.rs[r] (d.by d.ws[r] t) from rfl] at e24s
      have ets := tv_eq hok hh hw.1 d.rs[r] hT2
      rcases ets with ⟨a1, a2, a3⟩ | ⟨a1, a2, a3⟩ | ⟨a1, a2⟩
      · rw [a1] at e22
        rw [decide_eq_false fun h => by rw [hml] at h; exact absurd (h.symm.trans a2) (by simp)] at e19
        rw [a3] at e24s
        (conv => whnf); (repeat' (first | (refine bT ?_; conv => whnf) | (refine bF ?_; conv => whnf) | (refine bN ?_) | (refine bD (fun hh => ?_) (fun hh => ?_) <;> first | (exfalso; omega) | (conv => whnf)) | (refine bEq (fun hh => ?_) (fun hh => ?_) <;> first | (exfalso; omega) | (conv => whnf)) | (refine bNe (fun hh => ?_) (fun hh => ?_) <;> first | (exfalso; omega) | (conv => whnf)) | (refine (e20).callq rfl rfl (fun r (hr : r = _) => ?_); subst hr; conv => whnf) | (refine (k21 d r hR hkw).callq rfl rfl (fun r (hr : r = _) => ?_); subst hr; conv => whnf) | (refine (e22).callq rfl rfl (fun r (hr : r = _) => ?_); subst hr; conv => whnf) | (refine (k23 d hD).callzq rfl rfl (fun r (hr : r = _) => ?_); subst hr; conv => whnf) | (refine (e24).callq rfl rfl (fun r (hr : r = _) => ?_); subst hr; conv => whnf) | (refine (e19).callq rfl rfl (fun r (hr : r = _) => ?_); subst hr; conv => whnf) | (refine wIn (by omega) ?_; conv => whnf) | (refine nI (by omega) ?_; conv => whnf)))
        refine iaI (by omega) (by omega) (getD_map pairAV d.rs r hr) ?_
        (conv => whnf); (repeat' (first | (refine bT ?_; conv => whnf) | (refine bF ?_; conv => whnf) | (refine bN ?_) | (refine bD (fun hh => ?_) (fun hh => ?_) <;> first | (exfalso; omega) | (conv => whnf)) | (refine bEq (fun hh => ?_) (fun hh => ?_) <;> first | (exfalso; omega) | (conv => whnf)) | (refine bNe (fun hh => ?_) (fun hh => ?_) <;> first | (exfalso; omega) | (conv => whnf)) | (refine (e24s).callq rfl rfl (fun r (hr : r = _) => ?_); subst hr; conv => whnf) | (refine (k17).callq rfl rfl (fun r (hr : r = _) => ?_); subst hr; conv => whnf) | (refine wIn (by omega) ?_; conv => whnf) | (refine nI (by omega) ?_; conv => whnf)))
        all_goals rfl
      · rw [a1] at e22
        rw [decide_eq_true (hml.2 a2)] at e19
        rw [a3] at e24s
        (conv => whnf); (repeat' (first | (refine bT ?_; conv => whnf) | (refine bF ?_; conv => whnf) | (refine bN ?_) | (refine bD (fun hh => ?_) (fun hh => ?_) <;> first | (exfalso; omega) | (conv => whnf)) | (refine bEq (fun hh => ?_) (fun hh => ?_) <;> first | (exfalso; omega) | (conv => whnf)) | (refine bNe (fun hh => ?_) (fun hh => ?_) <;> first | (exfalso; omega) | (conv => whnf)) | (refine (e20).callq rfl rfl (fun r (hr : r = _) => ?_); subst hr; conv => whnf) | (refine (k21 d r hR hkw).callq rfl rfl (fun r (hr : r = _) => ?_); subst hr; conv => whnf) | (refine (e22).callq rfl rfl (fun r (hr : r = _) => ?_); subst hr; conv => whnf) | (refine (k23 d hD).callzq rfl rfl (fun r (hr : r = _) => ?_); subst hr; conv => whnf) | (refine (e24).callq rfl rfl (fun r (hr : r = _) => ?_); subst hr; conv => whnf) | (refine (e19).callq rfl rfl (fun r (hr : r = _) => ?_); subst hr; conv => whnf) | (refine wIn (by omega) ?_; conv => whnf) | (refine nI (by omega) ?_; conv => whnf)))
        refine iaI (by omega) (by omega) (getD_map pairAV d.rs r hr) ?_
        (conv => whnf); (repeat' (first | (refine bT ?_; conv => whnf) | (refine bF ?_; conv => whnf) | (refine bN ?_) | (refine bD (fun hh => ?_) (fun hh => ?_) <;> first | (exfalso; omega) | (conv => whnf)) | (refine bEq (fun hh => ?_) (fun hh => ?_) <;> first | (exfalso; omega) | (conv => whnf)) | (refine bNe (fun hh => ?_) (fun hh => ?_) <;> first | (exfalso; omega) | (conv => whnf)) | (refine (e24s).callq rfl rfl (fun r (hr : r = _) => ?_); subst hr; conv => whnf) | (refine (k17).callq rfl rfl (fun r (hr : r = _) => ?_); subst hr; conv => whnf) | (refine wIn (by omega) ?_; conv => whnf) | (refine nI (by omega) ?_; conv => whnf)))
        all_goals rfl
      · rw [a1] at e22
        rw [decide_eq_true (hml.2 a2)] at e19
        (conv => whnf); (repeat' (first | (refine bT ?_; conv => whnf) | (refine bF ?_; conv => whnf) | (refine bN ?_) | (refine bD (fun hh => ?_) (fun hh => ?_) <;> first | (exfalso; omega) | (conv => whnf)) | (refine bEq (fun hh => ?_) (fun hh => ?_) <;> first | (exfalso; omega) | (conv => whnf)) | (refine bNe (fun hh => ?_) (fun hh => ?_) <;> first | (exfalso; omega) | (conv => whnf)) | (refine (e20).callq rfl rfl (fun r (hr : r = _) => ?_); subst hr; conv => whnf) | (refine (k21 d r hR hkw).callq rfl rfl (fun r (hr : r = _) => ?_); subst hr; conv => whnf) | (refine (e22).callq rfl rfl (fun r (hr : r = _) => ?_); subst hr; conv => whnf) | (refine (k23 d hD).callzq rfl rfl (fun r (hr : r = _) => ?_); subst hr; conv => whnf) | (refine (e24).callq rfl rfl (fun r (hr : r = _) => ?_); subst hr; conv => whnf) | (refine (e19).callq rfl rfl (fun r (hr : r = _) => ?_); subst hr; conv => whnf) | (refine (k17).callq rfl rfl (fun r (hr : r = _) => ?_); subst hr; conv => whnf) | (refine wIn (by omega) ?_; conv => whnf) | (refine nI (by omega) ?_; conv => whnf)))
        all_goals rfl

theorem take_map_succ {l : List Int} {k : Nat} (hk : k < l.length) : (l.take (k + 1)).map iAV = (l.take k).map iAV ++ [[.int .i64 l[k]]] := by
  rw [List.take_succ_eq_append_getElem hk, List.map_append]; rfl
theorem k4 (d : Dome) (ks : List Int) (i : Int) : FnA Try.prog 4 [.agg d.cells, .isl (ks.map iAV), .int .i64 i] (· = .bool true) := by
  have l0 : (d.bs.map Bolt.av).length = d.bs.length := by simp
  have l1 : (ks.map iAV).length = ks.length := by simp
  refine fnA 12 ok4 (by simp) ?_
  conv => whnf
  refine (k15 d i).callq rfl rfl (fun r hr => ?_); obtain ⟨b, rfl, hb⟩ := hr
  cases b with
  | false =>
    (conv => whnf); (repeat' (first | (refine bT ?_; conv => whnf) | (refine bF ?_; conv => whnf) | (refine bN ?_) | (refine bD (fun hh => ?_) (fun hh => ?_) <;> first | (exfalso; omega) | (conv => whnf)) | (refine bEq (fun hh => ?_) (fun hh => ?_) <;> first | (exfalso; omega) | (conv => whnf)) | (refine bNe (fun hh => ?_) (fun hh => ?_) <;> first | (exfalso; omega) | (conv => whnf)) | (refine (k17).callq rfl rfl (fun r (hr : r = _) => ?_); subst hr; conv => whnf) | (refine wIn (by omega) ?_; conv => whnf) | (refine nI (by omega) ?_; conv => whnf)))
    all_goals rfl
  | true =>
    obtain ⟨hs, hok, h0, h1⟩ := hb rfl
    obtain ⟨r, rfl⟩ := Int.eq_ofNat_of_zero_le h0
    have hr : r < d.rs.length := by omega
    by_cases hh : d.has = true
    case neg =>
      have hR : d.eR r ≠ 0 := by
        unfold Dome.eR Dome.noR; rw [if_pos hok, if_pos (by omega)]; simp [hh]
      have e3 : d.eR r = 3 := by
        unfold Dome.eR Dome.noR; rw [if_pos hok, if_pos (by omega)]; simp [hh]
      have e21 := k21_no d r hR
      rw [e3] at e21
      (conv => whnf); (repeat' (first | (refine bT ?_; conv => whnf) | (refine bF ?_; conv => whnf) | (refine bN ?_) | (refine bD (fun hh => ?_) (fun hh => ?_) <;> first | (exfalso; omega) | (conv => whnf)) | (refine bEq (fun hh => ?_) (fun hh => ?_) <;> first | (exfalso; omega) | (conv => whnf)) | (refine bNe (fun hh => ?_) (fun hh => ?_) <;> first | (exfalso; omega) | (conv => whnf)) | (refine (e21).callq rfl rfl (fun r (hr : r = _) => ?_); subst hr; conv => whnf) | (refine (k17).callq rfl rfl (fun r (hr : r = _) => ?_); subst hr; conv => whnf) | (refine wIn (by omega) ?_; conv => whnf) | (refine nI (by omega) ?_; conv => whnf)))
      all_goals rfl
    have hrw : d.ws.length = d.rs.length := hok.1.2.2.2.2.2.2.1
    have hbl := hok.1.1
    have l4 : (d.ws.map iAV).length = d.ws.length := by simp
    have hkw : r < d.ws.length := by omega
    have hD : d.eD = 0 := by unfold Dome.eD; rw [if_pos hok, hh]; rfl
    have hR := eD_eR hD hr
    have hB : ∀ k : Nat, k < d.bs.length → d.eB k = 0 := fun k hk => by
      unfold Dome.eB Dome.no; rw [if_pos hok, if_pos (by omega), hh]; rfl
    have hw := hok.1.2.2.2.2.2.2.2.1 _ (List.getElem_mem hkw)
    have hl := hok.1.2.2.2.1
    have hlo : d.tLo.length = d.bs.length := by simp [Dome.tLo]
    have hhi : d.tHi.length = d.bs.length := by simp [Dome.tHi]
    (conv => whnf); (repeat' (first | (refine bT ?_; conv => whnf) | (refine bF ?_; conv => whnf) | (refine bN ?_) | (refine bD (fun hh => ?_) (fun hh => ?_) <;> first | (exfalso; omega) | (conv => whnf)) | (refine bEq (fun hh => ?_) (fun hh => ?_) <;> first | (exfalso; omega) | (conv => whnf)) | (refine bNe (fun hh => ?_) (fun hh => ?_) <;> first | (exfalso; omega) | (conv => whnf)) | (refine (k21 d r hR hkw).callq rfl rfl (fun r (hr : r = _) => ?_); subst hr; conv => whnf) | (refine wIn (by omega) ?_; conv => whnf) | (refine nI (by omega) ?_; conv => whnf)))
    refine loop_i (α := Nat × List Int) (fun k => [(12, .int .i64 k.1), (11, .row 11), (10, .row 10), (9, .row 9), (8, .int .i64 0), (7, .own 1 0), (6, .bool false), (3, .own 0 0), (2, .int .i64 r), (1, .isl (ks.map iAV))]) (fun k => [.box false d.cells, .box false [.int .i64 (d.opn.round d.ws[r]).1, .int .i64 (d.opn.round d.ws[r]).2], .fresh, .fresh, .fresh, .fresh, .fresh, .fresh, .fresh, .row false 3 1 ((d.tLo.take k.1).map iAV), .row false 3 1 ((d.tHi.take k.1).map iAV), .row false 3 1 (k.2.map iAV)]) (fun k => k.1 ≤ d.bs.length ∧ k.2.length = k.1 ∧ ∀ i (h1 : i < d.bs.length) (h2 : i < k.2.length), k.2[i] ∈ d.bs[i].nums) (fun k => d.bs.length - k.1) (0, []) (meets_as [(9, none), (10, none), (11, none)] (by (repeat' apply And.intro) <;> first | rfl | exact True.intro | (intro hh; cases hh))) ⟨by simp, rfl, fun i _ h2 => by simp at h2⟩ ?_
    rintro ⟨k, p⟩ ⟨hk0, hpl, hp⟩
    simp only at hk0 hpl hp
    conv => whnf
    refine bD (fun h4 => ?_) (fun h4 => ?_)
    · have hk : k < d.bs.length := by omega
      have hpos := nums_pos hh (List.getElem_mem hk)
      have hln := nums_len hok (List.getElem_mem hk)
      have hn2 : (d.bs[k].nums.map iAV).length = d.bs[k].nums.length := by simp
      have g1 := getD_map iAV d.bs[k].nums 0 hpos
      have g2 := getD_map iAV d.bs[k].nums (d.bs[k].nums.length - 1) (by omega)
      have t1 := take_map_succ (l := d.tLo) (k := k) (by omega)
      have t2 := take_map_succ (l := d.tHi) (k := k) (by omega)
      (conv => whnf); (repeat' (first | (refine bT ?_; conv => whnf) | (refine bF ?_; conv => whnf) | (refine bN ?_) | (refine bD (fun hh => ?_) (fun hh => ?_) <;> first | (exfalso; omega) | (conv => whnf)) | (refine bEq (fun hh => ?_) (fun hh => ?_) <;> first | (exfalso; omega) | (conv => whnf)) | (refine bNe (fun hh => ?_) (fun hh => ?_) <;> first | (exfalso; omega) | (conv => whnf)) | (refine (k18 d k (hB k hk) hk).callzq rfl rfl (fun r (hr : r = _) => ?_); subst hr; conv => whnf) | (refine wIn (by omega) ?_; conv => whnf) | (refine nI (by omega) ?_; conv => whnf)))
      refine iaI (by omega) (by omega) g1 ?_
      (conv => whnf); (repeat' (first | (refine bT ?_; conv => whnf) | (refine bF ?_; conv => whnf) | (refine bN ?_) | (refine bD (fun hh => ?_) (fun hh => ?_) <;> first | (exfalso; omega) | (conv => whnf)) | (refine bEq (fun hh => ?_) (fun hh => ?_) <;> first | (exfalso; omega) | (conv => whnf)) | (refine bNe (fun hh => ?_) (fun hh => ?_) <;> first | (exfalso; omega) | (conv => whnf)) | (refine wIn (by omega) ?_; conv => whnf) | (refine nI (by omega) ?_; conv => whnf)))
      refine iaI (by omega) (by omega) (show _ = iAV (d.bs[k].nums[d.bs[k].nums.length - 1]) from by rw [← g2]; congr 1; omega) ?_
      (conv => whnf); (repeat' (first | (refine bT ?_; conv => whnf) | (refine bF ?_; conv => whnf) | (refine bN ?_) | (refine bD (fun hh => ?_) (fun hh => ?_) <;> first | (exfalso; omega) | (conv => whnf)) | (refine bEq (fun hh => ?_) (fun hh => ?_) <;> first | (exfalso; omega) | (conv => whnf)) | (refine bNe (fun hh => ?_) (fun hh => ?_) <;> first | (exfalso; omega) | (conv => whnf)) | (refine wIn (by omega) ?_; conv => whnf) | (refine nI (by omega) ?_; conv => whnf)))
      refine apI (by simp [AV.one]) (by simp; omega) ?_
      (conv => whnf); (repeat' (first | (refine bT ?_; conv => whnf) | (refine bF ?_; conv => whnf) | (refine bN ?_) | (refine bD (fun hh => ?_) (fun hh => ?_) <;> first | (exfalso; omega) | (conv => whnf)) | (refine bEq (fun hh => ?_) (fun hh => ?_) <;> first | (exfalso; omega) | (conv => whnf)) | (refine bNe (fun hh => ?_) (fun hh => ?_) <;> first | (exfalso; omega) | (conv => whnf)) | (refine wIn (by omega) ?_; conv => whnf) | (refine nI (by omega) ?_; conv => whnf)))
      refine apI (by simp [AV.one]) (by simp; omega) ?_
      have t1' : (d.tLo.take (k + 1)).map iAV = (d.tLo.take k).map iAV ++ [[.int .i64 d.bs[k].nums[0]]] := by
        rw [t1]; simp [Dome.tLo, List.getD_eq_getElem?_getD, hpos]
      have t2' : (d.tHi.take (k + 1)).map iAV = (d.tHi.take k).map iAV ++ [[.int .i64 d.bs[k].nums[d.bs[k].nums.length - 1]]] := by
        rw [t2]; simp [Dome.tHi, List.getD_eq_getElem?_getD, show d.bs[k].nums.length - 1 < d.bs[k].nums.length from by omega]
      have hend : ∀ x ∈ d.bs[k].nums, k + 1 ≤ d.bs.length ∧ (p ++ [x]).length = k + 1 ∧ ∀ i (h1 : i < d.bs.length) (h2 : i < (p ++ [x]).length), (p ++ [x])[i] ∈ d.bs[i].nums := fun x hx => by
        refine ⟨by omega, by simp [hpl], fun i h1 h2 => ?_⟩
        rw [List.getElem_append]
        split
        · rename_i h3; exact hp i h1 h3
        · rename_i h3
          have : i = k := by simp at h2; omega
          subst this
          simpa using hx
      have hap : ∀ x : Int, (p ++ [x]).map iAV = p.map iAV ++ [[.int .i64 x]] := fun x => by simp [iAV]
      by_cases hks : k < ks.length
      · have hgk := getD_map iAV ks k hks
        (conv => whnf); (repeat' (first | (refine bT ?_; conv => whnf) | (refine bF ?_; conv => whnf) | (refine bN ?_) | (refine bD (fun hh => ?_) (fun hh => ?_) <;> first | (exfalso; omega) | (conv => whnf)) | (refine bEq (fun hh => ?_) (fun hh => ?_) <;> first | (exfalso; omega) | (conv => whnf)) | (refine bNe (fun hh => ?_) (fun hh => ?_) <;> first | (exfalso; omega) | (conv => whnf)) | (refine wIn (by omega) ?_; conv => whnf) | (refine nI (by omega) ?_; conv => whnf)))
        refine iaI (by omega) (by omega) hgk ?_
        (conv => whnf); (repeat' (first | (refine bT ?_; conv => whnf) | (refine bF ?_; conv => whnf) | (refine bN ?_) | (refine bD (fun hh => ?_) (fun hh => ?_) <;> first | (exfalso; omega) | (conv => whnf)) | (refine bEq (fun hh => ?_) (fun hh => ?_) <;> first | (exfalso; omega) | (conv => whnf)) | (refine bNe (fun hh => ?_) (fun hh => ?_) <;> first | (exfalso; omega) | (conv => whnf)) | (refine wIn (by omega) ?_; conv => whnf) | (refine nI (by omega) ?_; conv => whnf)))
        · refine iaI (by omega) (by omega) hgk ?_
          have hm : 0 ≤ ks[k].tmod ((d.bs[k].nums.map iAV).length : Int) ∧ ks[k].tmod ((d.bs[k].nums.map iAV).length : Int) < d.bs[k].nums.length := by
            rw [Int.tmod_eq_emod_of_nonneg (by omega), hn2]
            exact ⟨Int.emod_nonneg _ (by omega), Int.emod_lt_of_pos _ (by omega)⟩
          (conv => whnf); (repeat' (first | (refine bT ?_; conv => whnf) | (refine bF ?_; conv => whnf) | (refine bN ?_) | (refine bD (fun hh => ?_) (fun hh => ?_) <;> first | (exfalso; omega) | (conv => whnf)) | (refine bEq (fun hh => ?_) (fun hh => ?_) <;> first | (exfalso; omega) | (conv => whnf)) | (refine bNe (fun hh => ?_) (fun hh => ?_) <;> first | (exfalso; omega) | (conv => whnf)) | (refine wIn (by omega) ?_; conv => whnf) | (refine nI (by omega) ?_; conv => whnf)))
          generalize ks[k].tmod ((d.bs[k].nums.map iAV).length : Int) = q at hm ⊢
          obtain ⟨j, rfl⟩ := Int.eq_ofNat_of_zero_le hm.1
          have hj : j < d.bs[k].nums.length := by omega
          refine iaI (by omega) (by omega) (getD_map iAV d.bs[k].nums j hj) ?_
          (conv => whnf); (repeat' (first | (refine bT ?_; conv => whnf) | (refine bF ?_; conv => whnf) | (refine bN ?_) | (refine bD (fun hh => ?_) (fun hh => ?_) <;> first | (exfalso; omega) | (conv => whnf)) | (refine bEq (fun hh => ?_) (fun hh => ?_) <;> first | (exfalso; omega) | (conv => whnf)) | (refine bNe (fun hh => ?_) (fun hh => ?_) <;> first | (exfalso; omega) | (conv => whnf)) | (refine wIn (by omega) ?_; conv => whnf) | (refine nI (by omega) ?_; conv => whnf)))
          refine apI (by simp [AV.one]) (by simp; omega) ?_
          (conv => whnf); (repeat' (first | (refine bT ?_; conv => whnf) | (refine bF ?_; conv => whnf) | (refine bN ?_) | (refine bD (fun hh => ?_) (fun hh => ?_) <;> first | (exfalso; omega) | (conv => whnf)) | (refine bEq (fun hh => ?_) (fun hh => ?_) <;> first | (exfalso; omega) | (conv => whnf)) | (refine bNe (fun hh => ?_) (fun hh => ?_) <;> first | (exfalso; omega) | (conv => whnf)) | (refine wIn (by omega) ?_; conv => whnf) | (refine nI (by omega) ?_; conv => whnf)))
          refine ⟨(k + 1, p ++ [d.bs[k].nums[j]]), ?_, hend _ (List.getElem_mem hj), by simp only; omega⟩
          dsimp only
          rw [t1', t2', hap]
          exact (meets_as [(9, some 4), (10, some 6), (11, some 8)] (by (repeat' apply And.intro) <;> first | rfl | exact True.intro | (intro hh; cases hh)))
        · refine iaI (by omega) (by omega) g1 ?_
          (conv => whnf); (repeat' (first | (refine bT ?_; conv => whnf) | (refine bF ?_; conv => whnf) | (refine bN ?_) | (refine bD (fun hh => ?_) (fun hh => ?_) <;> first | (exfalso; omega) | (conv => whnf)) | (refine bEq (fun hh => ?_) (fun hh => ?_) <;> first | (exfalso; omega) | (conv => whnf)) | (refine bNe (fun hh => ?_) (fun hh => ?_) <;> first | (exfalso; omega) | (conv => whnf)) | (refine wIn (by omega) ?_; conv => whnf) | (refine nI (by omega) ?_; conv => whnf)))
          refine apI (by simp [AV.one]) (by simp; omega) ?_
          (conv => whnf); (repeat' (first | (refine bT ?_; conv => whnf) | (refine bF ?_; conv => whnf) | (refine bN ?_) | (refine bD (fun hh => ?_) (fun hh => ?_) <;> first | (exfalso; omega) | (conv => whnf)) | (refine bEq (fun hh => ?_) (fun hh => ?_) <;> first | (exfalso; omega) | (conv => whnf)) | (refine bNe (fun hh => ?_) (fun hh => ?_) <;> first | (exfalso; omega) | (conv => whnf)) | (refine wIn (by omega) ?_; conv => whnf) | (refine nI (by omega) ?_; conv => whnf)))
          refine ⟨(k + 1, p ++ [d.bs[k].nums[0]]), ?_, hend _ (List.getElem_mem hpos), by simp only; omega⟩
          dsimp only
          rw [t1', t2', hap]
          exact (meets_as [(9, some 4), (10, some 6), (11, some 8)] (by (repeat' apply And.intro) <;> first | rfl | exact True.intro | (intro hh; cases hh)))
      · (conv => whnf); (repeat' (first | (refine bT ?_; conv => whnf) | (refine bF ?_; conv => whnf) | (refine bN ?_) | (refine bD (fun hh => ?_) (fun hh => ?_) <;> first | (exfalso; omega) | (conv => whnf)) | (refine bEq (fun hh => ?_) (fun hh => ?_) <;> first | (exfalso; omega) | (conv => whnf)) | (refine bNe (fun hh => ?_) (fun hh => ?_) <;> first | (exfalso; omega) | (conv => whnf)) | (refine wIn (by omega) ?_; conv => whnf) | (refine nI (by omega) ?_; conv => whnf)))
        refine iaI (by omega) (by omega) g1 ?_
        (conv => whnf); (repeat' (first | (refine bT ?_; conv => whnf) | (refine bF ?_; conv => whnf) | (refine bN ?_) | (refine bD (fun hh => ?_) (fun hh => ?_) <;> first | (exfalso; omega) | (conv => whnf)) | (refine bEq (fun hh => ?_) (fun hh => ?_) <;> first | (exfalso; omega) | (conv => whnf)) | (refine bNe (fun hh => ?_) (fun hh => ?_) <;> first | (exfalso; omega) | (conv => whnf)) | (refine wIn (by omega) ?_; conv => whnf) | (refine nI (by omega) ?_; conv => whnf)))
        refine apI (by simp [AV.one]) (by simp; omega) ?_
        (conv => whnf); (repeat' (first | (refine bT ?_; conv => whnf) | (refine bF ?_; conv => whnf) | (refine bN ?_) | (refine bD (fun hh => ?_) (fun hh => ?_) <;> first | (exfalso; omega) | (conv => whnf)) | (refine bEq (fun hh => ?_) (fun hh => ?_) <;> first | (exfalso; omega) | (conv => whnf)) | (refine bNe (fun hh => ?_) (fun hh => ?_) <;> first | (exfalso; omega) | (conv => whnf)) | (refine wIn (by omega) ?_; conv => whnf) | (refine nI (by omega) ?_; conv => whnf)))
        refine ⟨(k + 1, p ++ [d.bs[k].nums[0]]), ?_, hend _ (List.getElem_mem hpos), by simp only; omega⟩
        dsimp only
        rw [t1', t2', hap]
        exact (meets_as [(9, some 4), (10, some 6), (11, some 8)] (by (repeat' apply And.intro) <;> first | rfl | exact True.intro | (intro hh; cases hh)))
    · have hkl : k = d.bs.length := by omega
      have hpT : p ∈ d.T := mem_T.2 ⟨by omega, fun i h1 h2 => hp i h1 h2⟩
      have hgw := getD_map iAV d.ws r hkw
      have e1 := k16 d d.tLo hok
      have e2 := k16 d d.tHi hok
      have e3 := k16 d p hok
      rw [decide_eq_true (isT_T.2 (tLo_T hh))] at e1
      rw [decide_eq_true (isT_T.2 (tHi_T hh))] at e2
      rw [decide_eq_true (isT_T.2 hpT)] at e3
      have e4 := k20 d d.ws[r] d.tLo hok (by omega) (fit_T hok (tLo_T hh))
      have e5 := k20 d d.ws[r] d.tHi hok (by omega) (fit_T hok (tHi_T hh))
      rw [by_lo hok] at e4
      rw [by_hi hok] at e5
      have q1 : d.tLo = d.tLo.take k := (List.take_of_length_le (by omega)).symm
      have q2 : d.tHi = d.tHi.take k := (List.take_of_length_le (by omega)).symm
      rw [q1] at e1 e4
      rw [q2] at e2 e5
      (conv => whnf); (repeat' (first | (refine bT ?_; conv => whnf) | (refine bF ?_; conv => whnf) | (refine bN ?_) | (refine bD (fun hh => ?_) (fun hh => ?_) <;> first | (exfalso; omega) | (conv => whnf)) | (refine bEq (fun hh => ?_) (fun hh => ?_) <;> first | (exfalso; omega) | (conv => whnf)) | (refine bNe (fun hh => ?_) (fun hh => ?_) <;> first | (exfalso; omega) | (conv => whnf)) | (refine (e1).lendq rfl (fun r (hr : r = _) => ?_); subst hr; refine ⟨rfl, ?_⟩; conv => whnf) | (refine (e2).lendq rfl (fun r (hr : r = _) => ?_); subst hr; refine ⟨rfl, ?_⟩; conv => whnf) | (refine (e3).lendq rfl (fun r (hr : r = _) => ?_); subst hr; refine ⟨rfl, ?_⟩; conv => whnf) | (refine wIn (by omega) ?_; conv => whnf) | (refine nI (by omega) ?_; conv => whnf)))
      refine iaI (by omega) (by omega) hgw ?_
      (conv => whnf); (repeat' (first | (refine bT ?_; conv => whnf) | (refine bF ?_; conv => whnf) | (refine bN ?_) | (refine bD (fun hh => ?_) (fun hh => ?_) <;> first | (exfalso; omega) | (conv => whnf)) | (refine bEq (fun hh => ?_) (fun hh => ?_) <;> first | (exfalso; omega) | (conv => whnf)) | (refine bNe (fun hh => ?_) (fun hh => ?_) <;> first | (exfalso; omega) | (conv => whnf)) | (refine (e4).lendq rfl (fun r (hr : r = _) => ?_); subst hr; refine ⟨rfl, ?_⟩; conv => whnf) | (refine wIn (by omega) ?_; conv => whnf) | (refine nI (by omega) ?_; conv => whnf)))
      refine iaI (by omega) (by omega) hgw ?_
      (conv => whnf); (repeat' (first | (refine bT ?_; conv => whnf) | (refine bF ?_; conv => whnf) | (refine bN ?_) | (refine bD (fun hh => ?_) (fun hh => ?_) <;> first | (exfalso; omega) | (conv => whnf)) | (refine bEq (fun hh => ?_) (fun hh => ?_) <;> first | (exfalso; omega) | (conv => whnf)) | (refine bNe (fun hh => ?_) (fun hh => ?_) <;> first | (exfalso; omega) | (conv => whnf)) | (refine (e5).lendq rfl (fun r (hr : r = _) => ?_); subst hr; refine ⟨rfl, ?_⟩; conv => whnf) | (refine (k17).callq rfl rfl (fun r (hr : r = _) => ?_); subst hr; conv => whnf) | (refine wIn (by omega) ?_; conv => whnf) | (refine nI (by omega) ?_; conv => whnf)))
      all_goals rfl

theorem k27o (d : Dome) (hs : d.small) : FnO Try.prog 27 [.agg d.cells] (fun r rows => r = .agg [.row 4, .row 8, .int .i64 d.loss, .row 10, .row 12, .int .i64 d.slope] ∧ rows = [(4, .row false 52 4 (d.bs.map Bolt.av)), (8, .row false 3 1 (d.gs.map iAV)), (10, .row false 36 2 (d.rs.map pairAV)), (12, .row false 3 1 (d.ws.map iAV))]) := by
  have l1 : (d.bs.map Bolt.av).length = d.bs.length := by simp
  have l2 : (d.gs.map iAV).length = d.gs.length := by simp
  have l3 : (d.rs.map pairAV).length = d.rs.length := by simp
  have l4 : (d.ws.map iAV).length = d.ws.length := by simp
  obtain ⟨c1, c2, c3, c4, c5⟩ := hs
  refine fnO 13 ok27 (by simp) ?_
  (conv => whnf); (repeat' (first | (refine bT ?_; conv => whnf) | (refine bF ?_; conv => whnf) | (refine bN ?_) | (refine bD (fun hh => ?_) (fun hh => ?_) <;> first | (exfalso; omega) | (conv => whnf)) | (refine bEq (fun hh => ?_) (fun hh => ?_) <;> first | (exfalso; omega) | (conv => whnf)) | (refine bNe (fun hh => ?_) (fun hh => ?_) <;> first | (exfalso; omega) | (conv => whnf)) | (refine wIn (by omega) ?_; conv => whnf) | (refine nI (by omega) ?_; conv => whnf)))
  refine apI (one_av Bolt.av 4 (fun x => ⟨rfl, rfl⟩) _) (by simp only [l1, List.length_nil]; omega) ?_
  (conv => whnf); (repeat' (first | (refine bT ?_; conv => whnf) | (refine bF ?_; conv => whnf) | (refine bN ?_) | (refine bD (fun hh => ?_) (fun hh => ?_) <;> first | (exfalso; omega) | (conv => whnf)) | (refine bEq (fun hh => ?_) (fun hh => ?_) <;> first | (exfalso; omega) | (conv => whnf)) | (refine bNe (fun hh => ?_) (fun hh => ?_) <;> first | (exfalso; omega) | (conv => whnf)) | (refine wIn (by omega) ?_; conv => whnf) | (refine nI (by omega) ?_; conv => whnf)))
  have e0 : ([] : List (List AV)) ++ d.bs.map Bolt.av = d.bs.map Bolt.av := rfl
  rw [e0]
  refine loop_i (α := Nat) (fun k => [(4, .int .i64 k), (3, .own 2 0), (2, .own 1 0), (1, .own 0 0)]) (fun k => [.box false d.cells, .box false [.nils, .nils, .int .i64 0, .nils, .nils, .int .i64 0], .box false [.row 4, .isl (d.gs.map iAV), .int .i64 d.loss, .isl (d.rs.map pairAV), .isl (d.ws.map iAV), .int .i64 d.slope], .fresh, .row false 52 4 (d.bs.map Bolt.av), .fresh, .fresh, .fresh, .fresh, .fresh, .fresh, .fresh, .fresh]) (fun k => k ≤ d.bs.length) (fun k => d.bs.length - k) 0 (meets_id (by (repeat' apply And.intro) <;> first | rfl | exact True.intro | (intro hh; cases hh))) (by omega) ?_
  intro k hk0
  conv => whnf
  refine bD (fun h4 => ?_) (fun h4 => ?_)
  · have hk : k < d.bs.length := by omega
    have hg := getD_map Bolt.av d.bs k hk
    have h60 := c5 _ (List.getElem_mem hk)
    have hset : (d.bs.map Bolt.av).set k (d.bs[k]).av = d.bs.map Bolt.av := by
      apply List.ext_getElem (by simp)
      intro n h1 h2
      rw [List.getElem_set]
      split
      · rename_i e; subst e; simp
      · rfl
    generalize d.bs[k] = b at *
    have l5 : (b.ss.map Strip.av).length = b.ss.length := by simp
    conv => whnf
    refine iaI (by omega) (by omega) hg ?_
    (conv => whnf); (repeat' (first | (refine bT ?_; conv => whnf) | (refine bF ?_; conv => whnf) | (refine bN ?_) | (refine bD (fun hh => ?_) (fun hh => ?_) <;> first | (exfalso; omega) | (conv => whnf)) | (refine bEq (fun hh => ?_) (fun hh => ?_) <;> first | (exfalso; omega) | (conv => whnf)) | (refine bNe (fun hh => ?_) (fun hh => ?_) <;> first | (exfalso; omega) | (conv => whnf)) | (refine wIn (by omega) ?_; conv => whnf) | (refine nI (by omega) ?_; conv => whnf)))
    refine apI (one_av Strip.av 3 (fun x => ⟨rfl, rfl⟩) _) (by simp only [l5, List.length_nil]; omega) ?_
    (conv => whnf); (repeat' (first | (refine bT ?_; conv => whnf) | (refine bF ?_; conv => whnf) | (refine bN ?_) | (refine bD (fun hh => ?_) (fun hh => ?_) <;> first | (exfalso; omega) | (conv => whnf)) | (refine bEq (fun hh => ?_) (fun hh => ?_) <;> first | (exfalso; omega) | (conv => whnf)) | (refine bNe (fun hh => ?_) (fun hh => ?_) <;> first | (exfalso; omega) | (conv => whnf)) | (refine wIn (by omega) ?_; conv => whnf) | (refine nI (by omega) ?_; conv => whnf)))
    refine iaI (by omega) (by omega) hg ?_
    (conv => whnf); (repeat' (first | (refine bT ?_; conv => whnf) | (refine bF ?_; conv => whnf) | (refine bN ?_) | (refine bD (fun hh => ?_) (fun hh => ?_) <;> first | (exfalso; omega) | (conv => whnf)) | (refine bEq (fun hh => ?_) (fun hh => ?_) <;> first | (exfalso; omega) | (conv => whnf)) | (refine bNe (fun hh => ?_) (fun hh => ?_) <;> first | (exfalso; omega) | (conv => whnf)) | (refine wIn (by omega) ?_; conv => whnf) | (refine nI (by omega) ?_; conv => whnf)))
    refine ⟨k + 1, ?_, by omega, by omega⟩
    have hset2 : (((d.bs.map Bolt.av).set k b.av).map id) = d.bs.map Bolt.av := by rw [hset]; simp
    have hset3 : (d.bs.map Bolt.av).set (k : Int).toNat [AV.int .i64 b.lo, AV.int .i64 b.hi, AV.isl ([] ++ b.ss.map Strip.av), AV.int .i64 b.wrong] = d.bs.map Bolt.av := by
      rw [Int.toNat_natCast, List.nil_append]; exact hset
    rw [hset3]
    exact (meets_id (by (repeat' apply And.intro) <;> first | rfl | exact True.intro | (intro hh; cases hh)))
  · (conv => whnf); (repeat' (first | (refine bT ?_; conv => whnf) | (refine bF ?_; conv => whnf) | (refine bN ?_) | (refine bD (fun hh => ?_) (fun hh => ?_) <;> first | (exfalso; omega) | (conv => whnf)) | (refine bEq (fun hh => ?_) (fun hh => ?_) <;> first | (exfalso; omega) | (conv => whnf)) | (refine bNe (fun hh => ?_) (fun hh => ?_) <;> first | (exfalso; omega) | (conv => whnf)) | (refine wIn (by omega) ?_; conv => whnf) | (refine nI (by omega) ?_; conv => whnf)))
    refine apI (one_iAV _) (by simp only [l2, List.length_nil]; omega) ?_
    (conv => whnf); (repeat' (first | (refine bT ?_; conv => whnf) | (refine bF ?_; conv => whnf) | (refine bN ?_) | (refine bD (fun hh => ?_) (fun hh => ?_) <;> first | (exfalso; omega) | (conv => whnf)) | (refine bEq (fun hh => ?_) (fun hh => ?_) <;> first | (exfalso; omega) | (conv => whnf)) | (refine bNe (fun hh => ?_) (fun hh => ?_) <;> first | (exfalso; omega) | (conv => whnf)) | (refine wIn (by omega) ?_; conv => whnf) | (refine nI (by omega) ?_; conv => whnf)))
    refine apI (one_av pairAV 2 (fun x => ⟨rfl, rfl⟩) _) (by simp only [l3, List.length_nil]; omega) ?_
    (conv => whnf); (repeat' (first | (refine bT ?_; conv => whnf) | (refine bF ?_; conv => whnf) | (refine bN ?_) | (refine bD (fun hh => ?_) (fun hh => ?_) <;> first | (exfalso; omega) | (conv => whnf)) | (refine bEq (fun hh => ?_) (fun hh => ?_) <;> first | (exfalso; omega) | (conv => whnf)) | (refine bNe (fun hh => ?_) (fun hh => ?_) <;> first | (exfalso; omega) | (conv => whnf)) | (refine wIn (by omega) ?_; conv => whnf) | (refine nI (by omega) ?_; conv => whnf)))
    refine apI (one_iAV _) (by simp only [l4, List.length_nil]; omega) ?_
    (conv => whnf); (repeat' (first | (refine bT ?_; conv => whnf) | (refine bF ?_; conv => whnf) | (refine bN ?_) | (refine bD (fun hh => ?_) (fun hh => ?_) <;> first | (exfalso; omega) | (conv => whnf)) | (refine bEq (fun hh => ?_) (fun hh => ?_) <;> first | (exfalso; omega) | (conv => whnf)) | (refine bNe (fun hh => ?_) (fun hh => ?_) <;> first | (exfalso; omega) | (conv => whnf)) | (refine wIn (by omega) ?_; conv => whnf) | (refine nI (by omega) ?_; conv => whnf)))
    all_goals exact ⟨rfl, rfl⟩
def Dome.to (d : Dome) (k : Nat) (w : Int) : Dome := { d with ws := d.ws.set k w }
theorem k25 (d : Dome) (hs : d.small) (k : Nat) (hk : k < d.ws.length) (w : Int) : FnO Try.prog 25 [.agg d.cells, .int .i64 k, .int .i64 w] (fun r rows => r = .agg [.row 2, .row 3, .int .i64 d.loss, .row 4, .row 5, .int .i64 d.slope] ∧ rows = [(2, .row false 52 4 (d.bs.map Bolt.av)), (3, .row false 3 1 (d.gs.map iAV)), (4, .row false 36 2 (d.rs.map pairAV)), (5, .row false 3 1 ((d.to k w).ws.map iAV))]) := by
  have l4 : (d.ws.map iAV).length = d.ws.length := by simp
  have hset : (d.ws.map iAV).set (k : Int).toNat [.int .i64 w] = (d.to k w).ws.map iAV := by
    rw [Int.toNat_natCast]
    simp [Dome.to, List.map_set, iAV]
  refine fnO 8 ok25 (by simp) ?_
  (conv => whnf); (repeat' (first | (refine bT ?_; conv => whnf) | (refine bF ?_; conv => whnf) | (refine bN ?_) | (refine bD (fun hh => ?_) (fun hh => ?_) <;> first | (exfalso; omega) | (conv => whnf)) | (refine bEq (fun hh => ?_) (fun hh => ?_) <;> first | (exfalso; omega) | (conv => whnf)) | (refine bNe (fun hh => ?_) (fun hh => ?_) <;> first | (exfalso; omega) | (conv => whnf)) | (refine (k27o d hs).callzq rfl rfl (fun r rows (hr : r = _ ∧ rows = _) => ?_); obtain ⟨hr1, hr2⟩ := hr; subst hr1; subst hr2; refine ⟨rfl, ?_⟩; conv => whnf) | (refine wIn (by omega) ?_; conv => whnf) | (refine nI (by omega) ?_; conv => whnf)))
  refine iaI (by omega) (by omega) (getD_map iAV d.ws k hk) ?_
  (conv => whnf); (repeat' (first | (refine bT ?_; conv => whnf) | (refine bF ?_; conv => whnf) | (refine bN ?_) | (refine bD (fun hh => ?_) (fun hh => ?_) <;> first | (exfalso; omega) | (conv => whnf)) | (refine bEq (fun hh => ?_) (fun hh => ?_) <;> first | (exfalso; omega) | (conv => whnf)) | (refine bNe (fun hh => ?_) (fun hh => ?_) <;> first | (exfalso; omega) | (conv => whnf)) | (refine wIn (by omega) ?_; conv => whnf) | (refine nI (by omega) ?_; conv => whnf)))
  rw [← hset]
  all_goals exact ⟨rfl, rfl⟩

theorem pulled_mono_n {n n' s : Int} (hn : 0 ≤ n) (hs : 0 ≤ s) (h : n ≤ n') : pulled n s ≤ pulled n' s := by
  unfold pulled
  have h1 : n * (1000 + s) ≤ n' * (1000 + s) := Int.mul_le_mul_of_nonneg_right h (by omega)
  have h0 : 0 ≤ n * (1000 + s) := Int.mul_nonneg hn (by omega)
  rw [Int.tdiv_eq_ediv_of_nonneg h0, Int.tdiv_eq_ediv_of_nonneg (by omega)]
  omega
theorem round_mono {o : Opn} (hok : o.ok) {w w' : Int} (h : 2 * o.d.loss ≤ w) (hw : w ≤ w') : (o.round w).1 ≤ (o.round w').1 ∧ (o.round w).2 ≤ (o.round w').2 := by
  have key : ∀ g ∈ o.d.gs, o.loG w g ≤ o.loG w' g ∧ o.hiG w g ≤ o.hiG w' g := fun g hg => by
    obtain ⟨l, h1, _, h2, h3, h4⟩ := Opn.row_get hok (hok.d.1.2.2.1 g hg)
    unfold Opn.loG Opn.hiG Opn.gore
    rw [h1]
    have a := get_in h4 (i := 0) (by omega)
    have b := get_in h4 (i := l.length - 1) (by omega)
    exact ⟨pulled_mono_n (by omega) a.1 (by omega), pulled_mono_n (by omega) b.1 (by omega)⟩
  exact ⟨sumF_mono fun g hg => (key g hg).1, sumF_mono fun g hg => (key g hg).2⟩
theorem cut_iff {o : Opn} (hok : o.ok) {s c : Int × Int} (h : o.cut s = some c) {w : Int} (hw : 2 * o.d.loss ≤ w ∧ w ≤ 2000) : o.sure s w = true ↔ c.1 ≤ w ∧ w ≤ c.2 := by
  obtain ⟨k1, k2, k3, k4, k5, k6⟩ := endsN_some h
  have hl := hok.d.1.2.2.2.1
  have hn : (o.nw : Int) = 2001 - 2 * o.d.loss := by unfold Opn.nw; omega
  constructor
  · intro hs
    have e : 2 * o.d.loss + ((w - 2 * o.d.loss).toNat : Int) = w := by omega
    have := k6 (w - 2 * o.d.loss).toNat (by omega) (by rw [e]; exact hs)
    rwa [e] at this
  · rintro ⟨h1, h2⟩
    have m1 := round_mono hok (w := c.1) (w' := w) k1 h1
    have m2 := round_mono hok (w := w) (w' := c.2) hw.1 h2
    unfold Opn.sure inS at k4 k5 ⊢
    simp only [Bool.and_eq_true, decide_eq_true_eq] at k4 k5 ⊢
    omega
theorem cut_none {o : Opn} (hok : o.ok) {s : Int × Int} (h : o.cut s = none) {w : Int} (hw : 2 * o.d.loss ≤ w ∧ w ≤ 2000) : o.sure s w = false := by
  have hl := hok.d.1.2.2.2.1
  have hn : (o.nw : Int) = 2001 - 2 * o.d.loss := by unfold Opn.nw; omega
  have e : 2 * o.d.loss + ((w - 2 * o.d.loss).toNat : Int) = w := by omega
  have := endsN_none h (w - 2 * o.d.loss).toNat (by omega)
  rwa [e] at this
theorem to_ok {d : Dome} (hok : d.ok) (k : Nat) {w : Int} (hw : 2 * d.loss ≤ w ∧ w ≤ 2000) : (d.to k w).ok := by
  obtain ⟨⟨h1, h2, h3, h4, h5, h6, h7, h8, h9⟩, hB⟩ := hok
  refine ⟨⟨h1, h2, h3, h4, h5, h6, ?_, ?_, h9⟩, hB⟩
  · simpa [Dome.to] using h7
  · intro x hx
    rcases List.mem_or_eq_of_mem_set hx with hx | rfl
    · exact h8 x hx
    · exact hw
theorem k5 (d : Dome) (i w : Int) : FnA Try.prog 5 [.agg d.cells, .int .i64 i, .int .i64 w] (· = .bool true) := by
  refine fnA 8 ok5 (by simp) ?_
  conv => whnf
  refine (k15 d i).callq rfl rfl (fun r hr => ?_); obtain ⟨b, rfl, hb⟩ := hr
  cases b with
  | false =>
    (conv => whnf); (repeat' (first | (refine bT ?_; conv => whnf) | (refine bF ?_; conv => whnf) | (refine bN ?_) | (refine bD (fun hh => ?_) (fun hh => ?_) <;> first | (exfalso; omega) | (conv => whnf)) | (refine bEq (fun hh => ?_) (fun hh => ?_) <;> first | (exfalso; omega) | (conv => whnf)) | (refine bNe (fun hh => ?_) (fun hh => ?_) <;> first | (exfalso; omega) | (conv => whnf)) | (refine (k17).callq rfl rfl (fun r (hr : r = _) => ?_); subst hr; conv => whnf) | (refine wIn (by omega) ?_; conv => whnf) | (refine nI (by omega) ?_; conv => whnf)))
    all_goals rfl
  | true =>
    obtain ⟨hs, hok, h0, h1⟩ := hb rfl
    obtain ⟨r, rfl⟩ := Int.eq_ofNat_of_zero_le h0
    have hr : r < d.rs.length := by omega
    have hrw : d.ws.length = d.rs.length := hok.1.2.2.2.2.2.2.1
    have hkw : r < d.ws.length := by omega
    have hl := hok.1.2.2.2.1
    by_cases hw : 2 * d.loss ≤ w ∧ w ≤ 2000
    case neg =>
      (conv => whnf); (repeat' (first | (refine bT ?_; conv => whnf) | (refine bF ?_; conv => whnf) | (refine bN ?_) | (refine bD (fun hh => ?_) (fun hh => ?_) <;> first | (exfalso; omega) | (conv => whnf)) | (refine bEq (fun hh => ?_) (fun hh => ?_) <;> first | (exfalso; omega) | (conv => whnf)) | (refine bNe (fun hh => ?_) (fun hh => ?_) <;> first | (exfalso; omega) | (conv => whnf)) | (refine (k17).callq rfl rfl (fun r (hr : r = _) => ?_); subst hr; conv => whnf) | (refine wIn (by omega) ?_; conv => whnf) | (refine nI (by omega) ?_; conv => whnf)))
      all_goals first | rfl | (exfalso; omega)
    have hok' := to_ok hok r hw
    have e25 := k25 d hs r hkw w
    by_cases hh : d.has = true
    case neg =>
      have e3 : (d.to r w).eR r = 3 := by
        unfold Dome.eR Dome.noR; rw [if_pos hok', if_pos (show 0 ≤ (r : Int) ∧ (r : Int) < (d.to r w).rs.length from ⟨h0, h1⟩), if_pos rfl, if_neg (show ¬ (d.to r w).has = true from hh)]
      have e4 : d.eR r = 3 := by
        unfold Dome.eR Dome.noR; rw [if_pos hok, if_pos (show 0 ≤ (r : Int) ∧ (r : Int) < d.rs.length from ⟨h0, h1⟩), if_pos rfl, if_neg hh]
      have e22 := k22_no (d.to r w) r (by rw [e3]; decide)
      have e26 := k26_no d r (by rw [e4]; decide)
      rw [e3] at e22
      rw [e4] at e26
      (conv => whnf); (repeat' (first | (refine bT ?_; conv => whnf) | (refine bF ?_; conv => whnf) | (refine bN ?_) | (refine bD (fun hh => ?_) (fun hh => ?_) <;> first | (exfalso; omega) | (conv => whnf)) | (refine bEq (fun hh => ?_) (fun hh => ?_) <;> first | (exfalso; omega) | (conv => whnf)) | (refine bNe (fun hh => ?_) (fun hh => ?_) <;> first | (exfalso; omega) | (conv => whnf)) | (refine (e25).callzq rfl rfl (fun r rows (hr : r = _ ∧ rows = _) => ?_); obtain ⟨hr1, hr2⟩ := hr; subst hr1; subst hr2; refine ⟨rfl, ?_⟩; conv => whnf) | (refine (e22).lendq rfl (fun r (hr : r = _) => ?_); subst hr; refine ⟨rfl, ?_⟩; conv => whnf) | (refine (e26).callq rfl rfl (fun r (hr : r = _) => ?_); subst hr; conv => whnf) | (refine (k17).callq rfl rfl (fun r (hr : r = _) => ?_); subst hr; conv => whnf) | (refine wIn (by omega) ?_; conv => whnf) | (refine nI (by omega) ?_; conv => whnf)))
      all_goals rfl
    have hD : d.eD = 0 := by unfold Dome.eD; rw [if_pos hok, hh]; rfl
    have hD' : (d.to r w).eD = 0 := by unfold Dome.eD; rw [if_pos hok', show (d.to r w).has = true from hh]; rfl
    have hR := eD_eR hD hr
    have hR' := eD_eR hD' (show r < (d.to r w).rs.length from hr)
    have hwk : (d.to r w).ws[r]'(by simpa [Dome.to] using hkw) = w := by simp [Dome.to]
    have e22 := k22 (d.to r w) r hR' hr (by simpa [Dome.to] using hkw)
    rw [hwk] at e22
    have ht : (d.to r w).opn.tv ((d.to r w).rs[r]'hr) w = 1 ↔ d.opn.sure d.rs[r] w = true := tv_one _ _ _
    have htn := tv_in (d.to r w).opn ((d.to r w).rs[r]'hr) w
    generalize (d.to r w).opn.tv ((d.to r w).rs[r]'hr) w = v at e22 ht htn
    have e26 := k26 d r hR hr
    cases hc : d.opn.cut d.rs[r] with
    | none =>
      rw [hc] at e26
      have h1 : v ≠ 1 := fun h => by have := ht.1 h; rw [cut_none (opn_ok hok hh) hc hw] at this; cases this
      have e26' : FnA Try.prog 26 [.agg d.cells, .int .i64 r] (· = .tup [.agg [.int .i64 0, .int .i64 0], .int .i64 3]) := e26
      (conv => whnf); (repeat' (first | (refine bT ?_; conv => whnf) | (refine bF ?_; conv => whnf) | (refine bN ?_) | (refine bD (fun hh => ?_) (fun hh => ?_) <;> first | (exfalso; omega) | (conv => whnf)) | (refine bEq (fun hh => ?_) (fun hh => ?_) <;> first | (exfalso; omega) | (conv => whnf)) | (refine bNe (fun hh => ?_) (fun hh => ?_) <;> first | (exfalso; omega) | (conv => whnf)) | (refine (e25).callzq rfl rfl (fun r rows (hr : r = _ ∧ rows = _) => ?_); obtain ⟨hr1, hr2⟩ := hr; subst hr1; subst hr2; refine ⟨rfl, ?_⟩; conv => whnf) | (refine (e22).lendq rfl (fun r (hr : r = _) => ?_); subst hr; refine ⟨rfl, ?_⟩; conv => whnf) | (refine (e26').callq rfl rfl (fun r (hr : r = _) => ?_); subst hr; conv => whnf) | (refine (k17).callq rfl rfl (fun r (hr : r = _) => ?_); subst hr; conv => whnf) | (refine wIn (by omega) ?_; conv => whnf) | (refine nI (by omega) ?_; conv => whnf)))
      all_goals rfl
    | some c =>
      rw [hc] at e26
      have hci := cut_in (opn_ok hok hh) hc
      have hcl : 2 * d.loss ≤ c.1 := hci.1
      have h1 : v = 1 ↔ c.1 ≤ w ∧ w ≤ c.2 := ht.trans (cut_iff (opn_ok hok hh) hc hw)
      have e26' : FnA Try.prog 26 [.agg d.cells, .int .i64 r] (· = .tup [.agg [.int .i64 c.1, .int .i64 c.2], .int .i64 0]) := e26
      have e24 := k24 c.1 c.2 w
      by_cases hv : v = 1
      · rw [decide_eq_true (h1.1 hv)] at e24
        subst hv
        (conv => whnf); (repeat' (first | (refine bT ?_; conv => whnf) | (refine bF ?_; conv => whnf) | (refine bN ?_) | (refine bD (fun hh => ?_) (fun hh => ?_) <;> first | (exfalso; omega) | (conv => whnf)) | (refine bEq (fun hh => ?_) (fun hh => ?_) <;> first | (exfalso; omega) | (conv => whnf)) | (refine bNe (fun hh => ?_) (fun hh => ?_) <;> first | (exfalso; omega) | (conv => whnf)) | (refine (e25).callzq rfl rfl (fun r rows (hr : r = _ ∧ rows = _) => ?_); obtain ⟨hr1, hr2⟩ := hr; subst hr1; subst hr2; refine ⟨rfl, ?_⟩; conv => whnf) | (refine (e22).lendq rfl (fun r (hr : r = _) => ?_); subst hr; refine ⟨rfl, ?_⟩; conv => whnf) | (refine (e26').callq rfl rfl (fun r (hr : r = _) => ?_); subst hr; conv => whnf) | (refine (e24).callq rfl rfl (fun r (hr : r = _) => ?_); subst hr; conv => whnf) | (refine (k17).callq rfl rfl (fun r (hr : r = _) => ?_); subst hr; conv => whnf) | (refine wIn (by omega) ?_; conv => whnf) | (refine nI (by omega) ?_; conv => whnf)))
        all_goals rfl
      · rw [decide_eq_false fun h => hv (h1.2 h)] at e24
        (conv => whnf); (repeat' (first | (refine bT ?_; conv => whnf) | (refine bF ?_; conv => whnf) | (refine bN ?_) | (refine bD (fun hh => ?_) (fun hh => ?_) <;> first | (exfalso; omega) | (conv => whnf)) | (refine bEq (fun hh => ?_) (fun hh => ?_) <;> first | (exfalso; omega) | (conv => whnf)) | (refine bNe (fun hh => ?_) (fun hh => ?_) <;> first | (exfalso; omega) | (conv => whnf)) | (refine (e25).callzq rfl rfl (fun r rows (hr : r = _ ∧ rows = _) => ?_); obtain ⟨hr1, hr2⟩ := hr; subst hr1; subst hr2; refine ⟨rfl, ?_⟩; conv => whnf) | (refine (e22).lendq rfl (fun r (hr : r = _) => ?_); subst hr; refine ⟨rfl, ?_⟩; conv => whnf) | (refine (e26').callq rfl rfl (fun r (hr : r = _) => ?_); subst hr; conv => whnf) | (refine (e24).callq rfl rfl (fun r (hr : r = _) => ?_); subst hr; conv => whnf) | (refine (k17).callq rfl rfl (fun r (hr : r = _) => ?_); subst hr; conv => whnf) | (refine wIn (by omega) ?_; conv => whnf) | (refine nI (by omega) ?_; conv => whnf)))
        all_goals (exfalso; rename_i hh; exact hh (by simpa using hv))
end Go.Proofs
