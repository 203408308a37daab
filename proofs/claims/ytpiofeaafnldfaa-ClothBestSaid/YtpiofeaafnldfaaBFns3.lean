/- What each function of this program answers, proved by walking its body: further contracts that the law rests on. -/
import Derived.Test.YtpiofeaafnldfaaBFns2
set_option linter.unusedSimpArgs false
set_option linter.unusedVariables false
set_option linter.unusedSectionVars false
namespace Go.Proofs
open Go.Eng
attribute [local irreducible] Go.Eng.brB Go.Eng.need Go.Eng.wrE Go.Eng.iaE Go.Eng.slE Go.Eng.apE Go.Eng.CallZ Go.Eng.CallE Go.Eng.VCallE Go.Eng.YldE Go.Eng.GoC Go.Eng.MeetsE Go.Eng.FnA Go.Eng.FnV Go.Eng.ItA
set_option maxRecDepth 100000

theorem k15 (d : Dome) (i : Int) : FnA Try.prog 15 [.agg d.cells, .int .i64 i] (fun r => ∃ b : Bool, r = .bool b ∧ (b = true → d.small ∧ d.ok ∧ 0 ≤ i ∧ i < d.rs.length)) := by
  have l3 : (d.rs.map pairAV).length = d.rs.length := by simp
  have e := k28 d
  refine fnA 1 ok15 (by simp) ?_
  conv => whnf
  refine (k33 d).callq rfl rfl (fun r hr => ?_); obtain ⟨b, rfl, hb⟩ := hr
  cases b with
  | true =>
    (conv => whnf); (repeat' (first | (refine bT ?_; conv => whnf) | (refine bF ?_; conv => whnf) | (refine bN ?_) | (refine bD (fun hh => ?_) (fun hh => ?_) <;> first | (exfalso; omega) | (conv => whnf)) | (refine bEq (fun hh => ?_) (fun hh => ?_) <;> first | (exfalso; omega) | (conv => whnf)) | (refine bNe (fun hh => ?_) (fun hh => ?_) <;> first | (exfalso; omega) | (conv => whnf)) | (refine wIn (by omega) ?_; conv => whnf) | (refine nI (by omega) ?_; conv => whnf)))
    all_goals exact ⟨false, rfl, by simp⟩
  | false =>
    have hs := hb rfl
    by_cases hok : d.ok
    · rw [show d.chk = 0 from by unfold Dome.chk; rw [if_pos hok.1, if_pos hok.2]] at e
      (conv => whnf); (repeat' (first | (refine bT ?_; conv => whnf) | (refine bF ?_; conv => whnf) | (refine bN ?_) | (refine bD (fun hh => ?_) (fun hh => ?_) <;> first | (exfalso; omega) | (conv => whnf)) | (refine bEq (fun hh => ?_) (fun hh => ?_) <;> first | (exfalso; omega) | (conv => whnf)) | (refine bNe (fun hh => ?_) (fun hh => ?_) <;> first | (exfalso; omega) | (conv => whnf)) | (refine (e).callq rfl rfl (fun r (hr : r = _) => ?_); subst hr; conv => whnf) | (refine wIn (by omega) ?_; conv => whnf) | (refine nI (by omega) ?_; conv => whnf)))
      all_goals first | exact ⟨false, rfl, by simp⟩ | exact ⟨true, rfl, fun _ => ⟨hs, hok, by omega, by omega⟩⟩ | exact ⟨_, rfl, fun h => ⟨hs, hok, by omega, by have := of_decide_eq_true h; omega⟩⟩
    · have h0 : d.chk ≠ 0 := by
        unfold Dome.chk
        by_cases h1 : d.ok1
        · rw [if_pos h1, if_neg fun h2 => hok ⟨h1, h2⟩]; decide
        · rw [if_neg h1]; decide
      (conv => whnf); (repeat' (first | (refine bT ?_; conv => whnf) | (refine bF ?_; conv => whnf) | (refine bN ?_) | (refine bD (fun hh => ?_) (fun hh => ?_) <;> first | (exfalso; omega) | (conv => whnf)) | (refine bEq (fun hh => ?_) (fun hh => ?_) <;> first | (exfalso; omega) | (conv => whnf)) | (refine bNe (fun hh => ?_) (fun hh => ?_) <;> first | (exfalso; omega) | (conv => whnf)) | (refine (e).callq rfl rfl (fun r (hr : r = _) => ?_); subst hr; conv => whnf) | (refine wIn (by omega) ?_; conv => whnf) | (refine nI (by omega) ?_; conv => whnf)))
      all_goals exact ⟨false, rfl, by simp⟩
theorem mem_nums {b : Bolt} {x : Int} : x ∈ b.nums ↔ b.can x = true := by
  constructor
  · exact fun h => (numsN_in b _ x h).1
  · intro h
    have h2 : b.lo ≤ x ∧ x ≤ b.hi := by
      unfold Bolt.can at h
      rw [Bool.and_eq_true] at h
      exact of_decide_eq_true h.1
    have hk : (x - b.lo).toNat < b.nt := by unfold Bolt.nt; omega
    have e : b.lo + ((x - b.lo).toNat : Int) = x := by omega
    have h3 := nums_at b hk (by rw [e]; exact h)
    have h4 := List.mem_of_getElem? h3
    rw [e] at h4
    obtain ⟨y, hy, he⟩ := List.mem_map.1 h4
    simp only [iAV, List.cons.injEq, AV.int.injEq, true_and, and_true] at he
    exact he ▸ hy
theorem isT_T {d : Dome} {t : List Int} : d.isT t ↔ t ∈ d.T := by
  rw [mem_T]
  exact and_congr_right fun _ => forall_congr' fun i => forall_congr' fun h1 => forall_congr' fun h2 => mem_nums.symm
theorem mem_loose {o : Opn} {k : Nat} (hk : k < o.d.rs.length) (hkw : k < o.d.ws.length) : (k : Int) ∈ o.loose ↔ o.sure o.d.rs[k] o.d.ws[k] = false := by
  unfold Opn.loose Opn.looseN
  simp only [List.mem_map, List.mem_filter, List.mem_range]
  have e1 : o.d.rs.getD k (0, 0) = o.d.rs[k] := by simp [List.getD_eq_getElem?_getD, hk]
  have e2 : o.d.ws.getD k 0 = o.d.ws[k] := by simp [List.getD_eq_getElem?_getD, hkw]
  constructor
  · rintro ⟨j, ⟨_, h⟩, hj⟩
    have : j = k := by omega
    subst this
    rw [e1, e2] at h
    simpa using h
  · intro h
    exact ⟨k, ⟨hk, by rw [e1, e2, h]; rfl⟩, rfl⟩

theorem k27o (d : Dome) (hs : d.small) : FnO Try.prog 27 [.agg d.cells] (fun r rows => r = .agg [.row 4, .row 8, .int .i64 d.loss, .row 10, .row 12, .int .i64 d.slope] ∧ rows = [(4, .row false 52 4 (d.bs.map Bolt.av)), (8, .row false 3 1 (d.gs.map iAV)), (10, .row false 36 2 (d.rs.map pairAV)), (12, .row false 3 1 (d.ws.map iAV))]) := by
  have l1 : (d.bs.map Bolt.av).length = d.bs.length := by simp
  have l2 : (d.gs.map iAV).length = d.gs.length := by simp
  have l3 : (d.rs.map pairAV).length = d.rs.length := by simp
  have l4 : (d.ws.map iAV).length = d.ws.length := by simp
  obtain ⟨c1, c2, c3, c4, c5⟩ := hs
  refine fnO 13 ok27 (by simp) ?_
  (conv => whnf); (repeat' (first | (refine bT ?_; conv => whnf) | (refine bF ?_; conv => whnf) | (refine bN ?_) | (refine bD (fun hh => ?_) (fun hh => ?_) <;> first | (exfalso; omega) | (conv => whnf)) | (refine bEq (fun hh => ?_) (fun hh => ?_) <;> first | (exfalso; omega) | (conv => whnf)) | (refine bNe (fun hh => ?_) (fun hh => ?_) <;> first | (exfalso; omega) | (conv => whnf)) | (refine wIn (by omega) ?_; conv => whnf) | (refine nI (by omega) ?_; conv => whnf)))
  refine apI (one_av Bolt.av 4 (fun x => ⟨rfl, rfl⟩) _) (by simp only [l1, List.length_nil]; omega) ?_
  (conv => whnf); (repeat' (first | (refine bT ?_; conv => whnf) | (refine bF ?_; conv => whnf) | (refine bN ?_) | (refine bD (fun hh => ?_) (fun hh => ?_) <;> first | (exfalso; omega) | (conv => whnf)) | (refine bEq (fun hh => ?_) (fun hh => ?_) <;> first | (exfalso; omega) | (conv => whnf)) | (refine bNe (fun hh => ?_) (fun hh => ?_) <;> first | (exfalso; omega) | (conv => whnf)) | (refine wIn (by omega) ?_; conv => whnf) | (refine nI (by omega) ?_; conv => whnf)))
  have e0 : ([] : List (List AV)) ++ d.bs.map Bolt.av = d.bs.map Bolt.av := rfl
  rw [e0]
  refine loop_i (α := Nat) (fun k => [(4, .int .i64 k), (3, .own 2 0), (2, .own 1 0), (1, .own 0 0)]) (fun k => [.box false d.cells, .box false [.nils, .nils, .int .i64 0, .nils, .nils, .int .i64 0], .box false [.row 4, .isl (d.gs.map iAV), .int .i64 d.loss, .isl (d.rs.map pairAV), .isl (d.ws.map iAV), .int .i64 d.slope], .fresh, .row false 52 4 (d.bs.map Bolt.av), .fresh, .fresh, .fresh, .fresh, .fresh, .fresh, .fresh, .fresh]) (fun k => k ≤ d.bs.length) (fun k => d.bs.length - k) 0 (meets_id (by (repeat' apply And.intro) <;> first | rfl | exact True.intro | (intro hh; cases hh))) (by omega) ?_
  intro k hk0
  conv => whnf
  refine bD (fun h4 => ?_) (fun h4 => ?_)
  · have hk : k < d.bs.length := by omega
    have hg := getD_map Bolt.av d.bs k hk
    have h60 := c5 _ (List.getElem_mem hk)
    have hset : (d.bs.map Bolt.av).set k (d.bs[k]).av = d.bs.map Bolt.av := by
      apply List.ext_getElem (by simp)
      intro n h1 h2
      rw [List.getElem_set]
      split
      · rename_i e; subst e; simp
      · rfl
    generalize d.bs[k] = b at *
    have l5 : (b.ss.map Strip.av).length = b.ss.length := by simp
    conv => whnf
    refine iaI (by omega) (by omega) hg ?_
    (conv => whnf); (repeat' (first | (refine bT ?_; conv => whnf) | (refine bF ?_; conv => whnf) | (refine bN ?_) | (refine bD (fun hh => ?_) (fun hh => ?_) <;> first | (exfalso; omega) | (conv => whnf)) | (refine bEq (fun hh => ?_) (fun hh => ?_) <;> first | (exfalso; omega) | (conv => whnf)) | (refine bNe (fun hh => ?_) (fun hh => ?_) <;> first | (exfalso; omega) | (conv => whnf)) | (refine wIn (by omega) ?_; conv => whnf) | (refine nI (by omega) ?_; conv => whnf)))
    refine apI (one_av Strip.av 3 (fun x => ⟨rfl, rfl⟩) _) (by simp only [l5, List.length_nil]; omega) ?_
    (conv => whnf); (repeat' (first | (refine bT ?_; conv => whnf) | (refine bF ?_; conv => whnf) | (refine bN ?_) | (refine bD (fun hh => ?_) (fun hh => ?_) <;> first | (exfalso; omega) | (conv => whnf)) | (refine bEq (fun hh => ?_) (fun hh => ?_) <;> first | (exfalso; omega) | (conv => whnf)) | (refine bNe (fun hh => ?_) (fun hh => ?_) <;> first | (exfalso; omega) | (conv => whnf)) | (refine wIn (by omega) ?_; conv => whnf) | (refine nI (by omega) ?_; conv => whnf)))
    refine iaI (by omega) (by omega) hg ?_
    (conv => whnf); (repeat' (first | (refine bT ?_; conv => whnf) | (refine bF ?_; conv => whnf) | (refine bN ?_) | (refine bD (fun hh => ?_) (fun hh => ?_) <;> first | (exfalso; omega) | (conv => whnf)) | (refine bEq (fun hh => ?_) (fun hh => ?_) <;> first | (exfalso; omega) | (conv => whnf)) | (refine bNe (fun hh => ?_) (fun hh => ?_) <;> first | (exfalso; omega) | (conv => whnf)) | (refine wIn (by omega) ?_; conv => whnf) | (refine nI (by omega) ?_; conv => whnf)))
    refine ⟨k + 1, ?_, by omega, by omega⟩
    have hset2 : (((d.bs.map Bolt.av).set k b.av).map id) = d.bs.map Bolt.av := by rw [hset]; simp
    have hset3 : (d.bs.map Bolt.av).set (k : Int).toNat [AV.int .i64 b.lo, AV.int .i64 b.hi, AV.isl ([] ++ b.ss.map Strip.av), AV.int .i64 b.wrong] = d.bs.map Bolt.av := by
      rw [Int.toNat_natCast, List.nil_append]; exact hset
    rw [hset3]
    exact (meets_id (by (repeat' apply And.intro) <;> first | rfl | exact True.intro | (intro hh; cases hh)))
  · (conv => whnf); (repeat' (first | (refine bT ?_; conv => whnf) | (refine bF ?_; conv => whnf) | (refine bN ?_) | (refine bD (fun hh => ?_) (fun hh => ?_) <;> first | (exfalso; omega) | (conv => whnf)) | (refine bEq (fun hh => ?_) (fun hh => ?_) <;> first | (exfalso; omega) | (conv => whnf)) | (refine bNe (fun hh => ?_) (fun hh => ?_) <;> first | (exfalso; omega) | (conv => whnf)) | (refine wIn (by omega) ?_; conv => whnf) | (refine nI (by omega) ?_; conv => whnf)))
    refine apI (one_iAV _) (by simp only [l2, List.length_nil]; omega) ?_
    (conv => whnf); (repeat' (first | (refine bT ?_; conv => whnf) | (refine bF ?_; conv => whnf) | (refine bN ?_) | (refine bD (fun hh => ?_) (fun hh => ?_) <;> first | (exfalso; omega) | (conv => whnf)) | (refine bEq (fun hh => ?_) (fun hh => ?_) <;> first | (exfalso; omega) | (conv => whnf)) | (refine bNe (fun hh => ?_) (fun hh => ?_) <;> first | (exfalso; omega) | (conv => whnf)) | (refine wIn (by omega) ?_; conv => whnf) | (refine nI (by omega) ?_; conv => whnf)))
    refine apI (one_av pairAV 2 (fun x => ⟨rfl, rfl⟩) _) (by simp only [l3, List.length_nil]; omega) ?_
    (conv => whnf); (repeat' (first | (refine bT ?_; conv => whnf) | (refine bF ?_; conv => whnf) | (refine bN ?_) | (refine bD (fun hh => ?_) (fun hh => ?_) <;> first | (exfalso; omega) | (conv => whnf)) | (refine bEq (fun hh => ?_) (fun hh => ?_) <;> first | (exfalso; omega) | (conv => whnf)) | (refine bNe (fun hh => ?_) (fun hh => ?_) <;> first | (exfalso; omega) | (conv => whnf)) | (refine wIn (by omega) ?_; conv => whnf) | (refine nI (by omega) ?_; conv => whnf)))
    refine apI (one_iAV _) (by simp only [l4, List.length_nil]; omega) ?_
    (conv => whnf); (repeat' (first | (refine bT ?_; conv => whnf) | (refine bF ?_; conv => whnf) | (refine bN ?_) | (refine bD (fun hh => ?_) (fun hh => ?_) <;> first | (exfalso; omega) | (conv => whnf)) | (refine bEq (fun hh => ?_) (fun hh => ?_) <;> first | (exfalso; omega) | (conv => whnf)) | (refine bNe (fun hh => ?_) (fun hh => ?_) <;> first | (exfalso; omega) | (conv => whnf)) | (refine wIn (by omega) ?_; conv => whnf) | (refine nI (by omega) ?_; conv => whnf)))
    all_goals exact ⟨rfl, rfl⟩
def Dome.to (d : Dome) (k : Nat) (w : Int) : Dome := { d with ws := d.ws.set k w }
theorem k25 (d : Dome) (hs : d.small) (k : Nat) (hk : k < d.ws.length) (w : Int) : FnO Try.prog 25 [.agg d.cells, .int .i64 k, .int .i64 w] (fun r rows => r = .agg [.row 2, .row 3, .int .i64 d.loss, .row 4, .row 5, .int .i64 d.slope] ∧ rows = [(2, .row false 52 4 (d.bs.map Bolt.av)), (3, .row false 3 1 (d.gs.map iAV)), (4, .row false 36 2 (d.rs.map pairAV)), (5, .row false 3 1 ((d.to k w).ws.map iAV))]) := by
  have l4 : (d.ws.map iAV).length = d.ws.length := by simp
  have hset : (d.ws.map iAV).set (k : Int).toNat [.int .i64 w] = (d.to k w).ws.map iAV := by
    rw [Int.toNat_natCast]
    simp [Dome.to, List.map_set, iAV]
  refine fnO 8 ok25 (by simp) ?_
  (conv => whnf); (repeat' (first | (refine bT ?_; conv => whnf) | (refine bF ?_; conv => whnf) | (refine bN ?_) | (refine bD (fun hh => ?_) (fun hh => ?_) <;> first | (exfalso; omega) | (conv => whnf)) | (refine bEq (fun hh => ?_) (fun hh => ?_) <;> first | (exfalso; omega) | (conv => whnf)) | (refine bNe (fun hh => ?_) (fun hh => ?_) <;> first | (exfalso; omega) | (conv => whnf)) | (refine (k27o d hs).callzq rfl rfl (fun r rows (hr : r = _ ∧ rows = _) => ?_); obtain ⟨hr1, hr2⟩ := hr; subst hr1; subst hr2; refine ⟨rfl, ?_⟩; conv => whnf) | (refine wIn (by omega) ?_; conv => whnf) | (refine nI (by omega) ?_; conv => whnf)))
  refine iaI (by omega) (by omega) (getD_map iAV d.ws k hk) ?_
  (conv => whnf); (repeat' (first | (refine bT ?_; conv => whnf) | (refine bF ?_; conv => whnf) | (refine bN ?_) | (refine bD (fun hh => ?_) (fun hh => ?_) <;> first | (exfalso; omega) | (conv => whnf)) | (refine bEq (fun hh => ?_) (fun hh => ?_) <;> first | (exfalso; omega) | (conv => whnf)) | (refine bNe (fun hh => ?_) (fun hh => ?_) <;> first | (exfalso; omega) | (conv => whnf)) | (refine wIn (by omega) ?_; conv => whnf) | (refine nI (by omega) ?_; conv => whnf)))
  rw [← hset]
  all_goals exact ⟨rfl, rfl⟩

theorem pulled_mono_n {n n' s : Int} (hn : 0 ≤ n) (hs : 0 ≤ s) (h : n ≤ n') : pulled n s ≤ pulled n' s := by
  unfold pulled
  have h1 : n * (1000 + s) ≤ n' * (1000 + s) := Int.mul_le_mul_of_nonneg_right h (by omega)
  have h0 : 0 ≤ n * (1000 + s) := Int.mul_nonneg hn (by omega)
  rw [Int.tdiv_eq_ediv_of_nonneg h0, Int.tdiv_eq_ediv_of_nonneg (by omega)]
  omega
theorem round_mono {o : Opn} (hok : o.ok) {w w' : Int} (h : 2 * o.d.loss ≤ w) (hw : w ≤ w') : (o.round w).1 ≤ (o.round w').1 ∧ (o.round w).2 ≤ (o.round w').2 := by
  have key : ∀ g ∈ o.d.gs, o.loG w g ≤ o.loG w' g ∧ o.hiG w g ≤ o.hiG w' g := fun g hg => by
    obtain ⟨l, h1, _, h2, h3, h4⟩ := Opn.row_get hok (hok.d.1.2.2.1 g hg)
    unfold Opn.loG Opn.hiG Opn.gore
    rw [h1]
    have a := get_in h4 (i := 0) (by omega)
    have b := get_in h4 (i := l.length - 1) (by omega)
    exact ⟨pulled_mono_n (by omega) a.1 (by omega), pulled_mono_n (by omega) b.1 (by omega)⟩
  exact ⟨sumF_mono fun g hg => (key g hg).1, sumF_mono fun g hg => (key g hg).2⟩
theorem cut_iff {o : Opn} (hok : o.ok) {s c : Int × Int} (h : o.cut s = some c) {w : Int} (hw : 2 * o.d.loss ≤ w ∧ w ≤ 2000) : o.sure s w = true ↔ c.1 ≤ w ∧ w ≤ c.2 := by
  obtain ⟨k1, k2, k3, k4, k5, k6⟩ := endsN_some h
  have hl := hok.d.1.2.2.2.1
  have hn : (o.nw : Int) = 2001 - 2 * o.d.loss := by unfold Opn.nw; omega
  constructor
  · intro hs
    have e : 2 * o.d.loss + ((w - 2 * o.d.loss).toNat : Int) = w := by omega
    have := k6 (w - 2 * o.d.loss).toNat (by omega) (by rw [e]; exact hs)
    rwa [e] at this
  · rintro ⟨h1, h2⟩
    have m1 := round_mono hok (w := c.1) (w' := w) k1 h1
    have m2 := round_mono hok (w := w) (w' := c.2) hw.1 h2
    unfold Opn.sure inS at k4 k5 ⊢
    simp only [Bool.and_eq_true, decide_eq_true_eq] at k4 k5 ⊢
    omega
theorem cut_none {o : Opn} (hok : o.ok) {s : Int × Int} (h : o.cut s = none) {w : Int} (hw : 2 * o.d.loss ≤ w ∧ w ≤ 2000) : o.sure s w = false := by
  have hl := hok.d.1.2.2.2.1
  have hn : (o.nw : Int) = 2001 - 2 * o.d.loss := by unfold Opn.nw; omega
  have e : 2 * o.d.loss + ((w - 2 * o.d.loss).toNat : Int) = w := by omega
  have := endsN_none h (w - 2 * o.d.loss).toNat (by omega)
  rwa [e] at this
theorem to_ok {d : Dome} (hok : d.ok) (k : Nat) {w : Int} (hw : 2 * d.loss ≤ w ∧ w ≤ 2000) : (d.to k w).ok := by
  obtain ⟨⟨h1, h2, h3, h4, h5, h6, h7, h8, h9⟩, hB⟩ := hok
  refine ⟨⟨h1, h2, h3, h4, h5, h6, ?_, ?_, h9⟩, hB⟩
  · simpa [Dome.to] using h7
  · intro x hx
    rcases List.mem_or_eq_of_mem_set hx with hx | rfl
    · exact h8 x hx
    · exact hw
theorem k5 (d : Dome) (i w : Int) : FnA Try.prog 5 [.agg d.cells, .int .i64 i, .int .i64 w] (· = .bool true) := by
  refine fnA 8 ok5 (by simp) ?_
  conv => whnf
  refine (k15 d i).callq rfl rfl (fun r hr => ?_); obtain ⟨b, rfl, hb⟩ := hr
  cases b with
  | false =>
    (conv => whnf); (repeat' (first | (refine bT ?_; conv => whnf) | (refine bF ?_; conv => whnf) | (refine bN ?_) | (refine bD (fun hh => ?_) (fun hh => ?_) <;> first | (exfalso; omega) | (conv => whnf)) | (refine bEq (fun hh => ?_) (fun hh => ?_) <;> first | (exfalso; omega) | (conv => whnf)) | (refine bNe (fun hh => ?_) (fun hh => ?_) <;> first | (exfalso; omega) | (conv => whnf)) | (refine (k17).callq rfl rfl (fun r (hr : r = _) => ?_); subst hr; conv => whnf) | (refine wIn (by omega) ?_; conv => whnf) | (refine nI (by omega) ?_; conv => whnf)))
    all_goals rfl
  | true =>
    obtain ⟨hs, hok, h0, h1⟩ := hb rfl
    obtain ⟨r, rfl⟩ := Int.eq_ofNat_of_zero_le h0
    have hr : r < d.rs.length := by omega
    have hrw : d.ws.length = d.rs.length := hok.1.2.2.2.2.2.2.1
    have hkw : r < d.ws.length := by omega
    have hl := hok.1.2.2.2.1
    by_cases hw : 2 * d.loss ≤ w ∧ w ≤ 2000
    case neg =>
      (conv => whnf); (repeat' (first | (refine bT ?_; conv => whnf) | (refine bF ?_; conv => whnf) | (refine bN ?_) | (refine bD (fun hh => ?_) (fun hh => ?_) <;> first | (exfalso; omega) | (conv => whnf)) | (refine bEq (fun hh => ?_) (fun hh => ?_) <;> first | (exfalso; omega) | (conv => whnf)) | (refine bNe (fun hh => ?_) (fun hh => ?_) <;> first | (exfalso; omega) | (conv => whnf)) | (refine (k17).callq rfl rfl (fun r (hr : r = _) => ?_); subst hr; conv => whnf) | (refine wIn (by omega) ?_; conv => whnf) | (refine nI (by omega) ?_; conv => whnf)))
      all_goals first | rfl | (exfalso; omega)
    have hok' := to_ok hok r hw
    have e25 := k25 d hs r hkw w
    by_cases hh : d.has = true
    case neg =>
      have e3 : (d.to r w).eR r = 3 := by
        unfold Dome.eR Dome.noR; rw [if_pos hok', if_pos (show 0 ≤ (r : Int) ∧ (r : Int) < (d.to r w).rs.length from ⟨h0, h1⟩), if_pos rfl, if_neg (show ¬ (d.to r w).has = true from hh)]
      have e4 : d.eR r = 3 := by
        unfold Dome.eR Dome.noR; rw [if_pos hok, if_pos (show 0 ≤ (r : Int) ∧ (r : Int) < d.rs.length from ⟨h0, h1⟩), if_pos rfl, if_neg hh]
      have e22 := k22_no (d.to r w) r (by rw [e3]; decide)
      have e26 := k26_no d r (by rw [e4]; decide)
      rw [e3] at e22
      rw [e4] at e26
      (conv => whnf); (repeat' (first | (refine bT ?_; conv => whnf) | (refine bF ?_; conv => whnf) | (refine bN ?_) | (refine bD (fun hh => ?_) (fun hh => ?_) <;> first | (exfalso; omega) | (conv => whnf)) | (refine bEq (fun hh => ?_) (fun hh => ?_) <;> first | (exfalso; omega) | (conv => whnf)) | (refine bNe (fun hh => ?_) (fun hh => ?_) <;> first | (exfalso; omega) | (conv => whnf)) | (refine (e25).callzq rfl rfl (fun r rows (hr : r = _ ∧ rows = _) => ?_); obtain ⟨hr1, hr2⟩ := hr; subst hr1; subst hr2; refine ⟨rfl, ?_⟩; conv => whnf) | (refine (e22).lendq rfl (fun r (hr : r = _) => ?_); subst hr; refine ⟨rfl, ?_⟩; conv => whnf) | (refine (e26).callq rfl rfl (fun r (hr : r = _) => ?_); subst hr; conv => whnf) | (refine (k17).callq rfl rfl (fun r (hr : r = _) => ?_); subst hr; conv => whnf) | (refine wIn (by omega) ?_; conv => whnf) | (refine nI (by omega) ?_; conv => whnf)))
      all_goals rfl
    have hD : d.eD = 0 := by unfold Dome.eD; rw [if_pos hok, hh]; rfl
    have hD' : (d.to r w).eD = 0 := by unfold Dome.eD; rw [if_pos hok', show (d.to r w).has = true from hh]; rfl
    have hR := eD_eR hD hr
    have hR' := eD_eR hD' (show r < (d.to r w).rs.length from hr)
    have hwk : (d.to r w).ws[r]'(by simpa [Dome.to] using hkw) = w := by simp [Dome.to]
    have e22 := k22 (d.to r w) r hR' hr (by simpa [Dome.to] using hkw)
    rw [hwk] at e22
    have ht : (d.to r w).opn.tv ((d.to r w).rs[r]'hr) w = 1 ↔ d.opn.sure d.rs[r] w = true := tv_one _ _ _
    have htn := tv_in (d.to r w).opn ((d.to r w).rs[r]'hr) w
    generalize (d.to r w).opn.tv ((d.to r w).rs[r]'hr) w = v at e22 ht htn
    have e26 := k26 d r hR hr
    cases hc : d.opn.cut d.rs[r] with
    | none =>
      rw [hc] at e26
      have h1 : v ≠ 1 := fun h => by have := ht.1 h; rw [cut_none (opn_ok hok hh) hc hw] at this; cases this
      have e26' : FnA Try.prog 26 [.agg d.cells, .int .i64 r] (· = .tup [.agg [.int .i64 0, .int .i64 0], .int .i64 3]) := e26
      (conv => whnf); (repeat' (first | (refine bT ?_; conv => whnf) | (refine bF ?_; conv => whnf) | (refine bN ?_) | (refine bD (fun hh => ?_) (fun hh => ?_) <;> first | (exfalso; omega) | (conv => whnf)) | (refine bEq (fun hh => ?_) (fun hh => ?_) <;> first | (exfalso; omega) | (conv => whnf)) | (refine bNe (fun hh => ?_) (fun hh => ?_) <;> first | (exfalso; omega) | (conv => whnf)) | (refine (e25).callzq rfl rfl (fun r rows (hr : r = _ ∧ rows = _) => ?_); obtain ⟨hr1, hr2⟩ := hr; subst hr1; subst hr2; refine ⟨rfl, ?_⟩; conv => whnf) | (refine (e22).lendq rfl (fun r (hr : r = _) => ?_); subst hr; refine ⟨rfl, ?_⟩; conv => whnf) | (refine (e26').callq rfl rfl (fun r (hr : r = _) => ?_); subst hr; conv => whnf) | (refine (k17).callq rfl rfl (fun r (hr : r = _) => ?_); subst hr; conv => whnf) | (refine wIn (by omega) ?_; conv => whnf) | (refine nI (by omega) ?_; conv => whnf)))
      all_goals rfl
    | some c =>
      rw [hc] at e26
      have hci := cut_in (opn_ok hok hh) hc
      have hcl : 2 * d.loss ≤ c.1 := hci.1
      have h1 : v = 1 ↔ c.1 ≤ w ∧ w ≤ c.2 := ht.trans (cut_iff (opn_ok hok hh) hc hw)
      have e26' : FnA Try.prog 26 [.agg d.cells, .int .i64 r] (· = .tup [.agg [.int .i64 c.1, .int .i64 c.2], .int .i64 0]) := e26
      have e24 := k24 c.1 c.2 w
      by_cases hv : v = 1
      · rw [decide_eq_true (h1.1 hv)] at e24
        subst hv
        (conv => whnf); (repeat' (first | (refine bT ?_; conv => whnf) | (refine bF ?_; conv => whnf) | (refine bN ?_) | (refine bD (fun hh => ?_) (fun hh => ?_) <;> first | (exfalso; omega) | (conv => whnf)) | (refine bEq (fun hh => ?_) (fun hh => ?_) <;> first | (exfalso; omega) | (conv => whnf)) | (refine bNe (fun hh => ?_) (fun hh => ?_) <;> first | (exfalso; omega) | (conv => whnf)) | (refine (e25).callzq rfl rfl (fun r rows (hr : r = _ ∧ rows = _) => ?_); obtain ⟨hr1, hr2⟩ := hr; subst hr1; subst hr2; refine ⟨rfl, ?_⟩; conv => whnf) | (refine (e22).lendq rfl (fun r (hr : r = _) => ?_); subst hr; refine ⟨rfl, ?_⟩; conv => whnf) | (refine (e26').callq rfl rfl (fun r (hr : r = _) => ?_); subst hr; conv => whnf) | (refine (e24).callq rfl rfl (fun r (hr : r = _) => ?_); subst hr; conv => whnf) | (refine (k17).callq rfl rfl (fun r (hr : r = _) => ?_); subst hr; conv => whnf) | (refine wIn (by omega) ?_; conv => whnf) | (refine nI (by omega) ?_; conv => whnf)))
        all_goals rfl
      · rw [decide_eq_false fun h => hv (h1.2 h)] at e24
        (conv => whnf); (repeat' (first | (refine bT ?_; conv => whnf) | (refine bF ?_; conv => whnf) | (refine bN ?_) | (refine bD (fun hh => ?_) (fun hh => ?_) <;> first | (exfalso; omega) | (conv => whnf)) | (refine bEq (fun hh => ?_) (fun hh => ?_) <;> first | (exfalso; omega) | (conv => whnf)) | (refine bNe (fun hh => ?_) (fun hh => ?_) <;> first | (exfalso; omega) | (conv => whnf)) | (refine (e25).callzq rfl rfl (fun r rows (hr : r = _ ∧ rows = _) => ?_); obtain ⟨hr1, hr2⟩ := hr; subst hr1; subst hr2; refine ⟨rfl, ?_⟩; conv => whnf) | (refine (e22).lendq rfl (fun r (hr : r = _) => ?_); subst hr; refine ⟨rfl, ?_⟩; conv => whnf) | (refine (e26').callq rfl rfl (fun r (hr : r = _) => ?_); subst hr; conv => whnf) | (refine (e24).callq rfl rfl (fun r (hr : r = _) => ?_); subst hr; conv => whnf) | (refine (k17).callq rfl rfl (fun r (hr : r = _) => ?_); subst hr; conv => whnf) | (refine wIn (by omega) ?_; conv => whnf) | (refine nI (by omega) ?_; conv => whnf)))
        all_goals (exfalso; rename_i hh; exact hh (by simpa using hv))
end Go.Proofs
