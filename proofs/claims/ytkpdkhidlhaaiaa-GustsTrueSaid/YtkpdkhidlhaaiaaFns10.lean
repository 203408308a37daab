/- What each function of this program answers, proved by walking its body: further contracts that the law rests on. -/
import Derived.Test.YtkpdkhidlhaaiaaFns9
set_option linter.unusedSimpArgs false
set_option linter.unusedVariables false
set_option linter.unusedSectionVars false
namespace Go.Proofs
open Go.Eng
attribute [local irreducible] Go.Eng.brB Go.Eng.need Go.Eng.wrE Go.Eng.iaE Go.Eng.slE Go.Eng.apE Go.Eng.CallZ Go.Eng.CallE Go.Eng.VCallE Go.Eng.YldE Go.Eng.GoC Go.Eng.MeetsE Go.Eng.FnA Go.Eng.FnV Go.Eng.ItA
set_option maxRecDepth 100000

theorem g33c (d : Dm) (l : List Gu) (hn : d.rs.length ≤ 1000) (hl : l.length ≤ 9223372036854775807) : FnA Try.prog 33 [.agg d.cells, .isl (l.map Gu.av)] (· = .bool (okCl d.rs.length l)) := by
  have hL : (l.map Gu.av).length = l.length := by simp
  refine fnA 1 ok33 (by simp) ?_
  conv => whnf
  refine loop_i (α := Nat) (fun k => [(5, .int .i64 k), (2, .own 0 0), (1, .isl (l.map Gu.av))]) (fun k => [.box false d.cells]) (fun k => k ≤ l.length ∧ ∀ g ∈ l.take k, okGu d.rs.length g = true) (fun k => l.length - k) 0 (meets_id (by (repeat' apply And.intro) <;> first | rfl | exact True.intro | (intro hh; cases hh))) ⟨by omega, by simp⟩ ?_
  rintro k ⟨hk1, hk2⟩
  conv => whnf
  refine bD (fun h3 => ?_) (fun h3 => ?_)
  · have hlt : k < l.length := by omega
    have ez : ∀ (h : ¬(l[k].ok d.rs.length)), okCl d.rs.length l = false := fun h => by
      unfold okCl
      rw [all_false (p := okGu d.rs.length) hlt (decide_eq_false h), Bool.and_false]
    unfold Gu.ok at ez
    (conv => whnf); (repeat' (first | (refine bT ?_; conv => whnf) | (refine bF ?_; conv => whnf) | (refine bN ?_) | (refine bD (fun hh => ?_) (fun hh => ?_) <;> first | (exfalso; omega) | (conv => whnf)) | (refine bEq (fun hh => ?_) (fun hh => ?_) <;> first | (exfalso; omega) | (conv => whnf)) | (refine bNe (fun hh => ?_) (fun hh => ?_) <;> first | (exfalso; omega) | (conv => whnf)) | (refine iaI (by omega) (by omega) (getD_map Gu.av l k hlt) ?_; conv => whnf) | (refine (g34 _ _ _).callq rfl rfl (fun r (hr : r = _) => ?_); subst hr; conv => whnf) | (refine (g23 d _ hn).callq rfl rfl (fun r (hr : r = _) => ?_); subst hr; conv => whnf) | (refine wIn (by omega) ?_; conv => whnf) | (refine nI (by omega) ?_; conv => whnf)))
    all_goals first
      | exact congrArg AV.bool (ez (by omega)).symm
      | (refine ⟨k + 1, ?_, ⟨by omega, gtake_all (p := okGu d.rs.length) hlt hk2 (decide_eq_true (by unfold Gu.ok; omega))⟩, by omega⟩
         simp only [Int.natCast_add, Int.natCast_one]
         exact (meets_id (by (repeat' apply And.intro) <;> first | rfl | exact True.intro | (intro hh; cases hh))))
  · have : k = l.length := by omega
    subst this
    rw [List.take_length] at hk2
    have e : okCl d.rs.length l = decide (((l.map Gu.av).length : Int) ≤ 20) := by
      unfold okCl; rw [List.all_eq_true.2 hk2, Bool.and_true, hL]; exact decide_eq_decide.2 (by omega)
    rw [e]
    (conv => whnf); (repeat' (first | (refine bT ?_; conv => whnf) | (refine bF ?_; conv => whnf) | (refine bN ?_) | (refine bD (fun hh => ?_) (fun hh => ?_) <;> first | (exfalso; omega) | (conv => whnf)) | (refine bEq (fun hh => ?_) (fun hh => ?_) <;> first | (exfalso; omega) | (conv => whnf)) | (refine bNe (fun hh => ?_) (fun hh => ?_) <;> first | (exfalso; omega) | (conv => whnf)) | (refine wIn (by omega) ?_; conv => whnf) | (refine nI (by omega) ?_; conv => whnf)))
    all_goals first | rfl | exact congrArg AV.bool (decide_eq_decide.2 (by omega)) | exact congrArg AV.bool (decide_eq_true (by omega)).symm | exact congrArg AV.bool (decide_eq_false (by omega)).symm
theorem g10c (d : Dm) (l : List Gu) (hl : l.length ≤ 9223372036854775807) : FnA Try.prog 10 [.agg d.cells, .isl (l.map Gu.av)] (· = .bool (d.rdy l)) := by
  by_cases hf : d.far
  · have c0 := g28 d
    rw [decide_eq_true hf] at c0
    refine fnA 1 ok10 (by simp) ?_
    unfold Dm.rdy
    rw [okB_far hf]
    (conv => whnf); (repeat' (first | (refine bT ?_; conv => whnf) | (refine bF ?_; conv => whnf) | (refine bN ?_) | (refine bD (fun hh => ?_) (fun hh => ?_) <;> first | (exfalso; omega) | (conv => whnf)) | (refine bEq (fun hh => ?_) (fun hh => ?_) <;> first | (exfalso; omega) | (conv => whnf)) | (refine bNe (fun hh => ?_) (fun hh => ?_) <;> first | (exfalso; omega) | (conv => whnf)) | (refine (c0).callq rfl rfl (fun r (hr : r = _) => ?_); subst hr; conv => whnf) | (refine wIn (by omega) ?_; conv => whnf) | (refine nI (by omega) ?_; conv => whnf)))
    all_goals rfl
  · have c0 := g28 d
    rw [decide_eq_false hf] at c0
    unfold Dm.far at hf
    have c1 := g29 d (by omega) (by omega) (by omega)
    have c2 := g33c d l (by omega) hl
    unfold Dm.err at c1
    refine fnA 1 ok10 (by simp) ?_
    unfold Dm.rdy
    cases hb : d.okB <;> rw [hb] at c1
    · rw [if_neg (by simp)] at c1
      (conv => whnf); (repeat' (first | (refine bT ?_; conv => whnf) | (refine bF ?_; conv => whnf) | (refine bN ?_) | (refine bD (fun hh => ?_) (fun hh => ?_) <;> first | (exfalso; omega) | (conv => whnf)) | (refine bEq (fun hh => ?_) (fun hh => ?_) <;> first | (exfalso; omega) | (conv => whnf)) | (refine bNe (fun hh => ?_) (fun hh => ?_) <;> first | (exfalso; omega) | (conv => whnf)) | (refine (c0).callq rfl rfl (fun r (hr : r = _) => ?_); subst hr; conv => whnf) | (refine (c1).callq rfl rfl (fun r (hr : r = _) => ?_); subst hr; conv => whnf) | (refine wIn (by omega) ?_; conv => whnf) | (refine nI (by omega) ?_; conv => whnf)))
      all_goals rfl
    · rw [if_pos rfl] at c1
      (conv => whnf); (repeat' (first | (refine bT ?_; conv => whnf) | (refine bF ?_; conv => whnf) | (refine bN ?_) | (refine bD (fun hh => ?_) (fun hh => ?_) <;> first | (exfalso; omega) | (conv => whnf)) | (refine bEq (fun hh => ?_) (fun hh => ?_) <;> first | (exfalso; omega) | (conv => whnf)) | (refine bNe (fun hh => ?_) (fun hh => ?_) <;> first | (exfalso; omega) | (conv => whnf)) | (refine (c0).callq rfl rfl (fun r (hr : r = _) => ?_); subst hr; conv => whnf) | (refine (c1).callq rfl rfl (fun r (hr : r = _) => ?_); subst hr; conv => whnf) | (refine (c2).callq rfl rfl (fun r (hr : r = _) => ?_); subst hr; conv => whnf) | (refine wIn (by omega) ?_; conv => whnf) | (refine nI (by omega) ?_; conv => whnf)))
      all_goals rfl

theorem bestc_get {d : Dm} {i : Nat} (hi : i < d.rs.length) : d.best.ss.getD i 0 = (d.rs.getD i (0, 0)).2 := by simp [Dm.best, List.getD_eq_getElem?_getD, hi]
theorem worstc_get {d : Dm} {i : Nat} (hi : i < d.rs.length) : d.worst.ss.getD i 0 = (d.rs.getD i (0, 0)).1 := by simp [Dm.worst, List.getD_eq_getElem?_getD, hi]
theorem firstc_ex {t : Tr} : ∀ (l : List Gu), t.stands l = true ∨ ∃ j, ∃ hj : j < l.length, (∀ k (hk : k < j), (t.weak l[k]).isEmpty = true) ∧ (t.weak l[j]).isEmpty = false
  | [] => .inl rfl
  | g :: l => by
    cases hg : (t.weak g).isEmpty with
    | false => exact .inr ⟨0, by simp, fun k hk => absurd hk (by omega), hg⟩
    | true =>
      rcases firstc_ex l with h | ⟨j, hj, h1, h2⟩
      · refine .inl ?_
        unfold Tr.stands at h ⊢
        rw [List.all_cons, hg, h]; rfl
      · refine .inr ⟨j + 1, by simpa using hj, fun k hk => ?_, h2⟩
        cases k with
        | zero => exact hg
        | succ k => exact h1 k (by omega)
theorem stands1_mono {t u : Tr} {g : Gu} (hle : Leq t u g g) (hs : (u.weak g).isEmpty = true) : (t.weak g).isEmpty = true := by
  have h1 : u.gone g = [] := weak_nil (by simpa using hs)
  have h2 : t.gone g = [] := List.eq_nil_iff_forall_not_mem.2 fun i hi => by
    have := gone_mono hle hi; rw [h1] at this; cases this
  rw [gone_nil.1 h2]; rfl
theorem standsc_mono {t u : Tr} {l : List Gu} (hle : ∀ g ∈ l, Leq t u g g) (hs : u.stands l = true) : t.stands l = true := by
  unfold Tr.stands at hs ⊢
  rw [List.all_eq_true] at hs ⊢
  exact fun g hg => stands1_mono (hle g hg) (hs g hg)
theorem leq_gen {t u : Tr} (ht : t.ok) (hL : t.L ≤ u.L) (hsh : t.sh = u.sh) (hlen : t.ss.length = u.ss.length) (hss : ∀ i, u.ss.getD i 0 ≤ t.ss.getD i 0) {g : Gu} (hg : g.ok t.ss.length) : Leq t u g g :=
  ⟨hlen, hss, fun j => (ld_bd ht hg j).1, fun j => ld_mono (t := t) (u := u) (F := g.F) (F' := g.F) (A := g.A) ht hsh hlen hL hg.1.1 (Int.le_refl _) j⟩
theorem twc_mono {t u : Tr} {g : Gu} (h : Leq t u g g) {i : Nat} (ht : t.tw g i = true) : u.tw g i = true := by
  have h1 := h.ss i
  have h2 := h.ld i
  unfold Tr.tw at ht ⊢
  simp only [decide_eq_true_eq] at ht ⊢
  omega
def Dm.tr (d : Dm) (a s : Int) (ss : List Int) : Tr := ⟨lf (rq (cosQ d.f.lo (a, s))), ss, d.sh⟩
theorem isT_facts {d : Dm} {a s : Int} {ss : List Int} (hb : d.okB = true) (h : d.isT a s ss) : Of d (d.tr a s ss) ∧ (∀ g : Gu, g.ok d.rs.length → Leq d.best (d.tr a s ss) g g ∧ Leq (d.tr a s ss) d.worst g g) ∧ (d.f.l0 ≤ (d.tr a s ss).L ∧ (d.tr a s ss).L ≤ d.f.l1) := by
  have hb' := okB_iff.1 hb
  have hl := l01_side hb'.1 h.2.2
  have hlb := l01_bd hb'.1
  have hlen := h.1
  have hbl := best_len d
  have hwl := worst_len d
  have hok : (d.tr a s ss).ok := by
    refine ⟨by show 0 ≤ lf _ ∧ lf _ ≤ 200; omega, by show 3 ≤ ss.length ∧ ss.length ≤ 10; omega, by show d.sh.length = ss.length; omega, hb'.2.2.2.2, fun x hx => ?_⟩
    obtain ⟨i, hi, rfl⟩ := List.mem_iff_getElem.1 hx
    have hi' : i < ss.length := hi
    have h1 := h.2.1 i (by omega)
    have h2 := rib_mem hb _ (List.getElem_mem (show i < d.rs.length by omega))
    unfold okRib at h2
    rw [List.getD_eq_getElem?_getD, List.getElem?_eq_getElem (show i < d.rs.length by omega), List.getD_eq_getElem?_getD, List.getElem?_eq_getElem hi'] at h1
    simp only [Option.getD_some] at h1
    show 0 ≤ ss[i] ∧ ss[i] ≤ 99999
    omega
  have hs1 : ∀ i, ss.getD i 0 ≤ d.best.ss.getD i 0 := fun i => by
    by_cases hi : i < d.rs.length
    · rw [bestc_get hi]; exact (h.2.1 i hi).2
    · rw [List.getD_eq_getElem?_getD, List.getElem?_eq_none (by omega), List.getD_eq_getElem?_getD, List.getElem?_eq_none (by omega)]; simp
  have hs2 : ∀ i, d.worst.ss.getD i 0 ≤ ss.getD i 0 := fun i => by
    by_cases hi : i < d.rs.length
    · rw [worstc_get hi]; exact (h.2.1 i hi).1
    · rw [List.getD_eq_getElem?_getD, List.getElem?_eq_none (by omega), List.getD_eq_getElem?_getD, List.getElem?_eq_none (by omega)]; simp
  exact ⟨⟨hok, hlen, rfl⟩, fun g hg => ⟨leq_gen (t := d.best) (u := d.tr a s ss) (best_ok hb) hl.1 rfl (hbl.trans hlen.symm) hs1 (by rw [hbl]; exact hg), leq_gen (t := d.tr a s ss) (u := d.worst) hok hl.2 rfl (hlen.trans hwl.symm) hs2 (by show g.ok ss.length; rw [hlen]; exact hg)⟩, hl⟩

set_option maxHeartbeats 8000000 in
theorem k3 (d : Dm) (l : List Gu) (a s G : Int) (ss : List Int) (hl : l.length ≤ 9223372036854775807) (hsl : ss.length ≤ 9223372036854775807) : FnA Try.prog 3 [.agg d.cells, .isl (l.map Gu.av), .agg [.int .i64 a, .int .i64 s, .isl (ss.map i1), .int .i64 G]] (· = .bool true) := by
  have c10 := g10c d l hl
  cases hr : d.rdy l with
  | false =>
    rw [hr] at c10
    refine fnA 10 ok3 (by simp) ?_
    (conv => whnf); (repeat' (first | (refine bT ?_; conv => whnf) | (refine bF ?_; conv => whnf) | (refine bN ?_) | (refine bD (fun hh => ?_) (fun hh => ?_) <;> first | (exfalso; omega) | (conv => whnf)) | (refine bEq (fun hh => ?_) (fun hh => ?_) <;> first | (exfalso; omega) | (conv => whnf)) | (refine bNe (fun hh => ?_) (fun hh => ?_) <;> first | (exfalso; omega) | (conv => whnf)) | (refine (c10).callq rfl rfl (fun r (hr : r = _) => ?_); subst hr; conv => whnf) | (refine (g12).callq rfl rfl (fun r (hr : r = _) => ?_); subst hr; conv => whnf) | (refine wIn (by omega) ?_; conv => whnf) | (refine nI (by omega) ?_; conv => whnf)))
    all_goals rfl
  | true =>
    rw [hr] at c10
    have he := rdy_iff.1 hr
    obtain ⟨hb, hcl⟩ := errC_ok he
    have hg := okCl_g hcl
    have hb' := okB_iff.1 hb
    have hn := hb'.2.1
    have hs := hb'.2.2.2.1
    have hL : (d.rs.map s2).length = d.rs.length := by simp
    have hLl : (l.map Gu.av).length = l.length := by simp
    have c11 := g11 d a s ss hb'.1 (by omega) hsl
    refine fnA 10 ok3 (by simp) ?_
    (conv => whnf); (repeat' (first | (refine bT ?_; conv => whnf) | (refine bF ?_; conv => whnf) | (refine bN ?_) | (refine bD (fun hh => ?_) (fun hh => ?_) <;> first | (exfalso; omega) | (conv => whnf)) | (refine bEq (fun hh => ?_) (fun hh => ?_) <;> first | (exfalso; omega) | (conv => whnf)) | (refine bNe (fun hh => ?_) (fun hh => ?_) <;> first | (exfalso; omega) | (conv => whnf)) | (refine (c10).callq rfl rfl (fun r (hr : r = _) => ?_); subst hr; conv => whnf) | (refine wIn (by omega) ?_; conv => whnf) | (refine nI (by omega) ?_; conv => whnf)))
    refine c11.callq rfl rfl (fun r ⟨b, hrb, hT⟩ => ?_); subst hrb
    cases b with
    | false =>
      (conv => whnf); (repeat' (first | (refine bT ?_; conv => whnf) | (refine bF ?_; conv => whnf) | (refine bN ?_) | (refine bD (fun hh => ?_) (fun hh => ?_) <;> first | (exfalso; omega) | (conv => whnf)) | (refine bEq (fun hh => ?_) (fun hh => ?_) <;> first | (exfalso; omega) | (conv => whnf)) | (refine bNe (fun hh => ?_) (fun hh => ?_) <;> first | (exfalso; omega) | (conv => whnf)) | (refine (g12).callq rfl rfl (fun r (hr : r = _) => ?_); subst hr; conv => whnf) | (refine wIn (by omega) ?_; conv => whnf) | (refine nI (by omega) ?_; conv => whnf)))
      all_goals rfl
    | true =>
      have hT := hT rfl
      obtain ⟨H, hleq, hLs⟩ := isT_facts hb hT
      by_cases hG : 0 ≤ G ∧ G < l.length
      · obtain ⟨q, rfl⟩ : ∃ q : Nat, G = q := ⟨G.toNat, by omega⟩
        have hq : q < l.length := by omega
        have hgq := hg.2 _ (List.getElem_mem hq)
        have hside := mem_sides.1 hT.2.2
        have hs0 := s0_ok hb'.1
        have hsa := hs0.1
        have hss := hs0.2.1
        unfold okSpan at hsa hss
        have c13 := g13 d a s hb'.1 (by simp only at hside; omega) (by simp only at hside; omega)
        change FnA Try.prog 13 [.agg d.cells, .agg [.int .i64 a, .int .i64 s]] (· = .int .i64 (d.tr a s ss).L) at c13
        have he1 : d.errC [l[q]] = 0 := errC_zero hb (okCl1 hgq)
        have c14 := g14 d (by omega) (by omega) hb
        have c15 := g15 d l[q] (by omega) (by omega) he1
        have c16 := g16 d l[q] (by omega) (by omega) he1
        have c17 := g17 d l (by omega) (by omega) he
        have c19 := g19 d (d.tr a s ss) l[q] H hgq
        have c22 := g22 d (d.tr a s ss) l H (by omega) hg.2
        have hbl := best_len d
        have hwl := worst_len d
        have hlen : (d.tr a s ss).ss.length = d.rs.length := H.len
        have n1' := gone_le d.best l[q]
        have n2' := gone_le d.worst l[q]
        have p1 : ((d.best.gone l[q]).map n1).length = (d.best.gone l[q]).length := by simp
        have p2 : ((d.worst.gone l[q]).map n1).length = (d.worst.gone l[q]).length := by simp
        have p3 : ((((List.range d.rs.length).map fun i => (d.best.ld l[q] (i : Nat), d.worst.ld l[q] (i : Nat))).map s2)).length = d.rs.length := by simp
        have p4 : (((d.tr a s ss).out l[q] (d.tr a s ss).ss.length).map i1).length = d.rs.length := by rw [List.length_map, out_len, hlen]
        obtain ⟨q1, q2⟩ := hleq l[q] hgq
        have hstB : d.best.stands l = false → (d.tr a s ss).stands l = false := fun hh => by
          rw [Bool.eq_false_iff] at hh ⊢; exact fun h2 => hh (standsc_mono (fun g hgl => (hleq g (hg.2 g hgl)).1) h2)
        rcases firstc_ex (t := d.worst) l with hst | ⟨j, hj, hj1, hj2⟩
        · have hst1 : d.st l = 1 := by unfold Dm.st; rw [if_pos hst]
          have htt := standsc_mono (fun g hgl => (hleq g (hg.2 g hgl)).2) hst
          rw [hst1] at c17
          rw [htt] at c22
          have c18 := g18n d l (by omega) (by omega) he (fun g hg' => by unfold Tr.stands at hst; exact List.all_eq_true.1 hst g hg')
          have hno : ∀ k, k < d.rs.length → (d.tr a s ss).tw l[q] k = true → False := fun k hkn hk => by
            have h1 := twc_mono q2 hk
            have h2 : k ∈ d.worst.weak l[q] := lst_mem.2 ⟨by rw [hwl]; exact hkn, h1⟩
            have h3 : (d.worst.weak l[q]).isEmpty = true := by unfold Tr.stands at hst; exact List.all_eq_true.1 hst _ (List.getElem_mem hq)
            rw [List.isEmpty_iff.1 h3] at h2; cases h2
          (conv => whnf); (repeat' (first | (refine bT ?_; conv => whnf) | (refine bF ?_; conv => whnf) | (refine bN ?_) | (refine bD (fun hh => ?_) (fun hh => ?_) <;> first | (exfalso; omega) | (conv => whnf)) | (refine bEq (fun hh => ?_) (fun hh => ?_) <;> first | (exfalso; omega) | (conv => whnf)) | (refine bNe (fun hh => ?_) (fun hh => ?_) <;> first | (exfalso; omega) | (conv => whnf)) | (refine iaI (by omega) (by omega) (getD_map Gu.av l q hq) ?_; conv => whnf) | (refine (c13).callq rfl rfl (fun r (hr : r = _) => ?_); subst hr; conv => whnf) | (refine (c14).callq rfl rfl (fun r (hr : r = _) => ?_); subst hr; conv => whnf) | (refine (c15).callzq rfl rfl (fun r rows (hr : r = _ ∧ rows = _) => ?_); obtain ⟨hr1, hr2⟩ := hr; subst hr1; subst hr2; refine ⟨rfl, ?_⟩; conv => whnf) | (refine (c16).callzq rfl rfl (fun r rows (hr : r = _ ∧ rows = _) => ?_); obtain ⟨hr1, hr2⟩ := hr; subst hr1; subst hr2; refine ⟨rfl, ?_⟩; conv => whnf) | (refine (c17).callq rfl rfl (fun r (hr : r = _) => ?_); subst hr; conv => whnf) | (refine (c18).callzq rfl rfl (fun r (hr : r = _) => ?_); subst hr; conv => whnf) | (refine (c19).callzq rfl rfl (fun r rows (hr : r = _ ∧ rows = _) => ?_); obtain ⟨hr1, hr2⟩ := hr; subst hr1; subst hr2; refine ⟨rfl, ?_⟩; conv => whnf) | (refine wIn (by omega) ?_; conv => whnf) | (refine nI (by omega) ?_; conv => whnf)))
          refine loop_i (α := Nat) (fun k => [(22, .int .i64 k), (21, .row 9), (20, .int .i64 3), (19, .isl []), (18, .int .i64 0), (16, .int .i64 1), (14, .row 7), (13, .row 6), (11, .row 5), (8, .own 3 0), (7, .own 2 0), (5, .own 1 0), (3, .own 0 0), (1, .isl (l.map Gu.av))]) (fun k => [.box false d.cells, .box false [.int .i64 a, .int .i64 s, .isl (ss.map i1), .int .i64 q], .box false l[q].av, .box false (d.tr a s ss).tc, .fresh, .row false 45 2 (((List.range d.rs.length).map fun i => (d.best.ld l[q] (i : Nat), d.worst.ld l[q] (i : Nat))).map s2), .row false 3 1 ((d.best.gone l[q]).map n1), .row false 3 1 ((d.worst.gone l[q]).map n1), .fresh, .row false 3 1 (((d.tr a s ss).out l[q] (d.tr a s ss).ss.length).map i1)]) (fun k => k ≤ d.rs.length) (fun k => d.rs.length - k) 0 (meets_id (by (repeat' apply And.intro) <;> first | rfl | exact True.intro | (intro hh; cases hh))) (by omega) ?_
          intro k hk
          conv => whnf
          refine bD (fun h3 => ?_) (fun h3 => ?_)
          · have hlt : k < d.rs.length := by omega
            obtain ⟨o, ho⟩ : ∃ o, ((d.tr a s ss).out l[q] (d.tr a s ss).ss.length).getD k 0 = o := ⟨_, rfl⟩
            have hktr : k < (d.tr a s ss).ss.length := by omega
            have hop := (out_pos (d.tr a s ss) l[q] hktr (d.tr a s ss).ss.length).1
            have hog := out_gone q2.ld0 hktr
            have ho1 := out_one (d.tr a s ss) l[q] hktr ((d.tr a s ss).ss.length - 1)
            rw [show (d.tr a s ss).ss.length - 1 + 1 = (d.tr a s ss).ss.length from by omega] at ho1
            rw [ho] at hop hog ho1
            have eo : (((d.tr a s ss).out l[q] (d.tr a s ss).ss.length).map i1).getD (k : Int).toNat [] = [.int .i64 o] := by
              rw [Int.toNat_natCast, getD_mapD i1 _ k 0 (by rw [out_len]; exact hktr), ho]; rfl
            have el : (((List.range d.rs.length).map fun i => (d.best.ld l[q] (i : Nat), d.worst.ld l[q] (i : Nat))).map s2).getD (k : Int).toNat [] = [.int .i64 (d.best.ld l[q] k), .int .i64 (d.worst.ld l[q] k)] := by
              rw [Int.toNat_natCast, List.map_map, List.getD_eq_getElem?_getD, List.getElem?_map, List.getElem?_range hlt]; rfl
            have c20 := g20 d (d.tr a s ss) l[q] k H hgq hlt
            have v1 := q1.ld k
            have v2 := q2.ld k
            have cS := g21 (d.best.gone l[q]) k (by omega)
            have cM := g21 (d.worst.gone l[q]) k (by omega)
            have fS : (d.best.gone l[q]).contains k = true → 1 ≤ o := fun hh => hog.2 (gone_mono q1 (by simpa using hh))
            have fM : (d.worst.gone l[q]).contains k = false → ¬ 1 ≤ o := fun hh h1 => by
              have := gone_mono q2 (hog.1 h1)
              rw [Bool.eq_false_iff] at hh; exact hh (by simpa using this)
            have fA : o ≠ 1 := fun h1 => hno k hlt (ho1.1 h1)
            cases hS : (d.best.gone l[q]).contains k <;> cases hM : (d.worst.gone l[q]).contains k
            all_goals
              rw [hS] at cS fS; rw [hM] at cM fM
              simp only [Bool.true_eq_false, Bool.false_eq_true, false_implies, forall_const, true_implies] at fS fM
              (conv => whnf); (repeat' (first | (refine bT ?_; conv => whnf) | (refine bF ?_; conv => whnf) | (refine bN ?_) | (refine bD (fun hh => ?_) (fun hh => ?_) <;> first | (exfalso; omega) | (conv => whnf)) | (refine bEq (fun hh => ?_) (fun hh => ?_) <;> first | (exfalso; omega) | (conv => whnf)) | (refine bNe (fun hh => ?_) (fun hh => ?_) <;> first | (exfalso; omega) | (conv => whnf)) | (refine (c20).callq rfl rfl (fun r (hr : r = _) => ?_); subst hr; conv => whnf) | (refine iaI (by omega) (by omega) eo ?_; conv => whnf) | (refine iaI (by omega) (by omega) el ?_; conv => whnf) | (refine (cS).lendq rfl (fun r (hr : r = _) => ?_); subst hr; refine ⟨rfl, ?_⟩; conv => whnf) | (refine (cM).lendq rfl (fun r (hr : r = _) => ?_); subst hr; refine ⟨rfl, ?_⟩; conv => whnf) | (refine wIn (by omega) ?_; conv => whnf) | (refine nI (by omega) ?_; conv => whnf)))
              all_goals (refine ⟨k + 1, ?_, by omega, by omega⟩; simp only [Int.natCast_add, Int.natCast_one]; exact (meets_id (by (repeat' apply And.intro) <;> first | rfl | exact True.intro | (intro hh; cases hh))))
          · have : k = d.rs.length := by omega
            subst this
            (conv => whnf); (repeat' (first | (refine bT ?_; conv => whnf) | (refine bF ?_; conv => whnf) | (refine bN ?_) | (refine bD (fun hh => ?_) (fun hh => ?_) <;> first | (exfalso; omega) | (conv => whnf)) | (refine bEq (fun hh => ?_) (fun hh => ?_) <;> first | (exfalso; omega) | (conv => whnf)) | (refine bNe (fun hh => ?_) (fun hh => ?_) <;> first | (exfalso; omega) | (conv => whnf)) | (refine (c22).callq rfl rfl (fun r (hr : r = _) => ?_); subst hr; conv => whnf) | (refine (g12).callq rfl rfl (fun r (hr : r = _) => ?_); subst hr; conv => whnf) | (refine wIn (by omega) ?_; conv => whnf) | (refine nI (by omega) ?_; conv => whnf)))
            all_goals rfl
        · have hns : d.worst.stands l = false := by
            rw [Bool.eq_false_iff]; intro hh
            unfold Tr.stands at hh
            have := List.all_eq_true.1 hh _ (List.getElem_mem hj)
            rw [hj2] at this; cases this
          have c18 := g18 d l j hj (by omega) (by omega) he hj1 hj2
          have hwj := weak_le d.worst l[j]
          have hyes : ∀ k, k < d.rs.length → (d.tr a s ss).tw l[q] k = true → j ≤ q ∧ (j = q → k ∈ d.worst.weak l[j]) := fun k hkn hk => by
            have h1 := twc_mono q2 hk
            have h2 : k ∈ d.worst.weak l[q] := lst_mem.2 ⟨by rw [hwl]; exact hkn, h1⟩
            refine ⟨Classical.byContradiction fun hjq => ?_, fun e => by subst e; exact h2⟩
            have h3 := hj1 q (by omega)
            rw [List.isEmpty_iff.1 h3] at h2; cases h2
          cases hbs : d.best.stands l with
          | false =>
            have hst1 : d.st l = 2 := by unfold Dm.st; rw [hns, hbs]; rfl
            rw [hst1] at c17
            rw [hstB hbs] at c22
            (conv => whnf); (repeat' (first | (refine bT ?_; conv => whnf) | (refine bF ?_; conv => whnf) | (refine bN ?_) | (refine bD (fun hh => ?_) (fun hh => ?_) <;> first | (exfalso; omega) | (conv => whnf)) | (refine bEq (fun hh => ?_) (fun hh => ?_) <;> first | (exfalso; omega) | (conv => whnf)) | (refine bNe (fun hh => ?_) (fun hh => ?_) <;> first | (exfalso; omega) | (conv => whnf)) | (refine iaI (by omega) (by omega) (getD_map Gu.av l q hq) ?_; conv => whnf) | (refine (c13).callq rfl rfl (fun r (hr : r = _) => ?_); subst hr; conv => whnf) | (refine (c14).callq rfl rfl (fun r (hr : r = _) => ?_); subst hr; conv => whnf) | (refine (c15).callzq rfl rfl (fun r rows (hr : r = _ ∧ rows = _) => ?_); obtain ⟨hr1, hr2⟩ := hr; subst hr1; subst hr2; refine ⟨rfl, ?_⟩; conv => whnf) | (refine (c16).callzq rfl rfl (fun r rows (hr : r = _ ∧ rows = _) => ?_); obtain ⟨hr1, hr2⟩ := hr; subst hr1; subst hr2; refine ⟨rfl, ?_⟩; conv => whnf) | (refine (c17).callq rfl rfl (fun r (hr : r = _) => ?_); subst hr; conv => whnf) | (refine (c18).callzq rfl rfl (fun r rows (hr : r = _ ∧ rows = _) => ?_); obtain ⟨hr1, hr2⟩ := hr; subst hr1; subst hr2; refine ⟨rfl, ?_⟩; conv => whnf) | (refine (c19).callzq rfl rfl (fun r rows (hr : r = _ ∧ rows = _) => ?_); obtain ⟨hr1, hr2⟩ := hr; subst hr1; subst hr2; refine ⟨rfl, ?_⟩; conv => whnf) | (refine wIn (by omega) ?_; conv => whnf) | (refine nI (by omega) ?_; conv => whnf)))
            refine loop_i (α := Nat) (fun k => [(22, .int .i64 k), (21, .row 9), (20, .int .i64 0), (19, .row 8), (18, .int .i64 j), (16, .int .i64 2), (14, .row 7), (13, .row 6), (11, .row 5), (8, .own 3 0), (7, .own 2 0), (5, .own 1 0), (3, .own 0 0), (1, .isl (l.map Gu.av))]) (fun k => [.box false d.cells, .box false [.int .i64 a, .int .i64 s, .isl (ss.map i1), .int .i64 q], .box false l[q].av, .box false (d.tr a s ss).tc, .fresh, .row false 45 2 (((List.range d.rs.length).map fun i => (d.best.ld l[q] (i : Nat), d.worst.ld l[q] (i : Nat))).map s2), .row false 3 1 ((d.best.gone l[q]).map n1), .row false 3 1 ((d.worst.gone l[q]).map n1), .row false 3 1 ((d.worst.weak l[j]).map n1), .row false 3 1 (((d.tr a s ss).out l[q] (d.tr a s ss).ss.length).map i1)]) (fun k => k ≤ d.rs.length) (fun k => d.rs.length - k) 0 (meets_id (by (repeat' apply And.intro) <;> first | rfl | exact True.intro | (intro hh; cases hh))) (by omega) ?_
            intro k hk
            conv => whnf
            refine bD (fun h3 => ?_) (fun h3 => ?_)
            · have hlt : k < d.rs.length := by omega
              obtain ⟨o, ho⟩ : ∃ o, ((d.tr a s ss).out l[q] (d.tr a s ss).ss.length).getD k 0 = o := ⟨_, rfl⟩
              have hktr : k < (d.tr a s ss).ss.length := by omega
              have hop := (out_pos (d.tr a s ss) l[q] hktr (d.tr a s ss).ss.length).1
              have hog := out_gone q2.ld0 hktr
              have ho1 := out_one (d.tr a s ss) l[q] hktr ((d.tr a s ss).ss.length - 1)
              rw [show (d.tr a s ss).ss.length - 1 + 1 = (d.tr a s ss).ss.length from by omega] at ho1
              rw [ho] at hop hog ho1
              have eo : (((d.tr a s ss).out l[q] (d.tr a s ss).ss.length).map i1).getD (k : Int).toNat [] = [.int .i64 o] := by
                rw [Int.toNat_natCast, getD_mapD i1 _ k 0 (by rw [out_len]; exact hktr), ho]; rfl
              have el : (((List.range d.rs.length).map fun i => (d.best.ld l[q] (i : Nat), d.worst.ld l[q] (i : Nat))).map s2).getD (k : Int).toNat [] = [.int .i64 (d.best.ld l[q] k), .int .i64 (d.worst.ld l[q] k)] := by
                rw [Int.toNat_natCast, List.map_map, List.getD_eq_getElem?_getD, List.getElem?_map, List.getElem?_range hlt]; rfl
              have c20 := g20 d (d.tr a s ss) l[q] k H hgq hlt
              have v1 := q1.ld k
              have v2 := q2.ld k
              have cS := g21 (d.best.gone l[q]) k (by omega)
              have cM := g21 (d.worst.gone l[q]) k (by omega)
              have fS : (d.best.gone l[q]).contains k = true → 1 ≤ o := fun hh => hog.2 (gone_mono q1 (by simpa using hh))
              have fM : (d.worst.gone l[q]).contains k = false → ¬ 1 ≤ o := fun hh h1 => by
                have := gone_mono q2 (hog.1 h1)
                rw [Bool.eq_false_iff] at hh; exact hh (by simpa using this)
              have cF := g21 (d.worst.weak l[j]) k (by omega)
              have fF : (d.worst.weak l[j]).contains k = false → o = 1 → j < q := fun hh h1 => by
                obtain ⟨y1, y2⟩ := hyes k hlt (ho1.1 h1)
                rw [Bool.eq_false_iff] at hh
                by_cases e : j = q
                · exact absurd (by simpa using y2 e) hh
                · omega
              have fF2 : o = 1 → j ≤ q := fun h1 => (hyes k hlt (ho1.1 h1)).1
              cases hS : (d.best.gone l[q]).contains k <;> cases hM : (d.worst.gone l[q]).contains k <;> cases hF : (d.worst.weak l[j]).contains k
              all_goals
                rw [hS] at cS fS; rw [hM] at cM fM; rw [hF] at cF fF
                simp only [Bool.true_eq_false, Bool.false_eq_true, false_implies, forall_const, true_implies] at fS fM fF
                (conv => whnf); (repeat' (first | (refine bT ?_; conv => whnf) | (refine bF ?_; conv => whnf) | (refine bN ?_) | (refine bD (fun hh => ?_) (fun hh => ?_) <;> first | (exfalso; omega) | (conv => whnf)) | (refine bEq (fun hh => ?_) (fun hh => ?_) <;> first | (exfalso; omega) | (conv => whnf)) | (refine bNe (fun hh => ?_) (fun hh => ?_) <;> first | (exfalso; omega) | (conv => whnf)) | (refine (c20).callq rfl rfl (fun r (hr : r = _) => ?_); subst hr; conv => whnf) | (refine iaI (by omega) (by omega) eo ?_; conv => whnf) | (refine iaI (by omega) (by omega) el ?_; conv => whnf) | (refine (cS).lendq rfl (fun r (hr : r = _) => ?_); subst hr; refine ⟨rfl, ?_⟩; conv => whnf) | (refine (cM).lendq rfl (fun r (hr : r = _) => ?_); subst hr; refine ⟨rfl, ?_⟩; conv => whnf) | (refine (cF).lendq rfl (fun r (hr : r = _) => ?_); subst hr; refine ⟨rfl, ?_⟩; conv => whnf) | (refine wIn (by omega) ?_; conv => whnf) | (refine nI (by omega) ?_; conv => whnf)))
                all_goals (refine ⟨k + 1, ?_, by omega, by omega⟩; simp only [Int.natCast_add, Int.natCast_one]; exact (meets_id (by (repeat' apply And.intro) <;> first | rfl | exact True.intro | (intro hh; cases hh))))
            · have : k = d.rs.length := by omega
              subst this
              (conv => whnf); (repeat' (first | (refine bT ?_; conv => whnf) | (refine bF ?_; conv => whnf) | (refine bN ?_) | (refine bD (fun hh => ?_) (fun hh => ?_) <;> first | (exfalso; omega) | (conv => whnf)) | (refine bEq (fun hh => ?_) (fun hh => ?_) <;> first | (exfalso; omega) | (conv => whnf)) | (refine bNe (fun hh => ?_) (fun hh => ?_) <;> first | (exfalso; omega) | (conv => whnf)) | (refine (c22).callq rfl rfl (fun r (hr : r = _) => ?_); subst hr; conv => whnf) | (refine (g12).callq rfl rfl (fun r (hr : r = _) => ?_); subst hr; conv => whnf) | (refine wIn (by omega) ?_; conv => whnf) | (refine nI (by omega) ?_; conv => whnf)))
              all_goals rfl
          | true =>
            have hst1 : d.st l = 3 := by unfold Dm.st; rw [hns, hbs]; rfl
            rw [hst1] at c17
            (conv => whnf); (repeat' (first | (refine bT ?_; conv => whnf) | (refine bF ?_; conv => whnf) | (refine bN ?_) | (refine bD (fun hh => ?_) (fun hh => ?_) <;> first | (exfalso; omega) | (conv => whnf)) | (refine bEq (fun hh => ?_) (fun hh => ?_) <;> first | (exfalso; omega) | (conv => whnf)) | (refine bNe (fun hh => ?_) (fun hh => ?_) <;> first | (exfalso; omega) | (conv => whnf)) | (refine iaI (by omega) (by omega) (getD_map Gu.av l q hq) ?_; conv => whnf) | (refine (c13).callq rfl rfl (fun r (hr : r = _) => ?_); subst hr; conv => whnf) | (refine (c14).callq rfl rfl (fun r (hr : r = _) => ?_); subst hr; conv => whnf) | (refine (c15).callzq rfl rfl (fun r rows (hr : r = _ ∧ rows = _) => ?_); obtain ⟨hr1, hr2⟩ := hr; subst hr1; subst hr2; refine ⟨rfl, ?_⟩; conv => whnf) | (refine (c16).callzq rfl rfl (fun r rows (hr : r = _ ∧ rows = _) => ?_); obtain ⟨hr1, hr2⟩ := hr; subst hr1; subst hr2; refine ⟨rfl, ?_⟩; conv => whnf) | (refine (c17).callq rfl rfl (fun r (hr : r = _) => ?_); subst hr; conv => whnf) | (refine (c18).callzq rfl rfl (fun r rows (hr : r = _ ∧ rows = _) => ?_); obtain ⟨hr1, hr2⟩ := hr; subst hr1; subst hr2; refine ⟨rfl, ?_⟩; conv => whnf) | (refine (c19).callzq rfl rfl (fun r rows (hr : r = _ ∧ rows = _) => ?_); obtain ⟨hr1, hr2⟩ := hr; subst hr1; subst hr2; refine ⟨rfl, ?_⟩; conv => whnf) | (refine wIn (by omega) ?_; conv => whnf) | (refine nI (by omega) ?_; conv => whnf)))
            refine loop_i (α := Nat) (fun k => [(22, .int .i64 k), (21, .row 9), (20, .int .i64 0), (19, .row 8), (18, .int .i64 j), (16, .int .i64 3), (14, .row 7), (13, .row 6), (11, .row 5), (8, .own 3 0), (7, .own 2 0), (5, .own 1 0), (3, .own 0 0), (1, .isl (l.map Gu.av))]) (fun k => [.box false d.cells, .box false [.int .i64 a, .int .i64 s, .isl (ss.map i1), .int .i64 q], .box false l[q].av, .box false (d.tr a s ss).tc, .fresh, .row false 45 2 (((List.range d.rs.length).map fun i => (d.best.ld l[q] (i : Nat), d.worst.ld l[q] (i : Nat))).map s2), .row false 3 1 ((d.best.gone l[q]).map n1), .row false 3 1 ((d.worst.gone l[q]).map n1), .row false 3 1 ((d.worst.weak l[j]).map n1), .row false 3 1 (((d.tr a s ss).out l[q] (d.tr a s ss).ss.length).map i1)]) (fun k => k ≤ d.rs.length) (fun k => d.rs.length - k) 0 (meets_id (by (repeat' apply And.intro) <;> first | rfl | exact True.intro | (intro hh; cases hh))) (by omega) ?_
            intro k hk
            conv => whnf
            refine bD (fun h3 => ?_) (fun h3 => ?_)
            · have hlt : k < d.rs.length := by omega
              obtain ⟨o, ho⟩ : ∃ o, ((d.tr a s ss).out l[q] (d.tr a s ss).ss.length).getD k 0 = o := ⟨_, rfl⟩
              have hktr : k < (d.tr a s ss).ss.length := by omega
              have hop := (out_pos (d.tr a s ss) l[q] hktr (d.tr a s ss).ss.length).1
              have hog := out_gone q2.ld0 hktr
              have ho1 := out_one (d.tr a s ss) l[q] hktr ((d.tr a s ss).ss.length - 1)
              rw [show (d.tr a s ss).ss.length - 1 + 1 = (d.tr a s ss).ss.length from by omega] at ho1
              rw [ho] at hop hog ho1
              have eo : (((d.tr a s ss).out l[q] (d.tr a s ss).ss.length).map i1).getD (k : Int).toNat [] = [.int .i64 o] := by
                rw [Int.toNat_natCast, getD_mapD i1 _ k 0 (by rw [out_len]; exact hktr), ho]; rfl
              have el : (((List.range d.rs.length).map fun i => (d.best.ld l[q] (i : Nat), d.worst.ld l[q] (i : Nat))).map s2).getD (k : Int).toNat [] = [.int .i64 (d.best.ld l[q] k), .int .i64 (d.worst.ld l[q] k)] := by
                rw [Int.toNat_natCast, List.map_map, List.getD_eq_getElem?_getD, List.getElem?_map, List.getElem?_range hlt]; rfl
              have c20 := g20 d (d.tr a s ss) l[q] k H hgq hlt
              have v1 := q1.ld k
              have v2 := q2.ld k
              have cS := g21 (d.best.gone l[q]) k (by omega)
              have cM := g21 (d.worst.gone l[q]) k (by omega)
              have fS : (d.best.gone l[q]).contains k = true → 1 ≤ o := fun hh => hog.2 (gone_mono q1 (by simpa using hh))
              have fM : (d.worst.gone l[q]).contains k = false → ¬ 1 ≤ o := fun hh h1 => by
                have := gone_mono q2 (hog.1 h1)
                rw [Bool.eq_false_iff] at hh; exact hh (by simpa using this)
              have cF := g21 (d.worst.weak l[j]) k (by omega)
              have fF : (d.worst.weak l[j]).contains k = false → o = 1 → j < q := fun hh h1 => by
                obtain ⟨y1, y2⟩ := hyes k hlt (ho1.1 h1)
                rw [Bool.eq_false_iff] at hh
                by_cases e : j = q
                · exact absurd (by simpa using y2 e) hh
                · omega
              have fF2 : o = 1 → j ≤ q := fun h1 => (hyes k hlt (ho1.1 h1)).1
              cases hS : (d.best.gone l[q]).contains k <;> cases hM : (d.worst.gone l[q]).contains k <;> cases hF : (d.worst.weak l[j]).contains k
              all_goals
                rw [hS] at cS fS; rw [hM] at cM fM; rw [hF] at cF fF
                simp only [Bool.true_eq_false, Bool.false_eq_true, false_implies, forall_const, true_implies] at fS fM fF
                (conv => whnf); (repeat' (first | (refine bT ?_; conv => whnf) | (refine bF ?_; conv => whnf) | (refine bN ?_) | (refine bD (fun hh => ?_) (fun hh => ?_) <;> first | (exfalso; omega) | (conv => whnf)) | (refine bEq (fun hh => ?_) (fun hh => ?_) <;> first | (exfalso; omega) | (conv => whnf)) | (refine bNe (fun hh => ?_) (fun hh => ?_) <;> first | (exfalso; omega) | (conv => whnf)) | (refine (c20).callq rfl rfl (fun r (hr : r = _) => ?_); subst hr; conv => whnf) | (refine iaI (by omega) (by omega) eo ?_; conv => whnf) | (refine iaI (by omega) (by omega) el ?_; conv => whnf) | (refine (cS).lendq rfl (fun r (hr : r = _) => ?_); subst hr; refine ⟨rfl, ?_⟩; conv => whnf) | (refine (cM).lendq rfl (fun r (hr : r = _) => ?_); subst hr; refine ⟨rfl, ?_⟩; conv => whnf) | (refine (cF).lendq rfl (fun r (hr : r = _) => ?_); subst hr; refine ⟨rfl, ?_⟩; conv => whnf) | (refine wIn (by omega) ?_; conv => whnf) | (refine nI (by omega) ?_; conv => whnf)))
                all_goals (refine ⟨k + 1, ?_, by omega, by omega⟩; simp only [Int.natCast_add, Int.natCast_one]; exact (meets_id (by (repeat' apply And.intro) <;> first | rfl | exact True.intro | (intro hh; cases hh))))
            · have : k = d.rs.length := by omega
              subst this
              (conv => whnf); (repeat' (first | (refine bT ?_; conv => whnf) | (refine bF ?_; conv => whnf) | (refine bN ?_) | (refine bD (fun hh => ?_) (fun hh => ?_) <;> first | (exfalso; omega) | (conv => whnf)) | (refine bEq (fun hh => ?_) (fun hh => ?_) <;> first | (exfalso; omega) | (conv => whnf)) | (refine bNe (fun hh => ?_) (fun hh => ?_) <;> first | (exfalso; omega) | (conv => whnf)) | (refine (c22).callq rfl rfl (fun r (hr : r = _) => ?_); subst hr; conv => whnf) | (refine (g12).callq rfl rfl (fun r (hr : r = _) => ?_); subst hr; conv => whnf) | (refine wIn (by omega) ?_; conv => whnf) | (refine nI (by omega) ?_; conv => whnf)))
              all_goals rfl
      · (conv => whnf); (repeat' (first | (refine bT ?_; conv => whnf) | (refine bF ?_; conv => whnf) | (refine bN ?_) | (refine bD (fun hh => ?_) (fun hh => ?_) <;> first | (exfalso; omega) | (conv => whnf)) | (refine bEq (fun hh => ?_) (fun hh => ?_) <;> first | (exfalso; omega) | (conv => whnf)) | (refine bNe (fun hh => ?_) (fun hh => ?_) <;> first | (exfalso; omega) | (conv => whnf)) | (refine (g12).callq rfl rfl (fun r (hr : r = _) => ?_); subst hr; conv => whnf) | (refine wIn (by omega) ?_; conv => whnf) | (refine nI (by omega) ?_; conv => whnf)))
        all_goals rfl
end Go.Proofs
