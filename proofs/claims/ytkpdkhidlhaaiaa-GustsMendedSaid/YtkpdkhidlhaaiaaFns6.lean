/- What each function of this program answers, proved by walking its body: further contracts that the law rests on. -/
import Derived.Test.YtkpdkhidlhaaiaaFns5
set_option linter.unusedSimpArgs false
set_option linter.unusedVariables false
set_option linter.unusedSectionVars false
namespace Go.Proofs
open Go.Eng
attribute [local irreducible] Go.Eng.brB Go.Eng.need Go.Eng.wrE Go.Eng.iaE Go.Eng.slE Go.Eng.apE Go.Eng.CallZ Go.Eng.CallE Go.Eng.VCallE Go.Eng.YldE Go.Eng.GoC Go.Eng.MeetsE Go.Eng.FnA Go.Eng.FnV Go.Eng.ItA
set_option maxRecDepth 100000

theorem leq_ss {t u : Tr} (ht : t.ok) (hL : t.L = u.L) (hsh : t.sh = u.sh) (hlen : t.ss.length = u.ss.length) (hss : ∀ i, u.ss.getD i 0 ≤ t.ss.getD i 0) {g : Gu} (hg : g.ok t.ss.length) : Leq t u g g :=
  ⟨hlen, hss, fun j => (ld_bd ht hg j).1, fun j => ld_mono (t := t) (u := u) (F := g.F) (F' := g.F) (A := g.A) ht hsh hlen (by omega) hg.1.1 (Int.le_refl _) j⟩
theorem standsl_mono {t u : Tr} {l : List Gu} (hle : ∀ g ∈ l, Leq t u g g) (hs : u.stands l = true) : t.stands l = true := by
  unfold Tr.stands at hs ⊢
  rw [List.all_eq_true] at hs ⊢
  intro g hg
  have := stands_mono (hle g hg) (by rw [stands1]; exact hs g hg)
  rwa [stands1] at this
structure Bet (d e : Dm) (l : List Gu) : Prop where
  b : ∀ g ∈ l, Leq d.best e.best g g
  w : ∀ g ∈ l, Leq e.worst d.worst g g
  m : ∀ g ∈ l, Leq e.best e.worst g g
theorem st_bet {d e : Dm} {l : List Gu} (h : Bet d e l) : d.st l = 3 ∨ d.st l = e.st l := by
  have h1 := standsl_mono h.b
  have h2 := standsl_mono h.w
  have h3 := standsl_mono h.m
  unfold Dm.st
  cases a : d.worst.stands l
  · cases b : d.best.stands l
    · cases c : e.best.stands l
      · cases f : e.worst.stands l
        · simp
        · rw [h3 f] at c; cases c
      · rw [h1 c] at b; cases b
    · simp
  · rw [h2 a]; simp
theorem tw_mono {t u : Tr} {g : Gu} (h : Leq t u g g) {i : Nat} (ht : t.tw g i = true) : u.tw g i = true := by
  have h1 := h.ss i
  have h2 := h.ld i
  unfold Tr.tw at ht ⊢
  simp only [decide_eq_true_eq] at ht ⊢
  omega
theorem wk_sub {d e : Dm} {l : List Gu} (hlen : e.rs.length = d.rs.length) (h : ∀ g ∈ l, Leq e.worst d.worst g g) : (e.wk l).all (d.wk l).contains = true := by
  refine all_contains fun i hi => ?_
  unfold Dm.wk at hi ⊢
  rw [lst_mem] at hi ⊢
  refine ⟨by omega, ?_⟩
  obtain ⟨g, hg, h2⟩ := List.any_eq_true.1 hi.2
  exact List.any_eq_true.2 ⟨g, hg, tw_mono (h g hg) h2⟩
theorem wk_le (d : Dm) (l : List Gu) : (d.wk l).length ≤ d.rs.length := lst_le _ _
theorem bet_put {d : Dm} {i : Nat} {lo hi lo' hi' : Int} {l : List Gu} (hb : d.okB = true) (hb2 : (d.put i (lo', hi')).okB = true) (hcl : okCl d.rs.length l = true) (hlt : i < d.rs.length) (hlo : (d.rs.getD i (0, 0)).1 = lo) (hhi : (d.rs.getD i (0, 0)).2 = hi) (h1 : lo ≤ lo') (h2 : hi' ≤ hi) : Bet d (d.put i (lo', hi')) l := by
  have hg := (okCl_g hcl).2
  have hl2 := put_len d i (lo', hi')
  refine ⟨fun g hgl => ?_, fun g hgl => ?_, fun g hgl => leq_bw hb2 (by rw [hl2]; exact hg g hgl)⟩
  · refine leq_ss (t := d.best) (u := (d.put i (lo', hi')).best) (best_ok hb) rfl rfl ((best_len d).trans (hl2.symm.trans (best_len _).symm)) (fun j => ?_) (by rw [best_len]; exact hg g hgl)
    rw [put_best]
    show (d.best.ss.set i hi').getD j 0 ≤ _
    rw [getD_set (by rw [best_len]; exact hlt)]
    split
    · rename_i e; subst e; rw [best_get hlt, hhi]; exact h2
    · exact Int.le_refl _
  · refine leq_ss (t := (d.put i (lo', hi')).worst) (u := d.worst) (worst_ok hb2) rfl rfl ((worst_len _).trans (hl2.trans (worst_len d).symm)) (fun j => ?_) (by rw [worst_len, hl2]; exact hg g hgl)
    rw [put_worst]
    show _ ≤ (d.worst.ss.set i lo').getD j 0
    rw [getD_set (by rw [worst_len]; exact hlt)]
    split
    · rename_i e; subst e; rw [worst_get hlt, hlo]; exact h1
    · exact Int.le_refl _
theorem g33b (d : Dm) (l : List Gu) (hn : d.rs.length ≤ 1000) (hl : l.length ≤ 9223372036854775807) : FnA Try.prog 33 [.agg d.cells, .isl (l.map Gu.av)] (· = .bool (okCl d.rs.length l)) := by
  have hL : (l.map Gu.av).length = l.length := by simp
  refine fnA 1 ok33 (by simp) ?_
  conv => whnf
  refine loop_i (α := Nat) (fun k => [(5, .int .i64 k), (2, .own 0 0), (1, .isl (l.map Gu.av))]) (fun k => [.box false d.cells]) (fun k => k ≤ l.length ∧ ∀ g ∈ l.take k, okGu d.rs.length g = true) (fun k => l.length - k) 0 (meets_id (by (repeat' apply And.intro) <;> first | rfl | exact True.intro | (intro hh; cases hh))) ⟨by omega, by simp⟩ ?_
  rintro k ⟨hk1, hk2⟩
  conv => whnf
  refine bD (fun h3 => ?_) (fun h3 => ?_)
  · have hlt : k < l.length := by omega
    have ez : ∀ (h : ¬(l[k].ok d.rs.length)), okCl d.rs.length l = false := fun h => by
      unfold okCl
      rw [all_false (p := okGu d.rs.length) hlt (decide_eq_false h), Bool.and_false]
    unfold Gu.ok at ez
    (conv => whnf); (repeat' (first | (refine bT ?_; conv => whnf) | (refine bF ?_; conv => whnf) | (refine bN ?_) | (refine bD (fun hh => ?_) (fun hh => ?_) <;> first | (exfalso; omega) | (conv => whnf)) | (refine bEq (fun hh => ?_) (fun hh => ?_) <;> first | (exfalso; omega) | (conv => whnf)) | (refine bNe (fun hh => ?_) (fun hh => ?_) <;> first | (exfalso; omega) | (conv => whnf)) | (refine iaI (by omega) (by omega) (getD_map Gu.av l k hlt) ?_; conv => whnf) | (refine (g34 _ _ _).callq rfl rfl (fun r (hr : r = _) => ?_); subst hr; conv => whnf) | (refine (g23 d _ hn).callq rfl rfl (fun r (hr : r = _) => ?_); subst hr; conv => whnf) | (refine wIn (by omega) ?_; conv => whnf) | (refine nI (by omega) ?_; conv => whnf)))
    all_goals first
      | exact congrArg AV.bool (ez (by omega)).symm
      | (refine ⟨k + 1, ?_, ⟨by omega, gtake_all (p := okGu d.rs.length) hlt hk2 (decide_eq_true (by unfold Gu.ok; omega))⟩, by omega⟩
         simp only [Int.natCast_add, Int.natCast_one]
         exact (meets_id (by (repeat' apply And.intro) <;> first | rfl | exact True.intro | (intro hh; cases hh))))
  · have : k = l.length := by omega
    subst this
    rw [List.take_length] at hk2
    have e : okCl d.rs.length l = decide (((l.map Gu.av).length : Int) ≤ 20) := by
      unfold okCl; rw [List.all_eq_true.2 hk2, Bool.and_true, hL]; exact decide_eq_decide.2 (by omega)
    rw [e]
    (conv => whnf); (repeat' (first | (refine bT ?_; conv => whnf) | (refine bF ?_; conv => whnf) | (refine bN ?_) | (refine bD (fun hh => ?_) (fun hh => ?_) <;> first | (exfalso; omega) | (conv => whnf)) | (refine bEq (fun hh => ?_) (fun hh => ?_) <;> first | (exfalso; omega) | (conv => whnf)) | (refine bNe (fun hh => ?_) (fun hh => ?_) <;> first | (exfalso; omega) | (conv => whnf)) | (refine wIn (by omega) ?_; conv => whnf) | (refine nI (by omega) ?_; conv => whnf)))
    all_goals first | rfl | exact congrArg AV.bool (decide_eq_decide.2 (by omega)) | exact congrArg AV.bool (decide_eq_true (by omega)).symm | exact congrArg AV.bool (decide_eq_false (by omega)).symm
theorem g10b (d : Dm) (l : List Gu) (hl : l.length ≤ 9223372036854775807) : FnA Try.prog 10 [.agg d.cells, .isl (l.map Gu.av)] (· = .bool (d.rdy l)) := by
  by_cases hf : d.far
  · have c0 := g28 d
    rw [decide_eq_true hf] at c0
    refine fnA 1 ok10 (by simp) ?_
    unfold Dm.rdy
    rw [okB_far hf]
    (conv => whnf); (repeat' (first | (refine bT ?_; conv => whnf) | (refine bF ?_; conv => whnf) | (refine bN ?_) | (refine bD (fun hh => ?_) (fun hh => ?_) <;> first | (exfalso; omega) | (conv => whnf)) | (refine bEq (fun hh => ?_) (fun hh => ?_) <;> first | (exfalso; omega) | (conv => whnf)) | (refine bNe (fun hh => ?_) (fun hh => ?_) <;> first | (exfalso; omega) | (conv => whnf)) | (refine (c0).callq rfl rfl (fun r (hr : r = _) => ?_); subst hr; conv => whnf) | (refine wIn (by omega) ?_; conv => whnf) | (refine nI (by omega) ?_; conv => whnf)))
    all_goals rfl
  · have c0 := g28 d
    rw [decide_eq_false hf] at c0
    unfold Dm.far at hf
    have c1 := g29 d (by omega) (by omega) (by omega)
    have c2 := g33b d l (by omega) hl
    unfold Dm.err at c1
    refine fnA 1 ok10 (by simp) ?_
    unfold Dm.rdy
    cases hb : d.okB <;> rw [hb] at c1
    · rw [if_neg (by simp)] at c1
      (conv => whnf); (repeat' (first | (refine bT ?_; conv => whnf) | (refine bF ?_; conv => whnf) | (refine bN ?_) | (refine bD (fun hh => ?_) (fun hh => ?_) <;> first | (exfalso; omega) | (conv => whnf)) | (refine bEq (fun hh => ?_) (fun hh => ?_) <;> first | (exfalso; omega) | (conv => whnf)) | (refine bNe (fun hh => ?_) (fun hh => ?_) <;> first | (exfalso; omega) | (conv => whnf)) | (refine (c0).callq rfl rfl (fun r (hr : r = _) => ?_); subst hr; conv => whnf) | (refine (c1).callq rfl rfl (fun r (hr : r = _) => ?_); subst hr; conv => whnf) | (refine wIn (by omega) ?_; conv => whnf) | (refine nI (by omega) ?_; conv => whnf)))
      all_goals rfl
    · rw [if_pos rfl] at c1
      (conv => whnf); (repeat' (first | (refine bT ?_; conv => whnf) | (refine bF ?_; conv => whnf) | (refine bN ?_) | (refine bD (fun hh => ?_) (fun hh => ?_) <;> first | (exfalso; omega) | (conv => whnf)) | (refine bEq (fun hh => ?_) (fun hh => ?_) <;> first | (exfalso; omega) | (conv => whnf)) | (refine bNe (fun hh => ?_) (fun hh => ?_) <;> first | (exfalso; omega) | (conv => whnf)) | (refine (c0).callq rfl rfl (fun r (hr : r = _) => ?_); subst hr; conv => whnf) | (refine (c1).callq rfl rfl (fun r (hr : r = _) => ?_); subst hr; conv => whnf) | (refine (c2).callq rfl rfl (fun r (hr : r = _) => ?_); subst hr; conv => whnf) | (refine wIn (by omega) ?_; conv => whnf) | (refine nI (by omega) ?_; conv => whnf)))
      all_goals rfl

def Dm.raw (d : Dm) (rows : List (List AV)) : List AV := [.isl (d.f.ss.map Sec.av), .int .i64 d.f.lo, .int .i64 d.f.hi, .int .i64 d.f.en, .int .i64 d.f.ed, .int .i64 d.f.rod, .int .i64 d.f.cs, .isl rows, .isl (d.sh.map i1)]
theorem put_cells (d : Dm) (i : Nat) (p : Int × Int) : (d.put i p).cells = d.raw ((d.rs.map s2).set ((i : Nat) : Int).toNat [.int .i64 p.1, .int .i64 p.2]) := by
  unfold Dm.raw Dm.cells Dm.put
  rw [Int.toNat_natCast]
  simp only [List.map_set]; rfl
set_option maxHeartbeats 4000000 in
theorem k5 (d : Dm) (l : List Gu) (R L H : Int) (hl : l.length ≤ 9223372036854775807) : FnA Try.prog 5 [.agg d.cells, .isl (l.map Gu.av), .agg [.int .i64 R, .int .i64 L, .int .i64 H]] (· = .bool true) := by
  have c10 := g10b d l hl
  cases hr : d.rdy l with
  | false =>
    rw [hr] at c10
    refine fnA 12 ok5 (by simp) ?_
    (conv => whnf); (repeat' (first | (refine bT ?_; conv => whnf) | (refine bF ?_; conv => whnf) | (refine bN ?_) | (refine bD (fun hh => ?_) (fun hh => ?_) <;> first | (exfalso; omega) | (conv => whnf)) | (refine bEq (fun hh => ?_) (fun hh => ?_) <;> first | (exfalso; omega) | (conv => whnf)) | (refine bNe (fun hh => ?_) (fun hh => ?_) <;> first | (exfalso; omega) | (conv => whnf)) | (refine (c10).callq rfl rfl (fun r (hr : r = _) => ?_); subst hr; conv => whnf) | (refine (g12).callq rfl rfl (fun r (hr : r = _) => ?_); subst hr; conv => whnf) | (refine wIn (by omega) ?_; conv => whnf) | (refine nI (by omega) ?_; conv => whnf)))
    all_goals rfl
  | true =>
    rw [hr] at c10
    have he := rdy_iff.1 hr
    obtain ⟨hb, hcl⟩ := errC_ok he
    have hg := okCl_g hcl
    have hb' := okB_iff.1 hb
    have hn := hb'.2.1
    have hs := hb'.2.2.2.1
    have hss := hb'.1.2.1
    have hL : (d.rs.map s2).length = d.rs.length := by simp
    have hLl : (l.map Gu.av).length = l.length := by simp
    have c23 := g23 d R (by omega)
    by_cases hx : (0 ≤ R ∧ R < d.rs.length) ∧ (0 ≤ L ∧ L ≤ 99999) ∧ 0 ≤ H ∧ H ≤ 99999
    · obtain ⟨hR, hLb, hHb⟩ := hx
      rw [decide_eq_true hR] at c23
      obtain ⟨i, rfl⟩ : ∃ i : Nat, R = i := ⟨R.toNat, by omega⟩
      have hi : i < d.rs.length := by omega
      obtain ⟨lo, hlo⟩ : ∃ lo, (d.rs.getD i (0, 0)).1 = lo := ⟨_, rfl⟩
      obtain ⟨hh', hhi⟩ : ∃ hi, (d.rs.getD i (0, 0)).2 = hi := ⟨_, rfl⟩
      have hrib : okRib (lo, hh') := by
        have := rib_mem hb _ (List.getElem_mem hi)
        rw [show d.rs[i] = (lo, hh') from by rw [← hlo, ← hhi]; simp [List.getD_eq_getElem?_getD, hi]] at this; exact this
      unfold okRib at hrib
      have e1 : (d.rs.map s2).getD ((i : Nat) : Int).toNat [] = [.int .i64 lo, .int .i64 hh'] := by
        rw [Int.toNat_natCast, getD_mapD s2 d.rs i (0, 0) hi, ← hlo, ← hhi]; rfl
      have c24 := g24 d (by omega) (by omega) (by omega)
      have hlen2 := put_len d i (lo + L, hh' - H)
      have hcells := put_cells d i (lo + L, hh' - H)
      have c10b := g10b (d.put i (lo + L, hh' - H)) l hl
      rw [hcells] at c10b
      cases hr2 : (d.put i (lo + L, hh' - H)).rdy l with
      | false =>
        rw [hr2] at c10b
        refine fnA 12 ok5 (by simp) ?_
        (conv => whnf); (repeat' (first | (refine bT ?_; conv => whnf) | (refine bF ?_; conv => whnf) | (refine bN ?_) | (refine bD (fun hh => ?_) (fun hh => ?_) <;> first | (exfalso; omega) | (conv => whnf)) | (refine bEq (fun hh => ?_) (fun hh => ?_) <;> first | (exfalso; omega) | (conv => whnf)) | (refine bNe (fun hh => ?_) (fun hh => ?_) <;> first | (exfalso; omega) | (conv => whnf)) | (refine (c10).callq rfl rfl (fun r (hr : r = _) => ?_); subst hr; conv => whnf) | (refine (c23).callq rfl rfl (fun r (hr : r = _) => ?_); subst hr; conv => whnf) | (refine (c24).callzq rfl rfl (fun r rows (hr : r = _ ∧ rows = _) => ?_); obtain ⟨hr1, hr2⟩ := hr; subst hr1; subst hr2; refine ⟨rfl, ?_⟩; conv => whnf) | (refine iaI (by omega) (by omega) e1 ?_; conv => whnf) | (refine (c10b).lendq rfl (fun r (hr : r = _) => ?_); subst hr; refine ⟨rfl, ?_⟩; conv => whnf) | (refine (g12).callq rfl rfl (fun r (hr : r = _) => ?_); subst hr; conv => whnf) | (refine wIn (by omega) ?_; conv => whnf) | (refine nI (by omega) ?_; conv => whnf)))
        all_goals rfl
      | true =>
        rw [hr2] at c10b
        have he2 := rdy_iff.1 hr2
        obtain ⟨hb2, hcl2⟩ := errC_ok he2
        have hbet := bet_put (l := l) hb hb2 hcl hi hlo hhi (by omega) (by omega)
        have hst := st_bet hbet
        have n1 := wk_le d l
        have n2 := wk_le (d.put i (lo + L, hh' - H)) l
        have c26 := g26 ((d.put i (lo + L, hh' - H)).wk l) (d.wk l) (by omega) (by omega)
        rw [wk_sub hlen2 hbet.w] at c26
        have c17 := g17 d l (by omega) (by omega) he
        have c17b := g17 (d.put i (lo + L, hh' - H)) l (by omega) (show d.sh.length ≤ 1000 by omega) he2
        have c27 := g27 d l (by omega) (by omega) he
        have c27b := g27 (d.put i (lo + L, hh' - H)) l (by omega) (show d.sh.length ≤ 1000 by omega) he2
        rw [hcells] at c17b c27b
        refine fnA 12 ok5 (by simp) ?_
        (conv => whnf); (repeat' (first | (refine bT ?_; conv => whnf) | (refine bF ?_; conv => whnf) | (refine bN ?_) | (refine bD (fun hh => ?_) (fun hh => ?_) <;> first | (exfalso; omega) | (conv => whnf)) | (refine bEq (fun hh => ?_) (fun hh => ?_) <;> first | (exfalso; omega) | (conv => whnf)) | (refine bNe (fun hh => ?_) (fun hh => ?_) <;> first | (exfalso; omega) | (conv => whnf)) | (refine (c10).callq rfl rfl (fun r (hr : r = _) => ?_); subst hr; conv => whnf) | (refine (c23).callq rfl rfl (fun r (hr : r = _) => ?_); subst hr; conv => whnf) | (refine (c24).callzq rfl rfl (fun r rows (hr : r = _ ∧ rows = _) => ?_); obtain ⟨hr1, hr2⟩ := hr; subst hr1; subst hr2; refine ⟨rfl, ?_⟩; conv => whnf) | (refine iaI (by omega) (by omega) e1 ?_; conv => whnf) | (refine (c10b).lendq rfl (fun r (hr : r = _) => ?_); subst hr; refine ⟨rfl, ?_⟩; conv => whnf) | (refine wIn (by omega) ?_; conv => whnf) | (refine nI (by omega) ?_; conv => whnf)))
        refine loop_i (α := Nat) (fun k => [(8, .int .i64 k), (7, .own 5 0), (3, .own 0 0), (1, .isl (l.map Gu.av))]) (fun k => [.box false d.cells, .fresh, .row false 114 7 (d.f.ss.map Sec.av), .row false 45 2 ((d.rs.map s2).set ((i : Nat) : Int).toNat [.int .i64 (lo + L), .int .i64 (hh' - H)]), .row false 3 1 (d.sh.map i1), .box false (d.cp 2 3 4), .fresh, .fresh, .fresh, .fresh, .fresh, .fresh]) (fun k => k ≤ l.length) (fun k => l.length - k) 0 (meets_id (by (repeat' apply And.intro) <;> first | rfl | exact True.intro | (intro hh; cases hh))) (by omega) ?_
        intro k hk
        conv => whnf
        refine bD (fun h3 => ?_) (fun h3 => ?_)
        · have hlt : k < l.length := by omega
          have hgk := List.getElem_mem hlt
          have hg1 : okCl d.rs.length [l[k]] = true := okCl1 (hg.2 _ hgk)
          have c16 := g16 d l[k] (by omega) (by omega) (errC_zero hb hg1)
          have c16b := g16 (d.put i (lo + L, hh' - H)) l[k] (by omega) (show d.sh.length ≤ 1000 by omega) (errC_zero hb2 (by rw [hlen2]; exact hg1))
          rw [hcells] at c16b
          have m1 := gone_le d.best l[k]
          have m2 := gone_le d.worst l[k]
          have m3 := gone_le (d.put i (lo + L, hh' - H)).best l[k]
          have m4 := gone_le (d.put i (lo + L, hh' - H)).worst l[k]
          have b1 := best_len d
          have b2 := worst_len d
          have b3 := best_len (d.put i (lo + L, hh' - H))
          have b4 := worst_len (d.put i (lo + L, hh' - H))
          have s1 := g26 (d.best.gone l[k]) ((d.put i (lo + L, hh' - H)).best.gone l[k]) (by omega) (by omega)
          rw [gone_sub_all (hbet.b _ hgk)] at s1
          have s2 := g26 ((d.put i (lo + L, hh' - H)).worst.gone l[k]) (d.worst.gone l[k]) (by omega) (by omega)
          rw [gone_sub_all (hbet.w _ hgk)] at s2
          (conv => whnf); (repeat' (first | (refine bT ?_; conv => whnf) | (refine bF ?_; conv => whnf) | (refine bN ?_) | (refine bD (fun hh => ?_) (fun hh => ?_) <;> first | (exfalso; omega) | (conv => whnf)) | (refine bEq (fun hh => ?_) (fun hh => ?_) <;> first | (exfalso; omega) | (conv => whnf)) | (refine bNe (fun hh => ?_) (fun hh => ?_) <;> first | (exfalso; omega) | (conv => whnf)) | (refine iaI (by omega) (by omega) (getD_map Gu.av l k hlt) ?_; conv => whnf) | (refine (c16).callzq rfl rfl (fun r rows (hr : r = _ ∧ rows = _) => ?_); obtain ⟨hr1, hr2⟩ := hr; subst hr1; subst hr2; refine ⟨rfl, ?_⟩; conv => whnf) | (refine wIn (by omega) ?_; conv => whnf) | (refine nI (by omega) ?_; conv => whnf)))
          refine c16b.calllq rfl rfl (fun r' rows (hr : r' = _ ∧ rows = _) => ?_); obtain ⟨hr1, hr2⟩ := hr; subst hr1; subst hr2
          refine ⟨rfl, by simp [flatRB, n1_flat], rfl, ?_⟩
          (conv => whnf); (repeat' (first | (refine bT ?_; conv => whnf) | (refine bF ?_; conv => whnf) | (refine bN ?_) | (refine bD (fun hh => ?_) (fun hh => ?_) <;> first | (exfalso; omega) | (conv => whnf)) | (refine bEq (fun hh => ?_) (fun hh => ?_) <;> first | (exfalso; omega) | (conv => whnf)) | (refine bNe (fun hh => ?_) (fun hh => ?_) <;> first | (exfalso; omega) | (conv => whnf)) | (refine (s1).lendq rfl (fun r (hr : r = _) => ?_); subst hr; refine ⟨rfl, ?_⟩; conv => whnf) | (refine (s2).lendq rfl (fun r (hr : r = _) => ?_); subst hr; refine ⟨rfl, ?_⟩; conv => whnf) | (refine wIn (by omega) ?_; conv => whnf) | (refine nI (by omega) ?_; conv => whnf)))
          all_goals exact ⟨k + 1, (meets_id (by (repeat' apply And.intro) <;> first | rfl | exact True.intro | (intro hh; cases hh))), by omega, by omega⟩
        · (conv => whnf); (repeat' (first | (refine bT ?_; conv => whnf) | (refine bF ?_; conv => whnf) | (refine bN ?_) | (refine bD (fun hh => ?_) (fun hh => ?_) <;> first | (exfalso; omega) | (conv => whnf)) | (refine bEq (fun hh => ?_) (fun hh => ?_) <;> first | (exfalso; omega) | (conv => whnf)) | (refine bNe (fun hh => ?_) (fun hh => ?_) <;> first | (exfalso; omega) | (conv => whnf)) | (refine (c17).callq rfl rfl (fun r (hr : r = _) => ?_); subst hr; conv => whnf) | (refine (c17b).lendq rfl (fun r (hr : r = _) => ?_); subst hr; refine ⟨rfl, ?_⟩; conv => whnf) | (refine (c27).callzq rfl rfl (fun r rows (hr : r = _ ∧ rows = _) => ?_); obtain ⟨hr1, hr2⟩ := hr; subst hr1; subst hr2; refine ⟨rfl, ?_⟩; conv => whnf) | (refine (c27b).callzq rfl rfl (fun r rows (hr : r = _ ∧ rows = _) => ?_); obtain ⟨hr1, hr2⟩ := hr; subst hr1; subst hr2; refine ⟨rfl, ?_⟩; conv => whnf) | (refine (c26).lendq rfl (fun r (hr : r = _) => ?_); subst hr; refine ⟨rfl, ?_⟩; conv => whnf) | (refine (g12).callq rfl rfl (fun r (hr : r = _) => ?_); subst hr; conv => whnf) | (refine wIn (by omega) ?_; conv => whnf) | (refine nI (by omega) ?_; conv => whnf)))
          all_goals rfl
    · have : ¬(0 ≤ R ∧ R < d.rs.length) ∨ (0 ≤ R ∧ R < d.rs.length) := by omega
      rcases this with hR | hR
      · rw [decide_eq_false hR] at c23
        refine fnA 12 ok5 (by simp) ?_
        (conv => whnf); (repeat' (first | (refine bT ?_; conv => whnf) | (refine bF ?_; conv => whnf) | (refine bN ?_) | (refine bD (fun hh => ?_) (fun hh => ?_) <;> first | (exfalso; omega) | (conv => whnf)) | (refine bEq (fun hh => ?_) (fun hh => ?_) <;> first | (exfalso; omega) | (conv => whnf)) | (refine bNe (fun hh => ?_) (fun hh => ?_) <;> first | (exfalso; omega) | (conv => whnf)) | (refine (c10).callq rfl rfl (fun r (hr : r = _) => ?_); subst hr; conv => whnf) | (refine (c23).callq rfl rfl (fun r (hr : r = _) => ?_); subst hr; conv => whnf) | (refine (g12).callq rfl rfl (fun r (hr : r = _) => ?_); subst hr; conv => whnf) | (refine wIn (by omega) ?_; conv => whnf) | (refine nI (by omega) ?_; conv => whnf)))
        all_goals rfl
      · rw [decide_eq_true hR] at c23
        refine fnA 12 ok5 (by simp) ?_
        (conv => whnf); (repeat' (first | (refine bT ?_; conv => whnf) | (refine bF ?_; conv => whnf) | (refine bN ?_) | (refine bD (fun hh => ?_) (fun hh => ?_) <;> first | (exfalso; omega) | (conv => whnf)) | (refine bEq (fun hh => ?_) (fun hh => ?_) <;> first | (exfalso; omega) | (conv => whnf)) | (refine bNe (fun hh => ?_) (fun hh => ?_) <;> first | (exfalso; omega) | (conv => whnf)) | (refine (c10).callq rfl rfl (fun r (hr : r = _) => ?_); subst hr; conv => whnf) | (refine (c23).callq rfl rfl (fun r (hr : r = _) => ?_); subst hr; conv => whnf) | (refine (g12).callq rfl rfl (fun r (hr : r = _) => ?_); subst hr; conv => whnf) | (refine wIn (by omega) ?_; conv => whnf) | (refine nI (by omega) ?_; conv => whnf)))
        all_goals rfl
end Go.Proofs
