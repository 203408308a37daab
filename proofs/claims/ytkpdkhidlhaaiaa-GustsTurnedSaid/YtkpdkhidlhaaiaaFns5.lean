/- What each function of this program answers, proved by walking its body: further contracts that the law rests on. -/
import Derived.Test.YtkpdkhidlhaaiaaFns4
set_option linter.unusedSimpArgs false
set_option linter.unusedVariables false
set_option linter.unusedSectionVars false
namespace Go.Proofs
open Go.Eng
attribute [local irreducible] Go.Eng.brB Go.Eng.need Go.Eng.wrE Go.Eng.iaE Go.Eng.slE Go.Eng.apE Go.Eng.CallZ Go.Eng.CallE Go.Eng.VCallE Go.Eng.YldE Go.Eng.GoC Go.Eng.MeetsE Go.Eng.FnA Go.Eng.FnV Go.Eng.ItA
set_option maxRecDepth 100000

theorem g48 (f : Frm) (hn : f.ss.length ≤ 1000) : FnO Try.prog 48 [.agg f.cells] (fun r rows => r = .agg [.row 3, .int .i64 f.lo, .int .i64 f.hi, .int .i64 f.en, .int .i64 f.ed, .int .i64 f.rod, .int .i64 f.cs] ∧ rows = [(3, .row false 114 7 (f.ss.map Sec.av))]) := by
  have hL : (f.ss.map Sec.av).length = f.ss.length := by simp
  refine fnO 5 ok48 (by simp) ?_
  (conv => whnf); (repeat' (first | (refine bT ?_; conv => whnf) | (refine bF ?_; conv => whnf) | (refine bN ?_) | (refine bD (fun hh => ?_) (fun hh => ?_) <;> first | (exfalso; omega) | (conv => whnf)) | (refine bEq (fun hh => ?_) (fun hh => ?_) <;> first | (exfalso; omega) | (conv => whnf)) | (refine bNe (fun hh => ?_) (fun hh => ?_) <;> first | (exfalso; omega) | (conv => whnf)) | (refine wIn (by omega) ?_; conv => whnf) | (refine nI (by omega) ?_; conv => whnf)))
  refine apI (fun e he => ?_) (by simp; omega) ?_
  · obtain ⟨s, _, rfl⟩ := List.mem_map.1 he; exact ⟨rfl, rfl⟩
  (conv => whnf); (repeat' (first | (refine bT ?_; conv => whnf) | (refine bF ?_; conv => whnf) | (refine bN ?_) | (refine bD (fun hh => ?_) (fun hh => ?_) <;> first | (exfalso; omega) | (conv => whnf)) | (refine bEq (fun hh => ?_) (fun hh => ?_) <;> first | (exfalso; omega) | (conv => whnf)) | (refine bNe (fun hh => ?_) (fun hh => ?_) <;> first | (exfalso; omega) | (conv => whnf)) | (refine wIn (by omega) ?_; conv => whnf) | (refine nI (by omega) ?_; conv => whnf)))
  all_goals exact ⟨rfl, rfl⟩
/-- the cells of a dome whose lists are own memory -/
def Dm.cp (d : Dm) (a b c : Nat) : List AV := [.row a, .int .i64 d.f.lo, .int .i64 d.f.hi, .int .i64 d.f.en, .int .i64 d.f.ed, .int .i64 d.f.rod, .int .i64 d.f.cs, .row b, .row c]
theorem g24 (d : Dm) (hf : d.f.ss.length ≤ 1000) (hn : d.rs.length ≤ 1000) (hs : d.sh.length ≤ 1000) : FnO Try.prog 24 [.agg d.cells] (fun r rows => r = .agg (d.cp 3 5 7) ∧ rows = [(3, .row false 114 7 (d.f.ss.map Sec.av)), (5, .row false 45 2 (d.rs.map s2)), (7, .row false 3 1 (d.sh.map Go.Proofs.i1))]) := by
  have hL : (d.rs.map s2).length = d.rs.length := by simp
  refine fnO 8 ok24 (by simp) ?_
  (conv => whnf); (repeat' (first | (refine bT ?_; conv => whnf) | (refine bF ?_; conv => whnf) | (refine bN ?_) | (refine bD (fun hh => ?_) (fun hh => ?_) <;> first | (exfalso; omega) | (conv => whnf)) | (refine bEq (fun hh => ?_) (fun hh => ?_) <;> first | (exfalso; omega) | (conv => whnf)) | (refine bNe (fun hh => ?_) (fun hh => ?_) <;> first | (exfalso; omega) | (conv => whnf)) | (refine (g48 d.f hf).callzq rfl rfl (fun r rows (hr : r = _ ∧ rows = _) => ?_); obtain ⟨hr1, hr2⟩ := hr; subst hr1; subst hr2; refine ⟨rfl, ?_⟩; conv => whnf) | (refine wIn (by omega) ?_; conv => whnf) | (refine nI (by omega) ?_; conv => whnf)))
  refine apI (fun e he => ?_) (by simp; omega) ?_
  · obtain ⟨s, _, rfl⟩ := List.mem_map.1 he; exact ⟨rfl, rfl⟩
  (conv => whnf); (repeat' (first | (refine bT ?_; conv => whnf) | (refine bF ?_; conv => whnf) | (refine bN ?_) | (refine bD (fun hh => ?_) (fun hh => ?_) <;> first | (exfalso; omega) | (conv => whnf)) | (refine bEq (fun hh => ?_) (fun hh => ?_) <;> first | (exfalso; omega) | (conv => whnf)) | (refine bNe (fun hh => ?_) (fun hh => ?_) <;> first | (exfalso; omega) | (conv => whnf)) | (refine wIn (by omega) ?_; conv => whnf) | (refine nI (by omega) ?_; conv => whnf)))
  refine apI (fun e he => ?_) (by simp; omega) ?_
  · obtain ⟨s, _, rfl⟩ := List.mem_map.1 he; exact ⟨rfl, rfl⟩
  (conv => whnf); (repeat' (first | (refine bT ?_; conv => whnf) | (refine bF ?_; conv => whnf) | (refine bN ?_) | (refine bD (fun hh => ?_) (fun hh => ?_) <;> first | (exfalso; omega) | (conv => whnf)) | (refine bEq (fun hh => ?_) (fun hh => ?_) <;> first | (exfalso; omega) | (conv => whnf)) | (refine bNe (fun hh => ?_) (fun hh => ?_) <;> first | (exfalso; omega) | (conv => whnf)) | (refine wIn (by omega) ?_; conv => whnf) | (refine nI (by omega) ?_; conv => whnf)))
  all_goals exact ⟨rfl, rfl⟩

theorem stands_mono {t u : Tr} {g h : Gu} (hle : Leq t u g h) (hs : u.stands [h] = true) : t.stands [g] = true := by
  rw [stands1] at hs ⊢
  have h1 : u.gone h = [] := weak_nil (by simpa using hs)
  have h2 : t.gone g = [] := List.eq_nil_iff_forall_not_mem.2 fun i hi => by
    have := gone_mono hle hi; rw [h1] at this; cases this
  rw [gone_nil.1 h2]; rfl
/-- one strength is another one -/
def Dm.put (d : Dm) (i : Nat) (p : Int × Int) : Dm := ⟨d.f, d.rs.set i p, d.sh⟩
theorem put_ok {d : Dm} {i : Nat} {p : Int × Int} (h : d.okB = true) (hp : okRib p) : (d.put i p).okB = true := by
  have h' := okB_iff.1 h
  refine okB_iff.2 ⟨h'.1, by simp [Dm.put]; exact h'.2.1, fun q hq => ?_, by simp [Dm.put]; exact h'.2.2.2.1, h'.2.2.2.2⟩
  rcases List.mem_or_eq_of_mem_set hq with hq | hq
  · exact h'.2.2.1 q hq
  · rw [hq]; exact hp
theorem put_len (d : Dm) (i : Nat) (p : Int × Int) : (d.put i p).rs.length = d.rs.length := by simp [Dm.put]
theorem getD_set {α : Type} {l : List α} {i j : Nat} {x z : α} (hi : i < l.length) : (l.set i x).getD j z = if i = j then x else l.getD j z := by
  simp only [List.getD_eq_getElem?_getD, List.getElem?_set]
  by_cases e : i = j
  · subst e; simp [hi]
  · simp [e]
theorem put_best (d : Dm) (i : Nat) (p : Int × Int) : (d.put i p).best = ⟨d.f.l0, d.best.ss.set i p.2, d.sh⟩ := by simp [Dm.put, Dm.best, List.map_set]
theorem put_worst (d : Dm) (i : Nat) (p : Int × Int) : (d.put i p).worst = ⟨d.f.l1, d.worst.ss.set i p.1, d.sh⟩ := by simp [Dm.put, Dm.worst, List.map_set]
theorem best_get {d : Dm} {i : Nat} (hi : i < d.rs.length) : d.best.ss.getD i 0 = (d.rs.getD i (0, 0)).2 := by simp [Dm.best, List.getD_eq_getElem?_getD, hi]
theorem worst_get {d : Dm} {i : Nat} (hi : i < d.rs.length) : d.worst.ss.getD i 0 = (d.rs.getD i (0, 0)).1 := by simp [Dm.worst, List.getD_eq_getElem?_getD, hi]
/-- stronger ribs, and a lesser force -/
theorem leq_put {t : Tr} (ht : t.ok) {i : Nat} {x : Int} (hi : i < t.ss.length) (hx : t.ss.getD i 0 ≤ x) (hok : (⟨t.L, t.ss.set i x, t.sh⟩ : Tr).ok) {F F' A : Int} (hF0 : 0 ≤ F) (hF : F ≤ F') (hg : Gu.ok ⟨F, A⟩ t.ss.length) : Leq ⟨t.L, t.ss.set i x, t.sh⟩ t ⟨F, A⟩ ⟨F', A⟩ := by
  refine ⟨by simp, fun j => ?_, fun j => (ld_bd (n := t.ss.length) hok hg j).1, fun j => ?_⟩
  · show t.ss.getD j 0 ≤ (t.ss.set i x).getD j 0
    rw [getD_set hi]
    split
    · rename_i e; subst e; exact hx
    · exact Int.le_refl _
  · exact ld_mono (t := ⟨t.L, t.ss.set i x, t.sh⟩) (u := t) hok rfl (by simp) (Int.le_refl _) hF0 hF j
theorem most_mono {t u : Tr} {a : Int} {F F' : Nat} (h : ∀ k : Nat, k ≤ 99 → u.stands [⟨k, a⟩] = true → t.stands [⟨k, a⟩] = true) (h1 : isMost t a F) (h2 : isMost u a F') : F' ≤ F := by
  refine Classical.byContradiction fun hn => ?_
  have h3 := h F' h2.1 h2.2.1
  rw [h1.2.2 F' (by omega) h2.1] at h3; cases h3
theorem gone_sub_all {t u : Tr} {g h : Gu} (hle : Leq t u g h) : (t.gone g).all (u.gone h).contains = true := all_contains fun _ hi => gone_mono hle hi

set_option maxHeartbeats 4000000 in
theorem k4 (d : Dm) (g : Gu) (R B Fo : Int) : FnA Try.prog 4 [.agg d.cells, .agg g.av, .agg [.int .i64 R, .int .i64 B, .int .i64 Fo]] (· = .bool true) := by
  have c10 := g10 d [g] (by simp)
  cases hr : d.rdy [g] with
  | false =>
    rw [hr] at c10
    refine fnA 14 ok4 (by simp) ?_
    (conv => whnf); (repeat' (first | (refine bT ?_; conv => whnf) | (refine bF ?_; conv => whnf) | (refine bN ?_) | (refine bD (fun hh => ?_) (fun hh => ?_) <;> first | (exfalso; omega) | (conv => whnf)) | (refine bEq (fun hh => ?_) (fun hh => ?_) <;> first | (exfalso; omega) | (conv => whnf)) | (refine bNe (fun hh => ?_) (fun hh => ?_) <;> first | (exfalso; omega) | (conv => whnf)) | (refine (c10).lendq rfl (fun r (hr : r = _) => ?_); subst hr; refine ⟨rfl, ?_⟩; conv => whnf) | (refine (g12).callq rfl rfl (fun r (hr : r = _) => ?_); subst hr; conv => whnf) | (refine wIn (by omega) ?_; conv => whnf) | (refine nI (by omega) ?_; conv => whnf)))
    all_goals rfl
  | true =>
    rw [hr] at c10
    have he := rdy_iff.1 hr
    obtain ⟨hb, hcl⟩ := errC_ok he
    have hg := (okCl_g hcl).2 g (by simp)
    have hb' := okB_iff.1 hb
    have hn := hb'.2.1
    have hs := hb'.2.2.2.1
    have hss := hb'.1.2.1
    have hL : (d.rs.map s2).length = d.rs.length := by simp
    have c23 := g23 d R (by omega)
    by_cases hx : (0 ≤ R ∧ R < d.rs.length) ∧ (0 ≤ B ∧ B ≤ 99999) ∧ 0 ≤ Fo ∧ Fo ≤ g.F
    · obtain ⟨hR, hB, hFo⟩ := hx
      rw [decide_eq_true hR] at c23
      obtain ⟨i, rfl⟩ : ∃ i : Nat, R = i := ⟨R.toNat, by omega⟩
      have hi : i < d.rs.length := by omega
      obtain ⟨lo, hlo⟩ : ∃ lo, (d.rs.getD i (0, 0)).1 = lo := ⟨_, rfl⟩
      obtain ⟨hh', hhi⟩ : ∃ hi, (d.rs.getD i (0, 0)).2 = hi := ⟨_, rfl⟩
      have hrib : okRib (lo, hh') := by
        have := rib_mem hb _ (List.getElem_mem hi)
        rw [show d.rs[i] = (lo, hh') from by rw [← hlo, ← hhi]; simp [List.getD_eq_getElem?_getD, hi]] at this; exact this
      unfold okRib at hrib
      have e1 : (d.rs.map s2).getD ((i : Nat) : Int).toNat [] = [.int .i64 lo, .int .i64 hh'] := by
        rw [Int.toNat_natCast, getD_mapD s2 d.rs i (0, 0) hi, ← hlo, ← hhi]; rfl
      have c24 := g24 d (by omega) (by omega) (by omega)
      obtain ⟨lo', hlo'⟩ : ∃ x, min 99999 (lo + B) = x := ⟨_, rfl⟩
      obtain ⟨hi', hhi'⟩ : ∃ x, min 99999 (hh' + B) = x := ⟨_, rfl⟩
      have hp : okRib (lo', hi') := by unfold okRib; simp only; omega
      have hb2 := put_ok (i := i) hb hp
      have hlen2 := put_len d i (lo', hi')
      have hgF : Gu.ok ⟨g.F - Fo, g.A⟩ d.rs.length := ⟨⟨by simp only; omega, by have := hg.1; simp only; omega⟩, hg.2⟩
      have he2 : (d.put i (lo', hi')).errC [⟨g.F - Fo, g.A⟩] = 0 := errC_zero hb2 (by rw [hlen2]; exact okCl1 hgF)
      have hg0 : Gu.ok ⟨0, g.A⟩ d.rs.length := ⟨⟨by simp, by simp⟩, hg.2⟩
      have he3 : (d.put i (lo', hi')).errC [⟨0, g.A⟩] = 0 := errC_zero hb2 (by rw [hlen2]; exact okCl1 hg0)
      have c16 := g16 d g (by omega) (by omega) he
      have c17 := g17 d [g] (by omega) (by omega) he
      have c25 := g25 d g.A (by omega) (by omega) (errC_zero hb (okCl1 hg0))
      have c16b := g16 (d.put i (lo', hi')) ⟨g.F - Fo, g.A⟩ (by omega) (show d.sh.length ≤ 1000 by omega) he2
      have c17b := g17 (d.put i (lo', hi')) [⟨g.F - Fo, g.A⟩] (by omega) (show d.sh.length ≤ 1000 by omega) he2
      have c25b := g25 (d.put i (lo', hi')) g.A (by omega) (show d.sh.length ≤ 1000 by omega) he3
      have hraw : (d.rs.set i (lo', hi')).map s2 = ((d.rs.map s2).set ((i : Nat) : Int).toNat [.int .i64 (min 99999 (lo + B)), .int .i64 hh']).set ((i : Nat) : Int).toNat [.int .i64 (min 99999 (lo + B)), .int .i64 (min 99999 (hh' + B))] := by
        rw [hlo', hhi', Int.toNat_natCast, List.set_set, List.map_set]; rfl
      have hcells : (d.put i (lo', hi')).cells = [.isl (d.f.ss.map Sec.av), .int .i64 d.f.lo, .int .i64 d.f.hi, .int .i64 d.f.en, .int .i64 d.f.ed, .int .i64 d.f.rod, .int .i64 d.f.cs, .isl (((d.rs.map s2).set ((i : Nat) : Int).toNat [.int .i64 (min 99999 (lo + B)), .int .i64 hh']).set ((i : Nat) : Int).toNat [.int .i64 (min 99999 (lo + B)), .int .i64 (min 99999 (hh' + B))]), .isl (d.sh.map i1)] := by
        rw [← hraw]; rfl
      rw [hcells] at c16b c17b c25b
      have hgb := hg.1
      have hbl := best_len d
      have hwl := worst_len d
      have lq1 : Leq (d.put i (lo', hi')).best d.best ⟨g.F - Fo, g.A⟩ g := by
        have hok := best_ok hb2
        rw [put_best] at hok ⊢
        exact leq_put (t := d.best) (best_ok hb) (by omega) (by rw [best_get hi, hhi]; simp only; omega) hok (F := g.F - Fo) (F' := g.F) (A := g.A) (by omega) (by omega) (by rw [hbl]; exact hgF)
      have lq2 : Leq (d.put i (lo', hi')).worst d.worst ⟨g.F - Fo, g.A⟩ g := by
        have hok := worst_ok hb2
        rw [put_worst] at hok ⊢
        exact leq_put (t := d.worst) (worst_ok hb) (by omega) (by rw [worst_get hi, hlo]; simp only; omega) hok (F := g.F - Fo) (F' := g.F) (A := g.A) (by omega) (by omega) (by rw [hwl]; exact hgF)
      have hst : (d.st [g] ≠ 1 ∨ (d.put i (lo', hi')).st [⟨g.F - Fo, g.A⟩] = 1) ∧ ((d.put i (lo', hi')).st [⟨g.F - Fo, g.A⟩] ≠ 2 ∨ d.st [g] = 2) := by
        have s1 := stands_mono lq1
        have s2 := stands_mono lq2
        unfold Dm.st
        cases h1 : d.worst.stands [g]
        · cases h2 : d.best.stands [g]
          · simp
          · rw [s1 h2]; simp; split <;> simp
        · rw [s2 h1]; simp
      have e2 : ((d.rs.map s2).set ((i : Nat) : Int).toNat [.int .i64 (min 99999 (lo + B)), .int .i64 hh']).getD (((i : Nat) : Int).toNat : Int).toNat [] = [.int .i64 (min 99999 (lo + B)), .int .i64 hh'] := by
        rw [Int.toNat_natCast, Int.toNat_natCast, getD_set (by omega), if_pos rfl]
      have hL2 : ((d.rs.map s2).set ((i : Nat) : Int).toNat [.int .i64 (min 99999 (lo + B)), .int .i64 hh']).length = d.rs.length := by simp
      have n1 := gone_le d.best g
      have n2 := gone_le d.worst g
      have n3 := gone_le (d.put i (lo', hi')).best ⟨g.F - Fo, g.A⟩
      have n4 := gone_le (d.put i (lo', hi')).worst ⟨g.F - Fo, g.A⟩
      have hbl2 := best_len (d.put i (lo', hi'))
      have hwl2 := worst_len (d.put i (lo', hi'))
      have c26 := g26 ((d.put i (lo', hi')).best.gone ⟨g.F - Fo, g.A⟩) (d.best.gone g) (by omega) (by omega)
      rw [gone_sub_all lq1] at c26
      have c26b := g26 ((d.put i (lo', hi')).worst.gone ⟨g.F - Fo, g.A⟩) (d.worst.gone g) (by omega) (by omega)
      rw [gone_sub_all lq2] at c26b
      have hLa : (((d.put i (lo', hi')).best.gone ⟨g.F - Fo, g.A⟩).map Go.Proofs.n1).length = ((d.put i (lo', hi')).best.gone ⟨g.F - Fo, g.A⟩).length := by simp
      have hLb : (((d.put i (lo', hi')).worst.gone ⟨g.F - Fo, g.A⟩).map Go.Proofs.n1).length = ((d.put i (lo', hi')).worst.gone ⟨g.F - Fo, g.A⟩).length := by simp
      refine fnA 14 ok4 (by simp) ?_
      (conv => whnf); (repeat' (first | (refine bT ?_; conv => whnf) | (refine bF ?_; conv => whnf) | (refine bN ?_) | (refine bD (fun hh => ?_) (fun hh => ?_) <;> first | (exfalso; omega) | (conv => whnf)) | (refine bEq (fun hh => ?_) (fun hh => ?_) <;> first | (exfalso; omega) | (conv => whnf)) | (refine bNe (fun hh => ?_) (fun hh => ?_) <;> first | (exfalso; omega) | (conv => whnf)) | (refine (c10).lendq rfl (fun r (hr : r = _) => ?_); subst hr; refine ⟨rfl, ?_⟩; conv => whnf) | (refine (c23).callq rfl rfl (fun r (hr : r = _) => ?_); subst hr; conv => whnf) | (refine (c24).callzq rfl rfl (fun r rows (hr : r = _ ∧ rows = _) => ?_); obtain ⟨hr1, hr2⟩ := hr; subst hr1; subst hr2; refine ⟨rfl, ?_⟩; conv => whnf) | (refine iaI (by omega) (by omega) e1 ?_; conv => whnf) | (refine iaI (by omega) (by simp only [List.length_set]; omega) e2 ?_; conv => whnf) | (refine nI (by simp only [List.length_set]; omega) ?_; conv => whnf) | (refine (c16).callzq rfl rfl (fun r rows (hr : r = _ ∧ rows = _) => ?_); obtain ⟨hr1, hr2⟩ := hr; subst hr1; subst hr2; refine ⟨rfl, ?_⟩; conv => whnf) | (refine (c16b).callzq rfl rfl (fun r rows (hr : r = _ ∧ rows = _) => ?_); obtain ⟨hr1, hr2⟩ := hr; subst hr1; subst hr2; refine ⟨rfl, ?_⟩; conv => whnf) | (refine (c17).lendq rfl (fun r (hr : r = _) => ?_); subst hr; refine ⟨rfl, ?_⟩; conv => whnf) | (refine (c17b).lendq rfl (fun r (hr : r = _) => ?_); subst hr; refine ⟨rfl, ?_⟩; conv => whnf) | (refine wIn (by omega) ?_; conv => whnf) | (refine nI (by omega) ?_; conv => whnf)))
      refine c25.callq rfl rfl (fun r ⟨F, hF, hr⟩ => ?_); subst hr
      conv => whnf
      refine c25b.lendq rfl (fun r ⟨F', hF', hr'⟩ => ?_); subst hr'; refine ⟨rfl, ?_⟩
      have hq : F ≤ F' := by
        refine most_mono (fun k hk hs => ?_) hF' hF
        have hok := worst_ok hb2
        have hgk : Gu.ok ⟨k, g.A⟩ d.rs.length := ⟨⟨by simp, by simp; omega⟩, hg.2⟩
        have lq : Leq (d.put i (lo', hi')).worst d.worst ⟨k, g.A⟩ ⟨k, g.A⟩ := by
          rw [put_worst] at hok ⊢
          exact leq_put (t := d.worst) (worst_ok hb) (by omega) (by rw [worst_get hi, hlo]; simp only; omega) hok (F := k) (F' := k) (A := g.A) (by omega) (by omega) (by rw [hwl]; exact hgk)
        exact stands_mono lq hs
      (conv => whnf); (repeat' (first | (refine bT ?_; conv => whnf) | (refine bF ?_; conv => whnf) | (refine bN ?_) | (refine bD (fun hh => ?_) (fun hh => ?_) <;> first | (exfalso; omega) | (conv => whnf)) | (refine bEq (fun hh => ?_) (fun hh => ?_) <;> first | (exfalso; omega) | (conv => whnf)) | (refine bNe (fun hh => ?_) (fun hh => ?_) <;> first | (exfalso; omega) | (conv => whnf)) | (refine (c26).lendq rfl (fun r (hr : r = _) => ?_); subst hr; refine ⟨rfl, ?_⟩; conv => whnf) | (refine (c26b).lendq rfl (fun r (hr : r = _) => ?_); subst hr; refine ⟨rfl, ?_⟩; conv => whnf) | (refine (g12).callq rfl rfl (fun r (hr : r = _) => ?_); subst hr; conv => whnf) | (refine wIn (by omega) ?_; conv => whnf) | (refine nI (by omega) ?_; conv => whnf)))
      all_goals rfl
    · have : ¬(0 ≤ R ∧ R < d.rs.length) ∨ (0 ≤ R ∧ R < d.rs.length) := by omega
      rcases this with hR | hR
      · rw [decide_eq_false hR] at c23
        refine fnA 14 ok4 (by simp) ?_
        (conv => whnf); (repeat' (first | (refine bT ?_; conv => whnf) | (refine bF ?_; conv => whnf) | (refine bN ?_) | (refine bD (fun hh => ?_) (fun hh => ?_) <;> first | (exfalso; omega) | (conv => whnf)) | (refine bEq (fun hh => ?_) (fun hh => ?_) <;> first | (exfalso; omega) | (conv => whnf)) | (refine bNe (fun hh => ?_) (fun hh => ?_) <;> first | (exfalso; omega) | (conv => whnf)) | (refine (c10).lendq rfl (fun r (hr : r = _) => ?_); subst hr; refine ⟨rfl, ?_⟩; conv => whnf) | (refine (c23).callq rfl rfl (fun r (hr : r = _) => ?_); subst hr; conv => whnf) | (refine (g12).callq rfl rfl (fun r (hr : r = _) => ?_); subst hr; conv => whnf) | (refine wIn (by omega) ?_; conv => whnf) | (refine nI (by omega) ?_; conv => whnf)))
        all_goals rfl
      · rw [decide_eq_true hR] at c23
        refine fnA 14 ok4 (by simp) ?_
        (conv => whnf); (repeat' (first | (refine bT ?_; conv => whnf) | (refine bF ?_; conv => whnf) | (refine bN ?_) | (refine bD (fun hh => ?_) (fun hh => ?_) <;> first | (exfalso; omega) | (conv => whnf)) | (refine bEq (fun hh => ?_) (fun hh => ?_) <;> first | (exfalso; omega) | (conv => whnf)) | (refine bNe (fun hh => ?_) (fun hh => ?_) <;> first | (exfalso; omega) | (conv => whnf)) | (refine (c10).lendq rfl (fun r (hr : r = _) => ?_); subst hr; refine ⟨rfl, ?_⟩; conv => whnf) | (refine (c23).callq rfl rfl (fun r (hr : r = _) => ?_); subst hr; conv => whnf) | (refine (g12).callq rfl rfl (fun r (hr : r = _) => ?_); subst hr; conv => whnf) | (refine wIn (by omega) ?_; conv => whnf) | (refine nI (by omega) ?_; conv => whnf)))
        all_goals rfl
end Go.Proofs
