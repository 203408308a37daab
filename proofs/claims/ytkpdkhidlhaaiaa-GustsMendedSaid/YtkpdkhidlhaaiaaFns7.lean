/- What each function of this program answers, proved by walking its body: further contracts that the law rests on. -/
import Derived.Test.YtkpdkhidlhaaiaaFns6
set_option linter.unusedSimpArgs false
set_option linter.unusedVariables false
set_option linter.unusedSectionVars false
namespace Go.Proofs
open Go.Eng
attribute [local irreducible] Go.Eng.brB Go.Eng.need Go.Eng.wrE Go.Eng.iaE Go.Eng.slE Go.Eng.apE Go.Eng.CallZ Go.Eng.CallE Go.Eng.VCallE Go.Eng.YldE Go.Eng.GoC Go.Eng.MeetsE Go.Eng.FnA Go.Eng.FnV Go.Eng.ItA
set_option maxRecDepth 100000

/-- the strengths of some ribs are as great as can be -/
def mend (rs : List (Int × Int)) (l : List Nat) : List (Int × Int) := l.foldl (fun a i => a.set i (99999, 99999)) rs
theorem mend_len : ∀ (l : List Nat) (rs : List (Int × Int)), (mend rs l).length = rs.length
  | [], rs => rfl
  | i :: l, rs => by show (mend (rs.set i _) l).length = _; rw [mend_len l]; simp
theorem mend_get : ∀ (l : List Nat) (rs : List (Int × Int)) (i : Nat), i < rs.length → (mend rs l).getD i (0, 0) = if i ∈ l then (99999, 99999) else rs.getD i (0, 0)
  | [], rs, i, h => by simp [mend]
  | j :: l, rs, i, h => by
    show (mend (rs.set j (99999, 99999)) l).getD i (0, 0) = _
    rw [mend_get l _ i (by simpa using h)]
    by_cases e : i ∈ l
    · rw [if_pos e, if_pos (by simp [e])]
    · rw [if_neg e]
      by_cases e2 : j = i
      · subst e2
        rw [getD_set h, if_pos rfl, if_pos (by simp)]
      · rw [List.getD_eq_getElem?_getD, List.getElem?_set_ne e2, ← List.getD_eq_getElem?_getD, if_neg (by simp [e, Ne.symm e2])]
theorem mend_take (rs : List (Int × Int)) (l : List Nat) {k : Nat} (h : k < l.length) : mend rs (l.take (k + 1)) = (mend rs (l.take k)).set l[k] (99999, 99999) := by
  unfold mend; rw [List.take_succ_eq_append_getElem h, List.foldl_append]; rfl
theorem wk_lt {d : Dm} {l : List Gu} {i : Nat} (h : i ∈ d.wk l) : i < d.rs.length := (lst_mem.1 h).1
def Dm.mend (d : Dm) (l : List Nat) : Dm := ⟨d.f, Go.Proofs.mend d.rs l, d.sh⟩
theorem mend_ok {d : Dm} (h : d.okB = true) (l : List Nat) (hl : ∀ i ∈ l, i < d.rs.length) : (d.mend l).okB = true := by
  have key : ∀ (l : List Nat) (rs : List (Int × Int)), (∀ p ∈ rs, okRib p) → ∀ p ∈ Go.Proofs.mend rs l, okRib p := fun l => by
    induction l with
    | nil => intro rs h; exact h
    | cons i l ih =>
      intro rs h
      refine ih (rs.set i (99999, 99999)) fun p hp => ?_
      rcases List.mem_or_eq_of_mem_set hp with hp | hp
      · exact h p hp
      · rw [hp]; exact ⟨⟨by simp, by simp⟩, by simp⟩
  have h' := okB_iff.1 h
  have hlen := mend_len l d.rs
  refine okB_iff.2 ⟨h'.1, ?_, key l d.rs h'.2.2.1, ?_, h'.2.2.2.2⟩
  · show 3 ≤ (Go.Proofs.mend d.rs l).length ∧ (Go.Proofs.mend d.rs l).length ≤ 10
    rw [hlen]; exact h'.2.1
  · show d.sh.length = (Go.Proofs.mend d.rs l).length
    rw [hlen]; exact h'.2.2.2.1
/-- two domes with the same frame and shares have the same loads -/
theorem ld_eq {d e : Dm} (hf : d.f = e.f) (hs : d.sh = e.sh) (hl : d.rs.length = e.rs.length) (g : Gu) (i : Int) : d.worst.ld g i = e.worst.ld g i := by
  unfold Tr.ld Tr.share
  have h1 : d.worst.ss.length = e.worst.ss.length := by rw [worst_len, worst_len, hl]
  rw [h1]
  show g.F * d.f.l1 * d.sh.getD _ 0 / 100 = g.F * e.f.l1 * e.sh.getD _ 0 / 100
  rw [hf, hs]
theorem st_one {d : Dm} {l : List Gu} : d.st l = 1 ↔ d.worst.stands l = true := by
  unfold Dm.st
  cases d.worst.stands l <;> simp
  split <;> simp
theorem stands_iff {t : Tr} {l : List Gu} : t.stands l = true ↔ ∀ g ∈ l, ∀ i < t.ss.length, t.tw g i = false := by
  unfold Tr.stands
  rw [List.all_eq_true]
  refine ⟨fun h g hg i hi => ?_, fun h g hg => ?_⟩
  · rw [Bool.eq_false_iff]; intro ht
    have h1 := h g hg
    have h2 : i ∈ t.weak g := lst_mem.2 ⟨hi, ht⟩
    rw [List.isEmpty_iff.1 h1] at h2; cases h2
  · rw [List.isEmpty_iff]
    refine List.eq_nil_iff_forall_not_mem.2 fun i hi => ?_
    have := lst_mem.1 hi
    rw [h g hg i this.1] at this; cases this.2
theorem wk_mem {d : Dm} {l : List Gu} {i : Nat} : i ∈ d.wk l ↔ i < d.rs.length ∧ ∃ g ∈ l, d.worst.tw g i = true := by
  unfold Dm.wk; rw [lst_mem, List.any_eq_true]
theorem wk_nil {d : Dm} {l : List Gu} : d.wk l = [] ↔ d.worst.stands l = true := by
  rw [stands_iff]
  refine ⟨fun h g hg i hi => ?_, fun h => List.eq_nil_iff_forall_not_mem.2 fun i hi => ?_⟩
  · rw [Bool.eq_false_iff]; intro ht
    have : i ∈ d.wk l := wk_mem.2 ⟨by rw [← worst_len]; exact hi, g, hg, ht⟩
    rw [h] at this; cases this
  · obtain ⟨h1, g, hg, ht⟩ := wk_mem.1 hi
    rw [h g hg i (by rw [worst_len]; exact h1)] at ht; cases ht
theorem mend_st {d : Dm} {l : List Gu} (h : d.okB = true) (hcl : okCl d.rs.length l = true) : (d.mend (d.wk l)).st l = 1 := by
  rw [st_one, stands_iff]
  intro g hg i hi
  have hlen : (d.mend (d.wk l)).rs.length = d.rs.length := mend_len _ _
  rw [worst_len, hlen] at hi
  have hgk := (okCl_g hcl).2 g hg
  have hld := ld_eq (d := d.mend (d.wk l)) (e := d) rfl rfl hlen g i
  have hb := ld_bd (worst_ok h) (n := d.rs.length) hgk i
  unfold Tr.tw
  rw [hld, worst_get (by rw [hlen]; exact hi)]
  have hm : (d.mend (d.wk l)).rs.getD i (0, 0) = _ := mend_get (d.wk l) d.rs i hi
  rw [hm]
  by_cases hi2 : i ∈ d.wk l
  · rw [if_pos hi2]
    exact decide_eq_false (by simp only; omega)
  · rw [if_neg hi2, ← worst_get hi]
    have : d.worst.tw g i = false := by
      rw [Bool.eq_false_iff]; intro ht; exact hi2 (wk_mem.2 ⟨hi, g, hg, ht⟩)
    exact this
/-- one weak rib is left as it is -/
theorem left_st {d : Dm} {l : List Gu} (h : d.okB = true) (hcl : okCl d.rs.length l = true) {w : Nat} (hw : w ∈ d.wk l) : ((d.mend (d.wk l)).put w (d.rs.getD w (0, 0))).st l ≠ 1 := by
  intro hst
  rw [st_one, stands_iff] at hst
  obtain ⟨hwn, g, hg, ht⟩ := wk_mem.1 hw
  have hlen : (d.mend (d.wk l)).rs.length = d.rs.length := mend_len _ _
  have hlen2 := put_len (d.mend (d.wk l)) w (d.rs.getD w (0, 0))
  have h1 := hst g hg w (by rw [worst_len, hlen2, hlen]; exact hwn)
  have hld := ld_eq (d := (d.mend (d.wk l)).put w (d.rs.getD w (0, 0))) (e := d) rfl rfl (hlen2.trans hlen) g w
  unfold Tr.tw at h1 ht
  rw [hld, worst_get (by rw [hlen2, hlen]; exact hwn)] at h1
  have hm : ((d.mend (d.wk l)).put w (d.rs.getD w (0, 0))).rs.getD w (0, 0) = d.rs.getD w (0, 0) := by
    show ((d.mend (d.wk l)).rs.set w _).getD w (0, 0) = _
    rw [getD_set (by rw [hlen]; exact hwn), if_pos rfl]
  rw [hm, ← worst_get hwn, ht] at h1
  cases h1
theorem first_ex {t : Tr} : ∀ (l : List Gu), t.stands l = true ∨ ∃ j, ∃ hj : j < l.length, (∀ k (hk : k < j), (t.weak l[k]).isEmpty = true) ∧ (t.weak l[j]).isEmpty = false
  | [] => .inl rfl
  | g :: l => by
    cases hg : (t.weak g).isEmpty with
    | false => exact .inr ⟨0, by simp, fun k hk => absurd hk (by omega), hg⟩
    | true =>
      rcases first_ex l with h | ⟨j, hj, h1, h2⟩
      · refine .inl ?_
        unfold Tr.stands at h ⊢
        rw [List.all_cons, hg, h]; rfl
      · refine .inr ⟨j + 1, by simpa using hj, fun k hk => ?_, h2⟩
        cases k with
        | zero => exact hg
        | succ k => exact h1 k (by omega)

set_option maxHeartbeats 8000000 in
theorem k6 (d : Dm) (l : List Gu) (P A : Int) (hl : l.length ≤ 9223372036854775807) : FnA Try.prog 6 [.agg d.cells, .isl (l.map Gu.av), .agg [.int .i64 P, .int .i64 A]] (· = .bool true) := by
  have c10 := g10b d l hl
  cases hr : d.rdy l with
  | false =>
    rw [hr] at c10
    refine fnA 10 ok6 (by simp) ?_
    (conv => whnf); (repeat' (first | (refine bT ?_; conv => whnf) | (refine bF ?_; conv => whnf) | (refine bN ?_) | (refine bD (fun hh => ?_) (fun hh => ?_) <;> first | (exfalso; omega) | (conv => whnf)) | (refine bEq (fun hh => ?_) (fun hh => ?_) <;> first | (exfalso; omega) | (conv => whnf)) | (refine bNe (fun hh => ?_) (fun hh => ?_) <;> first | (exfalso; omega) | (conv => whnf)) | (refine (c10).callq rfl rfl (fun r (hr : r = _) => ?_); subst hr; conv => whnf) | (refine (g12).callq rfl rfl (fun r (hr : r = _) => ?_); subst hr; conv => whnf) | (refine wIn (by omega) ?_; conv => whnf) | (refine nI (by omega) ?_; conv => whnf)))
    all_goals rfl
  | true =>
    rw [hr] at c10
    have he := rdy_iff.1 hr
    obtain ⟨hb, hcl⟩ := errC_ok he
    have hg := okCl_g hcl
    have hb' := okB_iff.1 hb
    have hn := hb'.2.1
    have hs := hb'.2.2.2.1
    have hss := hb'.1.2.1
    have hL : (d.rs.map s2).length = d.rs.length := by simp
    have c23 := g23 d A (by omega)
    by_cases hA : 0 ≤ A ∧ A < d.rs.length
    · rw [decide_eq_true hA] at c23
      have hwl := wk_le d l
      have hLw : ((d.wk l).map n1).length = (d.wk l).length := by simp
      have c17 := g17 d l (by omega) (by omega) he
      have c27 := g27 d l (by omega) (by omega) he
      have c24 := g24 d (by omega) (by omega) (by omega)
      have hg0 : Gu.ok ⟨0, A⟩ d.rs.length := ⟨⟨by simp, by simp⟩, hA⟩
      have c25 := g25 d A (by omega) (by omega) (errC_zero hb (okCl1 hg0))
      have hmok := mend_ok hb (d.wk l) (fun i hi => wk_lt hi)
      have hmlen : (d.mend (d.wk l)).rs.length = d.rs.length := mend_len _ _
      have hms : (d.mend (d.wk l)).sh.length ≤ 1000 := by show d.sh.length ≤ 1000; omega
      have c17s := g17 (d.mend (d.wk l)) l (by omega) hms (errC_zero hmok (by rw [hmlen]; exact hcl))
      rw [mend_st hb hcl] at c17s
      have hmost : ∀ F : Nat, isMost d.worst A F → d.st [⟨F, A⟩] = 1 ∧ (F < 99 → d.st [⟨(F : Int) + 1, A⟩] ≠ 1) := fun F hF => by
        refine ⟨st_one.2 hF.2.1, fun h99 h1 => ?_⟩
        have := hF.2.2 (F + 1) (by omega) (by omega)
        rw [show ((F + 1 : Nat) : Int) = (F : Int) + 1 from by omega, st_one.1 h1] at this; cases this
      rcases first_ex (t := d.worst) l with hst | ⟨j, hj, hj1, hj2⟩
      · have hw := wk_nil.2 hst
        rw [st_one.2 hst] at c17
        rw [hw] at c27
        have c18 := g18n d l (by omega) (by omega) he (fun g hg' => by unfold Tr.stands at hst; exact List.all_eq_true.1 hst g hg')
        have c26 := g26 [] [] (by simp) (by simp)
        refine fnA 10 ok6 (by simp) ?_
        (conv => whnf); (repeat' (first | (refine bT ?_; conv => whnf) | (refine bF ?_; conv => whnf) | (refine bN ?_) | (refine bD (fun hh => ?_) (fun hh => ?_) <;> first | (exfalso; omega) | (conv => whnf)) | (refine bEq (fun hh => ?_) (fun hh => ?_) <;> first | (exfalso; omega) | (conv => whnf)) | (refine bNe (fun hh => ?_) (fun hh => ?_) <;> first | (exfalso; omega) | (conv => whnf)) | (refine (c10).callq rfl rfl (fun r (hr : r = _) => ?_); subst hr; conv => whnf) | (refine (c23).callq rfl rfl (fun r (hr : r = _) => ?_); subst hr; conv => whnf) | (refine (c17).callq rfl rfl (fun r (hr : r = _) => ?_); subst hr; conv => whnf) | (refine (c18).callzq rfl rfl (fun r (hr : r = _) => ?_); subst hr; conv => whnf) | (refine (c27).callzq rfl rfl (fun r rows (hr : r = _ ∧ rows = _) => ?_); obtain ⟨hr1, hr2⟩ := hr; subst hr1; subst hr2; refine ⟨rfl, ?_⟩; conv => whnf) | (refine (c26).lendq rfl (fun r (hr : r = _) => ?_); subst hr; refine ⟨rfl, ?_⟩; conv => whnf) | (refine (c24).callzq rfl rfl (fun r rows (hr : r = _ ∧ rows = _) => ?_); obtain ⟨hr1, hr2⟩ := hr; subst hr1; subst hr2; refine ⟨rfl, ?_⟩; conv => whnf) | (refine wIn (by omega) ?_; conv => whnf) | (refine nI (by omega) ?_; conv => whnf)))
        refine loop_i (α := Unit) (fun _ => [(15, .int .i64 0), (14, .own 7 0), (12, .row 3), (5, .own 1 0), (3, .own 0 0), (1, .isl (l.map Gu.av))]) (fun _ => [.box false d.cells, .box false [.int .i64 P, .int .i64 A], .fresh, .row false 3 1 [], .row false 114 7 (d.f.ss.map Sec.av), .row false 45 2 (d.rs.map s2), .row false 3 1 (d.sh.map i1), .box false (d.cp 4 5 6), .fresh, .fresh]) (fun _ => True) (fun _ => 0) () (meets_id (by (repeat' apply And.intro) <;> first | rfl | exact True.intro | (intro hh; cases hh))) trivial ?_
        intro _ _
        have h00 : ([] : List (List AV)).length = 0 := rfl
        (conv => whnf); (repeat' (first | (refine bT ?_; conv => whnf) | (refine bF ?_; conv => whnf) | (refine bN ?_) | (refine bD (fun hh => ?_) (fun hh => ?_) <;> first | (exfalso; omega) | (conv => whnf)) | (refine bEq (fun hh => ?_) (fun hh => ?_) <;> first | (exfalso; omega) | (conv => whnf)) | (refine bNe (fun hh => ?_) (fun hh => ?_) <;> first | (exfalso; omega) | (conv => whnf)) | (refine (c17).lendq rfl (fun r (hr : r = _) => ?_); subst hr; refine ⟨rfl, ?_⟩; conv => whnf) | (refine wIn (by omega) ?_; conv => whnf) | (refine nI (by omega) ?_; conv => whnf)))
        all_goals
          refine c25.callq rfl rfl (fun r ⟨F, hF, hr⟩ => ?_); subst hr
          obtain ⟨t1, t2⟩ := hmost F hF
          have hF99 := hF.1
          have hgF : Gu.ok ⟨F, A⟩ d.rs.length := ⟨⟨by simp, by simp; omega⟩, hA⟩
          have cF := g17 d [⟨F, A⟩] (by omega) (by omega) (errC_zero hb (okCl1 hgF))
          rw [t1] at cF
          by_cases h99 : F = 99
          · (conv => whnf); (repeat' (first | (refine bT ?_; conv => whnf) | (refine bF ?_; conv => whnf) | (refine bN ?_) | (refine bD (fun hh => ?_) (fun hh => ?_) <;> first | (exfalso; omega) | (conv => whnf)) | (refine bEq (fun hh => ?_) (fun hh => ?_) <;> first | (exfalso; omega) | (conv => whnf)) | (refine bNe (fun hh => ?_) (fun hh => ?_) <;> first | (exfalso; omega) | (conv => whnf)) | (refine (cF).lendq rfl (fun r (hr : r = _) => ?_); subst hr; refine ⟨rfl, ?_⟩; conv => whnf) | (refine (g12).callq rfl rfl (fun r (hr : r = _) => ?_); subst hr; conv => whnf) | (refine wIn (by omega) ?_; conv => whnf) | (refine nI (by omega) ?_; conv => whnf)))
            all_goals rfl
          · have hgF1 : Gu.ok ⟨(F : Int) + 1, A⟩ d.rs.length := ⟨⟨by simp; omega, by simp; omega⟩, hA⟩
            have cF1 := g17 d [⟨(F : Int) + 1, A⟩] (by omega) (by omega) (errC_zero hb (okCl1 hgF1))
            have t3 := t2 (by omega)
            (conv => whnf); (repeat' (first | (refine bT ?_; conv => whnf) | (refine bF ?_; conv => whnf) | (refine bN ?_) | (refine bD (fun hh => ?_) (fun hh => ?_) <;> first | (exfalso; omega) | (conv => whnf)) | (refine bEq (fun hh => ?_) (fun hh => ?_) <;> first | (exfalso; omega) | (conv => whnf)) | (refine bNe (fun hh => ?_) (fun hh => ?_) <;> first | (exfalso; omega) | (conv => whnf)) | (refine (cF).lendq rfl (fun r (hr : r = _) => ?_); subst hr; refine ⟨rfl, ?_⟩; conv => whnf) | (refine (cF1).lendq rfl (fun r (hr : r = _) => ?_); subst hr; refine ⟨rfl, ?_⟩; conv => whnf) | (refine (g12).callq rfl rfl (fun r (hr : r = _) => ?_); subst hr; conv => whnf) | (refine wIn (by omega) ?_; conv => whnf) | (refine nI (by omega) ?_; conv => whnf)))
            all_goals rfl
      · have hne : d.wk l ≠ [] := fun hh => by
          have h1 := stands_iff.1 (wk_nil.1 hh) l[j] (List.getElem_mem hj)
          have h2 : d.worst.weak l[j] = [] := List.eq_nil_iff_forall_not_mem.2 fun i hi => by
            have h3 := lst_mem.1 hi
            rw [h1 i h3.1] at h3; cases h3.2
          rw [h2] at hj2; cases hj2
        have hp1 : 1 ≤ (d.wk l).length := by
          cases hh : d.wk l with
          | nil => exact absurd hh hne
          | cons x m => simp
        have hns : d.worst.stands l ≠ true := fun hh => hne (wk_nil.2 hh)
        have hst : d.st l = 2 ∨ d.st l = 3 := by
          have h1 : d.st l ≠ 1 := fun hh => hns (st_one.1 hh)
          unfold Dm.st at h1 ⊢
          split
          · rename_i hh; rw [if_pos hh] at h1; exact absurd rfl h1
          · split <;> simp
        have c18 := g18 d l j hj (by omega) (by omega) he hj1 hj2
        have hwj := weak_le d.worst l[j]
        have hwlen := worst_len d
        have c26 := g26 (d.worst.weak l[j]) (d.wk l) (by omega) (by omega)
        have hsw : ∀ i ∈ d.worst.weak l[j], i ∈ d.wk l := fun i hi => wk_mem.2 ⟨by have := (lst_mem.1 hi).1; omega, l[j], List.getElem_mem hj, (lst_mem.1 hi).2⟩
        rw [all_contains hsw] at c26
        by_cases hP : 0 ≤ P ∧ P < (d.wk l).length
        · obtain ⟨p, rfl⟩ : ∃ p : Nat, P = p := ⟨P.toNat, by omega⟩
          have hplt : p < (d.wk l).length := by omega
          obtain ⟨w0, hw0⟩ : ∃ w, (d.wk l)[p] = w := ⟨_, rfl⟩
          have hw0m : w0 ∈ d.wk l := by rw [← hw0]; exact List.getElem_mem hplt
          have hw0n := wk_lt hw0m
          have hrow0 : ((d.wk l).map n1).getD (p : Int).toNat [] = [.int .i64 w0] := by
            rw [Int.toNat_natCast, getD_map n1 _ p hplt, hw0]; rfl
          have ed : (d.rs.map s2).getD ((w0 : Nat) : Int).toNat [] = s2 (d.rs.getD w0 (0, 0)) := by
            rw [Int.toNat_natCast, getD_mapD s2 _ w0 (0, 0) (by omega)]
          have hml0 := mend_len (d.wk l) d.rs
          have hmm0 : ((Go.Proofs.mend d.rs (d.wk l)).map s2).length = d.rs.length := by rw [List.length_map, hml0]
          have em : ((Go.Proofs.mend d.rs (d.wk l)).map s2).getD ((w0 : Nat) : Int).toNat [] = s2 ((Go.Proofs.mend d.rs (d.wk l)).getD w0 (0, 0)) := by
            rw [Int.toNat_natCast, getD_mapD s2 _ w0 (0, 0) (by omega)]
          have hleft := left_st hb hcl hw0m
          have hok3 := put_ok (i := w0) (p := d.rs.getD w0 (0, 0)) hmok (by
            rw [List.getD_eq_getElem?_getD, List.getElem?_eq_getElem hw0n]; exact rib_mem hb _ (List.getElem_mem hw0n))
          have hlen3 := put_len (d.mend (d.wk l)) w0 (d.rs.getD w0 (0, 0))
          have c17L := g17 ((d.mend (d.wk l)).put w0 (d.rs.getD w0 (0, 0))) l (by omega) hms (errC_zero hok3 (by rw [hlen3, hmlen]; exact hcl))
          rw [put_cells] at c17L
          rcases hst with hst | hst <;> rw [hst] at c17
          · skip
            refine fnA 10 ok6 (by simp) ?_
            (conv => whnf); (repeat' (first | (refine bT ?_; conv => whnf) | (refine bF ?_; conv => whnf) | (refine bN ?_) | (refine bD (fun hh => ?_) (fun hh => ?_) <;> first | (exfalso; omega) | (conv => whnf)) | (refine bEq (fun hh => ?_) (fun hh => ?_) <;> first | (exfalso; omega) | (conv => whnf)) | (refine bNe (fun hh => ?_) (fun hh => ?_) <;> first | (exfalso; omega) | (conv => whnf)) | (refine (c10).callq rfl rfl (fun r (hr : r = _) => ?_); subst hr; conv => whnf) | (refine (c23).callq rfl rfl (fun r (hr : r = _) => ?_); subst hr; conv => whnf) | (refine (c17).callq rfl rfl (fun r (hr : r = _) => ?_); subst hr; conv => whnf) | (refine (c18).callzq rfl rfl (fun r rows (hr : r = _ ∧ rows = _) => ?_); obtain ⟨hr1, hr2⟩ := hr; subst hr1; subst hr2; refine ⟨rfl, ?_⟩; conv => whnf) | (refine (c27).callzq rfl rfl (fun r rows (hr : r = _ ∧ rows = _) => ?_); obtain ⟨hr1, hr2⟩ := hr; subst hr1; subst hr2; refine ⟨rfl, ?_⟩; conv => whnf) | (refine (c26).lendq rfl (fun r (hr : r = _) => ?_); subst hr; refine ⟨rfl, ?_⟩; conv => whnf) | (refine (c24).callzq rfl rfl (fun r rows (hr : r = _ ∧ rows = _) => ?_); obtain ⟨hr1, hr2⟩ := hr; subst hr1; subst hr2; refine ⟨rfl, ?_⟩; conv => whnf) | (refine wIn (by omega) ?_; conv => whnf) | (refine nI (by omega) ?_; conv => whnf)))
            rotate_left
            · have hz : ((((d.wk l).map n1).length : Int) == 0) = false := by rw [beq_eq_false_iff_ne]; omega
              rw [hz] at hh
              exact absurd rfl hh
            refine loop_i (α := Nat) (fun k => [(15, .int .i64 k), (14, .own 7 0), (12, .row 3), (5, .own 1 0), (3, .own 0 0), (1, .isl (l.map Gu.av))]) (fun k => [.box false d.cells, .box false [.int .i64 p, .int .i64 A], .fresh, .row false 3 1 ((d.wk l).map n1), .row false 114 7 (d.f.ss.map Sec.av), .row false 45 2 ((Go.Proofs.mend d.rs ((d.wk l).take k)).map s2), .row false 3 1 (d.sh.map i1), .box false (d.cp 4 5 6), .fresh, .fresh]) (fun k => k ≤ (d.wk l).length) (fun k => (d.wk l).length - k) 0 ?_ (by omega) ?_
            · rw [List.take_zero]; exact (meets_id (by (repeat' apply And.intro) <;> first | rfl | exact True.intro | (intro hh; cases hh)))
            intro k hk
            conv => whnf
            refine bD (fun h3 => ?_) (fun h3 => ?_)
            · have hlt : k < (d.wk l).length := by omega
              obtain ⟨w, hw⟩ : ∃ w, (d.wk l)[k] = w := ⟨_, rfl⟩
              have hwm : w ∈ d.wk l := by rw [← hw]; exact List.getElem_mem hlt
              have hwn := wk_lt hwm
              have hrow : ((d.wk l).map n1).getD (k : Int).toNat [] = [.int .i64 w] := by
                rw [Int.toNat_natCast, getD_map n1 _ k hlt, hw]; rfl
              have c23w := g23 d w (by omega)
              rw [decide_eq_true ⟨by omega, by omega⟩] at c23w
              have hml := mend_len ((d.wk l).take k) d.rs
              have hmm : ((Go.Proofs.mend d.rs ((d.wk l).take k)).map s2).length = d.rs.length := by rw [List.length_map, hml]
              have e1 : ((Go.Proofs.mend d.rs ((d.wk l).take k)).map s2).getD ((w : Nat) : Int).toNat [] = s2 ((Go.Proofs.mend d.rs ((d.wk l).take k)).getD w (0, 0)) := by
                rw [Int.toNat_natCast, getD_mapD s2 _ w (0, 0) (by omega)]
              (conv => whnf); (repeat' (first | (refine bT ?_; conv => whnf) | (refine bF ?_; conv => whnf) | (refine bN ?_) | (refine bD (fun hh => ?_) (fun hh => ?_) <;> first | (exfalso; omega) | (conv => whnf)) | (refine bEq (fun hh => ?_) (fun hh => ?_) <;> first | (exfalso; omega) | (conv => whnf)) | (refine bNe (fun hh => ?_) (fun hh => ?_) <;> first | (exfalso; omega) | (conv => whnf)) | (refine iaI (by omega) (by omega) hrow ?_; conv => whnf) | (refine (c23w).callq rfl rfl (fun r (hr : r = _) => ?_); subst hr; conv => whnf) | (refine iaI (by omega) (by omega) e1 ?_; conv => whnf) | (refine wIn (by omega) ?_; conv => whnf) | (refine nI (by omega) ?_; conv => whnf)))
              refine ⟨k + 1, ?_, by omega, by omega⟩
              have e : (Go.Proofs.mend d.rs ((d.wk l).take (k + 1))).map s2 = ((Go.Proofs.mend d.rs ((d.wk l).take k)).map s2).set ((w : Nat) : Int).toNat [.int .i64 99999, .int .i64 99999] := by
                rw [mend_take _ _ hlt, hw, Int.toNat_natCast, List.map_set]; rfl
              rw [e]
              exact (meets_id (by (repeat' apply And.intro) <;> first | rfl | exact True.intro | (intro hh; cases hh)))
            · have hkk : k = (d.wk l).length := by omega
              subst hkk
              rw [List.take_length]
              (conv => whnf); (repeat' (first | (refine bT ?_; conv => whnf) | (refine bF ?_; conv => whnf) | (refine bN ?_) | (refine bD (fun hh => ?_) (fun hh => ?_) <;> first | (exfalso; omega) | (conv => whnf)) | (refine bEq (fun hh => ?_) (fun hh => ?_) <;> first | (exfalso; omega) | (conv => whnf)) | (refine bNe (fun hh => ?_) (fun hh => ?_) <;> first | (exfalso; omega) | (conv => whnf)) | (refine (c17s).lendq rfl (fun r (hr : r = _) => ?_); subst hr; refine ⟨rfl, ?_⟩; conv => whnf) | (refine iaI (by omega) (by omega) hrow0 ?_; conv => whnf) | (refine iaI (by omega) (by omega) ed ?_; conv => whnf) | (refine iaI (by omega) (by omega) em ?_; conv => whnf) | (refine (c17L).lendq rfl (fun r (hr : r = _) => ?_); subst hr; refine ⟨rfl, ?_⟩; conv => whnf) | (refine wIn (by omega) ?_; conv => whnf) | (refine nI (by omega) ?_; conv => whnf)))
              all_goals
                refine c25.callq rfl rfl (fun r ⟨F, hF, hr⟩ => ?_); subst hr
                obtain ⟨t1, t2⟩ := hmost F hF
                have hF99 := hF.1
                have hgF : Gu.ok ⟨F, A⟩ d.rs.length := ⟨⟨by simp, by simp; omega⟩, hA⟩
                have cF := g17 d [⟨F, A⟩] (by omega) (by omega) (errC_zero hb (okCl1 hgF))
                rw [t1] at cF
                by_cases h99 : F = 99
                · (conv => whnf); (repeat' (first | (refine bT ?_; conv => whnf) | (refine bF ?_; conv => whnf) | (refine bN ?_) | (refine bD (fun hh => ?_) (fun hh => ?_) <;> first | (exfalso; omega) | (conv => whnf)) | (refine bEq (fun hh => ?_) (fun hh => ?_) <;> first | (exfalso; omega) | (conv => whnf)) | (refine bNe (fun hh => ?_) (fun hh => ?_) <;> first | (exfalso; omega) | (conv => whnf)) | (refine (cF).lendq rfl (fun r (hr : r = _) => ?_); subst hr; refine ⟨rfl, ?_⟩; conv => whnf) | (refine (g12).callq rfl rfl (fun r (hr : r = _) => ?_); subst hr; conv => whnf) | (refine wIn (by omega) ?_; conv => whnf) | (refine nI (by omega) ?_; conv => whnf)))
                  all_goals rfl
                · have hgF1 : Gu.ok ⟨(F : Int) + 1, A⟩ d.rs.length := ⟨⟨by simp; omega, by simp; omega⟩, hA⟩
                  have cF1 := g17 d [⟨(F : Int) + 1, A⟩] (by omega) (by omega) (errC_zero hb (okCl1 hgF1))
                  have t3 := t2 (by omega)
                  (conv => whnf); (repeat' (first | (refine bT ?_; conv => whnf) | (refine bF ?_; conv => whnf) | (refine bN ?_) | (refine bD (fun hh => ?_) (fun hh => ?_) <;> first | (exfalso; omega) | (conv => whnf)) | (refine bEq (fun hh => ?_) (fun hh => ?_) <;> first | (exfalso; omega) | (conv => whnf)) | (refine bNe (fun hh => ?_) (fun hh => ?_) <;> first | (exfalso; omega) | (conv => whnf)) | (refine (cF).lendq rfl (fun r (hr : r = _) => ?_); subst hr; refine ⟨rfl, ?_⟩; conv => whnf) | (refine (cF1).lendq rfl (fun r (hr : r = _) => ?_); subst hr; refine ⟨rfl, ?_⟩; conv => whnf) | (refine (g12).callq rfl rfl (fun r (hr : r = _) => ?_); subst hr; conv => whnf) | (refine wIn (by omega) ?_; conv => whnf) | (refine nI (by omega) ?_; conv => whnf)))
                  all_goals rfl
          · skip
            refine fnA 10 ok6 (by simp) ?_
            (conv => whnf); (repeat' (first | (refine bT ?_; conv => whnf) | (refine bF ?_; conv => whnf) | (refine bN ?_) | (refine bD (fun hh => ?_) (fun hh => ?_) <;> first | (exfalso; omega) | (conv => whnf)) | (refine bEq (fun hh => ?_) (fun hh => ?_) <;> first | (exfalso; omega) | (conv => whnf)) | (refine bNe (fun hh => ?_) (fun hh => ?_) <;> first | (exfalso; omega) | (conv => whnf)) | (refine (c10).callq rfl rfl (fun r (hr : r = _) => ?_); subst hr; conv => whnf) | (refine (c23).callq rfl rfl (fun r (hr : r = _) => ?_); subst hr; conv => whnf) | (refine (c17).callq rfl rfl (fun r (hr : r = _) => ?_); subst hr; conv => whnf) | (refine (c18).callzq rfl rfl (fun r rows (hr : r = _ ∧ rows = _) => ?_); obtain ⟨hr1, hr2⟩ := hr; subst hr1; subst hr2; refine ⟨rfl, ?_⟩; conv => whnf) | (refine (c27).callzq rfl rfl (fun r rows (hr : r = _ ∧ rows = _) => ?_); obtain ⟨hr1, hr2⟩ := hr; subst hr1; subst hr2; refine ⟨rfl, ?_⟩; conv => whnf) | (refine (c26).lendq rfl (fun r (hr : r = _) => ?_); subst hr; refine ⟨rfl, ?_⟩; conv => whnf) | (refine (c24).callzq rfl rfl (fun r rows (hr : r = _ ∧ rows = _) => ?_); obtain ⟨hr1, hr2⟩ := hr; subst hr1; subst hr2; refine ⟨rfl, ?_⟩; conv => whnf) | (refine wIn (by omega) ?_; conv => whnf) | (refine nI (by omega) ?_; conv => whnf)))
            rotate_left
            · have hz : ((((d.wk l).map n1).length : Int) == 0) = false := by rw [beq_eq_false_iff_ne]; omega
              rw [hz] at hh
              exact absurd rfl hh
            refine loop_i (α := Nat) (fun k => [(15, .int .i64 k), (14, .own 7 0), (12, .row 3), (5, .own 1 0), (3, .own 0 0), (1, .isl (l.map Gu.av))]) (fun k => [.box false d.cells, .box false [.int .i64 p, .int .i64 A], .fresh, .row false 3 1 ((d.wk l).map n1), .row false 114 7 (d.f.ss.map Sec.av), .row false 45 2 ((Go.Proofs.mend d.rs ((d.wk l).take k)).map s2), .row false 3 1 (d.sh.map i1), .box false (d.cp 4 5 6), .fresh, .fresh]) (fun k => k ≤ (d.wk l).length) (fun k => (d.wk l).length - k) 0 ?_ (by omega) ?_
            · rw [List.take_zero]; exact (meets_id (by (repeat' apply And.intro) <;> first | rfl | exact True.intro | (intro hh; cases hh)))
            intro k hk
            conv => whnf
            refine bD (fun h3 => ?_) (fun h3 => ?_)
            · have hlt : k < (d.wk l).length := by omega
              obtain ⟨w, hw⟩ : ∃ w, (d.wk l)[k] = w := ⟨_, rfl⟩
              have hwm : w ∈ d.wk l := by rw [← hw]; exact List.getElem_mem hlt
              have hwn := wk_lt hwm
              have hrow : ((d.wk l).map n1).getD (k : Int).toNat [] = [.int .i64 w] := by
                rw [Int.toNat_natCast, getD_map n1 _ k hlt, hw]; rfl
              have c23w := g23 d w (by omega)
              rw [decide_eq_true ⟨by omega, by omega⟩] at c23w
              have hml := mend_len ((d.wk l).take k) d.rs
              have hmm : ((Go.Proofs.mend d.rs ((d.wk l).take k)).map s2).length = d.rs.length := by rw [List.length_map, hml]
              have e1 : ((Go.Proofs.mend d.rs ((d.wk l).take k)).map s2).getD ((w : Nat) : Int).toNat [] = s2 ((Go.Proofs.mend d.rs ((d.wk l).take k)).getD w (0, 0)) := by
                rw [Int.toNat_natCast, getD_mapD s2 _ w (0, 0) (by omega)]
              (conv => whnf); (repeat' (first | (refine bT ?_; conv => whnf) | (refine bF ?_; conv => whnf) | (refine bN ?_) | (refine bD (fun hh => ?_) (fun hh => ?_) <;> first | (exfalso; omega) | (conv => whnf)) | (refine bEq (fun hh => ?_) (fun hh => ?_) <;> first | (exfalso; omega) | (conv => whnf)) | (refine bNe (fun hh => ?_) (fun hh => ?_) <;> first | (exfalso; omega) | (conv => whnf)) | (refine iaI (by omega) (by omega) hrow ?_; conv => whnf) | (refine (c23w).callq rfl rfl (fun r (hr : r = _) => ?_); subst hr; conv => whnf) | (refine iaI (by omega) (by omega) e1 ?_; conv => whnf) | (refine wIn (by omega) ?_; conv => whnf) | (refine nI (by omega) ?_; conv => whnf)))
              refine ⟨k + 1, ?_, by omega, by omega⟩
              have e : (Go.Proofs.mend d.rs ((d.wk l).take (k + 1))).map s2 = ((Go.Proofs.mend d.rs ((d.wk l).take k)).map s2).set ((w : Nat) : Int).toNat [.int .i64 99999, .int .i64 99999] := by
                rw [mend_take _ _ hlt, hw, Int.toNat_natCast, List.map_set]; rfl
              rw [e]
              exact (meets_id (by (repeat' apply And.intro) <;> first | rfl | exact True.intro | (intro hh; cases hh)))
            · have hkk : k = (d.wk l).length := by omega
              subst hkk
              rw [List.take_length]
              (conv => whnf); (repeat' (first | (refine bT ?_; conv => whnf) | (refine bF ?_; conv => whnf) | (refine bN ?_) | (refine bD (fun hh => ?_) (fun hh => ?_) <;> first | (exfalso; omega) | (conv => whnf)) | (refine bEq (fun hh => ?_) (fun hh => ?_) <;> first | (exfalso; omega) | (conv => whnf)) | (refine bNe (fun hh => ?_) (fun hh => ?_) <;> first | (exfalso; omega) | (conv => whnf)) | (refine (c17s).lendq rfl (fun r (hr : r = _) => ?_); subst hr; refine ⟨rfl, ?_⟩; conv => whnf) | (refine iaI (by omega) (by omega) hrow0 ?_; conv => whnf) | (refine iaI (by omega) (by omega) ed ?_; conv => whnf) | (refine iaI (by omega) (by omega) em ?_; conv => whnf) | (refine (c17L).lendq rfl (fun r (hr : r = _) => ?_); subst hr; refine ⟨rfl, ?_⟩; conv => whnf) | (refine wIn (by omega) ?_; conv => whnf) | (refine nI (by omega) ?_; conv => whnf)))
              all_goals
                refine c25.callq rfl rfl (fun r ⟨F, hF, hr⟩ => ?_); subst hr
                obtain ⟨t1, t2⟩ := hmost F hF
                have hF99 := hF.1
                have hgF : Gu.ok ⟨F, A⟩ d.rs.length := ⟨⟨by simp, by simp; omega⟩, hA⟩
                have cF := g17 d [⟨F, A⟩] (by omega) (by omega) (errC_zero hb (okCl1 hgF))
                rw [t1] at cF
                by_cases h99 : F = 99
                · (conv => whnf); (repeat' (first | (refine bT ?_; conv => whnf) | (refine bF ?_; conv => whnf) | (refine bN ?_) | (refine bD (fun hh => ?_) (fun hh => ?_) <;> first | (exfalso; omega) | (conv => whnf)) | (refine bEq (fun hh => ?_) (fun hh => ?_) <;> first | (exfalso; omega) | (conv => whnf)) | (refine bNe (fun hh => ?_) (fun hh => ?_) <;> first | (exfalso; omega) | (conv => whnf)) | (refine (cF).lendq rfl (fun r (hr : r = _) => ?_); subst hr; refine ⟨rfl, ?_⟩; conv => whnf) | (refine (g12).callq rfl rfl (fun r (hr : r = _) => ?_); subst hr; conv => whnf) | (refine wIn (by omega) ?_; conv => whnf) | (refine nI (by omega) ?_; conv => whnf)))
                  all_goals rfl
                · have hgF1 : Gu.ok ⟨(F : Int) + 1, A⟩ d.rs.length := ⟨⟨by simp; omega, by simp; omega⟩, hA⟩
                  have cF1 := g17 d [⟨(F : Int) + 1, A⟩] (by omega) (by omega) (errC_zero hb (okCl1 hgF1))
                  have t3 := t2 (by omega)
                  (conv => whnf); (repeat' (first | (refine bT ?_; conv => whnf) | (refine bF ?_; conv => whnf) | (refine bN ?_) | (refine bD (fun hh => ?_) (fun hh => ?_) <;> first | (exfalso; omega) | (conv => whnf)) | (refine bEq (fun hh => ?_) (fun hh => ?_) <;> first | (exfalso; omega) | (conv => whnf)) | (refine bNe (fun hh => ?_) (fun hh => ?_) <;> first | (exfalso; omega) | (conv => whnf)) | (refine (cF).lendq rfl (fun r (hr : r = _) => ?_); subst hr; refine ⟨rfl, ?_⟩; conv => whnf) | (refine (cF1).lendq rfl (fun r (hr : r = _) => ?_); subst hr; refine ⟨rfl, ?_⟩; conv => whnf) | (refine (g12).callq rfl rfl (fun r (hr : r = _) => ?_); subst hr; conv => whnf) | (refine wIn (by omega) ?_; conv => whnf) | (refine nI (by omega) ?_; conv => whnf)))
                  all_goals rfl
        · rcases hst with hst | hst <;> rw [hst] at c17
          · skip
            refine fnA 10 ok6 (by simp) ?_
            (conv => whnf); (repeat' (first | (refine bT ?_; conv => whnf) | (refine bF ?_; conv => whnf) | (refine bN ?_) | (refine bD (fun hh => ?_) (fun hh => ?_) <;> first | (exfalso; omega) | (conv => whnf)) | (refine bEq (fun hh => ?_) (fun hh => ?_) <;> first | (exfalso; omega) | (conv => whnf)) | (refine bNe (fun hh => ?_) (fun hh => ?_) <;> first | (exfalso; omega) | (conv => whnf)) | (refine (c10).callq rfl rfl (fun r (hr : r = _) => ?_); subst hr; conv => whnf) | (refine (c23).callq rfl rfl (fun r (hr : r = _) => ?_); subst hr; conv => whnf) | (refine (c17).callq rfl rfl (fun r (hr : r = _) => ?_); subst hr; conv => whnf) | (refine (c18).callzq rfl rfl (fun r rows (hr : r = _ ∧ rows = _) => ?_); obtain ⟨hr1, hr2⟩ := hr; subst hr1; subst hr2; refine ⟨rfl, ?_⟩; conv => whnf) | (refine (c27).callzq rfl rfl (fun r rows (hr : r = _ ∧ rows = _) => ?_); obtain ⟨hr1, hr2⟩ := hr; subst hr1; subst hr2; refine ⟨rfl, ?_⟩; conv => whnf) | (refine (c26).lendq rfl (fun r (hr : r = _) => ?_); subst hr; refine ⟨rfl, ?_⟩; conv => whnf) | (refine (c24).callzq rfl rfl (fun r rows (hr : r = _ ∧ rows = _) => ?_); obtain ⟨hr1, hr2⟩ := hr; subst hr1; subst hr2; refine ⟨rfl, ?_⟩; conv => whnf) | (refine wIn (by omega) ?_; conv => whnf) | (refine nI (by omega) ?_; conv => whnf)))
            rotate_left
            · have hz : ((((d.wk l).map n1).length : Int) == 0) = false := by rw [beq_eq_false_iff_ne]; omega
              rw [hz] at hh
              exact absurd rfl hh
            refine loop_i (α := Nat) (fun k => [(15, .int .i64 k), (14, .own 7 0), (12, .row 3), (5, .own 1 0), (3, .own 0 0), (1, .isl (l.map Gu.av))]) (fun k => [.box false d.cells, .box false [.int .i64 P, .int .i64 A], .fresh, .row false 3 1 ((d.wk l).map n1), .row false 114 7 (d.f.ss.map Sec.av), .row false 45 2 ((Go.Proofs.mend d.rs ((d.wk l).take k)).map s2), .row false 3 1 (d.sh.map i1), .box false (d.cp 4 5 6), .fresh, .fresh]) (fun k => k ≤ (d.wk l).length) (fun k => (d.wk l).length - k) 0 ?_ (by omega) ?_
            · rw [List.take_zero]; exact (meets_id (by (repeat' apply And.intro) <;> first | rfl | exact True.intro | (intro hh; cases hh)))
            intro k hk
            conv => whnf
            refine bD (fun h3 => ?_) (fun h3 => ?_)
            · have hlt : k < (d.wk l).length := by omega
              obtain ⟨w, hw⟩ : ∃ w, (d.wk l)[k] = w := ⟨_, rfl⟩
              have hwm : w ∈ d.wk l := by rw [← hw]; exact List.getElem_mem hlt
              have hwn := wk_lt hwm
              have hrow : ((d.wk l).map n1).getD (k : Int).toNat [] = [.int .i64 w] := by
                rw [Int.toNat_natCast, getD_map n1 _ k hlt, hw]; rfl
              have c23w := g23 d w (by omega)
              rw [decide_eq_true ⟨by omega, by omega⟩] at c23w
              have hml := mend_len ((d.wk l).take k) d.rs
              have hmm : ((Go.Proofs.mend d.rs ((d.wk l).take k)).map s2).length = d.rs.length := by rw [List.length_map, hml]
              have e1 : ((Go.Proofs.mend d.rs ((d.wk l).take k)).map s2).getD ((w : Nat) : Int).toNat [] = s2 ((Go.Proofs.mend d.rs ((d.wk l).take k)).getD w (0, 0)) := by
                rw [Int.toNat_natCast, getD_mapD s2 _ w (0, 0) (by omega)]
              (conv => whnf); (repeat' (first | (refine bT ?_; conv => whnf) | (refine bF ?_; conv => whnf) | (refine bN ?_) | (refine bD (fun hh => ?_) (fun hh => ?_) <;> first | (exfalso; omega) | (conv => whnf)) | (refine bEq (fun hh => ?_) (fun hh => ?_) <;> first | (exfalso; omega) | (conv => whnf)) | (refine bNe (fun hh => ?_) (fun hh => ?_) <;> first | (exfalso; omega) | (conv => whnf)) | (refine iaI (by omega) (by omega) hrow ?_; conv => whnf) | (refine (c23w).callq rfl rfl (fun r (hr : r = _) => ?_); subst hr; conv => whnf) | (refine iaI (by omega) (by omega) e1 ?_; conv => whnf) | (refine wIn (by omega) ?_; conv => whnf) | (refine nI (by omega) ?_; conv => whnf)))
              refine ⟨k + 1, ?_, by omega, by omega⟩
              have e : (Go.Proofs.mend d.rs ((d.wk l).take (k + 1))).map s2 = ((Go.Proofs.mend d.rs ((d.wk l).take k)).map s2).set ((w : Nat) : Int).toNat [.int .i64 99999, .int .i64 99999] := by
                rw [mend_take _ _ hlt, hw, Int.toNat_natCast, List.map_set]; rfl
              rw [e]
              exact (meets_id (by (repeat' apply And.intro) <;> first | rfl | exact True.intro | (intro hh; cases hh)))
            · have hkk : k = (d.wk l).length := by omega
              subst hkk
              rw [List.take_length]
              (conv => whnf); (repeat' (first | (refine bT ?_; conv => whnf) | (refine bF ?_; conv => whnf) | (refine bN ?_) | (refine bD (fun hh => ?_) (fun hh => ?_) <;> first | (exfalso; omega) | (conv => whnf)) | (refine bEq (fun hh => ?_) (fun hh => ?_) <;> first | (exfalso; omega) | (conv => whnf)) | (refine bNe (fun hh => ?_) (fun hh => ?_) <;> first | (exfalso; omega) | (conv => whnf)) | (refine (c17s).lendq rfl (fun r (hr : r = _) => ?_); subst hr; refine ⟨rfl, ?_⟩; conv => whnf) | (refine wIn (by omega) ?_; conv => whnf) | (refine nI (by omega) ?_; conv => whnf)))
              all_goals
                refine c25.callq rfl rfl (fun r ⟨F, hF, hr⟩ => ?_); subst hr
                obtain ⟨t1, t2⟩ := hmost F hF
                have hF99 := hF.1
                have hgF : Gu.ok ⟨F, A⟩ d.rs.length := ⟨⟨by simp, by simp; omega⟩, hA⟩
                have cF := g17 d [⟨F, A⟩] (by omega) (by omega) (errC_zero hb (okCl1 hgF))
                rw [t1] at cF
                by_cases h99 : F = 99
                · (conv => whnf); (repeat' (first | (refine bT ?_; conv => whnf) | (refine bF ?_; conv => whnf) | (refine bN ?_) | (refine bD (fun hh => ?_) (fun hh => ?_) <;> first | (exfalso; omega) | (conv => whnf)) | (refine bEq (fun hh => ?_) (fun hh => ?_) <;> first | (exfalso; omega) | (conv => whnf)) | (refine bNe (fun hh => ?_) (fun hh => ?_) <;> first | (exfalso; omega) | (conv => whnf)) | (refine (cF).lendq rfl (fun r (hr : r = _) => ?_); subst hr; refine ⟨rfl, ?_⟩; conv => whnf) | (refine (g12).callq rfl rfl (fun r (hr : r = _) => ?_); subst hr; conv => whnf) | (refine wIn (by omega) ?_; conv => whnf) | (refine nI (by omega) ?_; conv => whnf)))
                  all_goals rfl
                · have hgF1 : Gu.ok ⟨(F : Int) + 1, A⟩ d.rs.length := ⟨⟨by simp; omega, by simp; omega⟩, hA⟩
                  have cF1 := g17 d [⟨(F : Int) + 1, A⟩] (by omega) (by omega) (errC_zero hb (okCl1 hgF1))
                  have t3 := t2 (by omega)
                  (conv => whnf); (repeat' (first | (refine bT ?_; conv => whnf) | (refine bF ?_; conv => whnf) | (refine bN ?_) | (refine bD (fun hh => ?_) (fun hh => ?_) <;> first | (exfalso; omega) | (conv => whnf)) | (refine bEq (fun hh => ?_) (fun hh => ?_) <;> first | (exfalso; omega) | (conv => whnf)) | (refine bNe (fun hh => ?_) (fun hh => ?_) <;> first | (exfalso; omega) | (conv => whnf)) | (refine (cF).lendq rfl (fun r (hr : r = _) => ?_); subst hr; refine ⟨rfl, ?_⟩; conv => whnf) | (refine (cF1).lendq rfl (fun r (hr : r = _) => ?_); subst hr; refine ⟨rfl, ?_⟩; conv => whnf) | (refine (g12).callq rfl rfl (fun r (hr : r = _) => ?_); subst hr; conv => whnf) | (refine wIn (by omega) ?_; conv => whnf) | (refine nI (by omega) ?_; conv => whnf)))
                  all_goals rfl
          · skip
            refine fnA 10 ok6 (by simp) ?_
            (conv => whnf); (repeat' (first | (refine bT ?_; conv => whnf) | (refine bF ?_; conv => whnf) | (refine bN ?_) | (refine bD (fun hh => ?_) (fun hh => ?_) <;> first | (exfalso; omega) | (conv => whnf)) | (refine bEq (fun hh => ?_) (fun hh => ?_) <;> first | (exfalso; omega) | (conv => whnf)) | (refine bNe (fun hh => ?_) (fun hh => ?_) <;> first | (exfalso; omega) | (conv => whnf)) | (refine (c10).callq rfl rfl (fun r (hr : r = _) => ?_); subst hr; conv => whnf) | (refine (c23).callq rfl rfl (fun r (hr : r = _) => ?_); subst hr; conv => whnf) | (refine (c17).callq rfl rfl (fun r (hr : r = _) => ?_); subst hr; conv => whnf) | (refine (c18).callzq rfl rfl (fun r rows (hr : r = _ ∧ rows = _) => ?_); obtain ⟨hr1, hr2⟩ := hr; subst hr1; subst hr2; refine ⟨rfl, ?_⟩; conv => whnf) | (refine (c27).callzq rfl rfl (fun r rows (hr : r = _ ∧ rows = _) => ?_); obtain ⟨hr1, hr2⟩ := hr; subst hr1; subst hr2; refine ⟨rfl, ?_⟩; conv => whnf) | (refine (c26).lendq rfl (fun r (hr : r = _) => ?_); subst hr; refine ⟨rfl, ?_⟩; conv => whnf) | (refine (c24).callzq rfl rfl (fun r rows (hr : r = _ ∧ rows = _) => ?_); obtain ⟨hr1, hr2⟩ := hr; subst hr1; subst hr2; refine ⟨rfl, ?_⟩; conv => whnf) | (refine wIn (by omega) ?_; conv => whnf) | (refine nI (by omega) ?_; conv => whnf)))
            rotate_left
            · have hz : ((((d.wk l).map n1).length : Int) == 0) = false := by rw [beq_eq_false_iff_ne]; omega
              rw [hz] at hh
              exact absurd rfl hh
            refine loop_i (α := Nat) (fun k => [(15, .int .i64 k), (14, .own 7 0), (12, .row 3), (5, .own 1 0), (3, .own 0 0), (1, .isl (l.map Gu.av))]) (fun k => [.box false d.cells, .box false [.int .i64 P, .int .i64 A], .fresh, .row false 3 1 ((d.wk l).map n1), .row false 114 7 (d.f.ss.map Sec.av), .row false 45 2 ((Go.Proofs.mend d.rs ((d.wk l).take k)).map s2), .row false 3 1 (d.sh.map i1), .box false (d.cp 4 5 6), .fresh, .fresh]) (fun k => k ≤ (d.wk l).length) (fun k => (d.wk l).length - k) 0 ?_ (by omega) ?_
            · rw [List.take_zero]; exact (meets_id (by (repeat' apply And.intro) <;> first | rfl | exact True.intro | (intro hh; cases hh)))
            intro k hk
            conv => whnf
            refine bD (fun h3 => ?_) (fun h3 => ?_)
            · have hlt : k < (d.wk l).length := by omega
              obtain ⟨w, hw⟩ : ∃ w, (d.wk l)[k] = w := ⟨_, rfl⟩
              have hwm : w ∈ d.wk l := by rw [← hw]; exact List.getElem_mem hlt
              have hwn := wk_lt hwm
              have hrow : ((d.wk l).map n1).getD (k : Int).toNat [] = [.int .i64 w] := by
                rw [Int.toNat_natCast, getD_map n1 _ k hlt, hw]; rfl
              have c23w := g23 d w (by omega)
              rw [decide_eq_true ⟨by omega, by omega⟩] at c23w
              have hml := mend_len ((d.wk l).take k) d.rs
              have hmm : ((Go.Proofs.mend d.rs ((d.wk l).take k)).map s2).length = d.rs.length := by rw [List.length_map, hml]
              have e1 : ((Go.Proofs.mend d.rs ((d.wk l).take k)).map s2).getD ((w : Nat) : Int).toNat [] = s2 ((Go.Proofs.mend d.rs ((d.wk l).take k)).getD w (0, 0)) := by
                rw [Int.toNat_natCast, getD_mapD s2 _ w (0, 0) (by omega)]
              (conv => whnf); (repeat' (first | (refine bT ?_; conv => whnf) | (refine bF ?_; conv => whnf) | (refine bN ?_) | (refine bD (fun hh => ?_) (fun hh => ?_) <;> first | (exfalso; omega) | (conv => whnf)) | (refine bEq (fun hh => ?_) (fun hh => ?_) <;> first | (exfalso; omega) | (conv => whnf)) | (refine bNe (fun hh => ?_) (fun hh => ?_) <;> first | (exfalso; omega) | (conv => whnf)) | (refine iaI (by omega) (by omega) hrow ?_; conv => whnf) | (refine (c23w).callq rfl rfl (fun r (hr : r = _) => ?_); subst hr; conv => whnf) | (refine iaI (by omega) (by omega) e1 ?_; conv => whnf) | (refine wIn (by omega) ?_; conv => whnf) | (refine nI (by omega) ?_; conv => whnf)))
              refine ⟨k + 1, ?_, by omega, by omega⟩
              have e : (Go.Proofs.mend d.rs ((d.wk l).take (k + 1))).map s2 = ((Go.Proofs.mend d.rs ((d.wk l).take k)).map s2).set ((w : Nat) : Int).toNat [.int .i64 99999, .int .i64 99999] := by
                rw [mend_take _ _ hlt, hw, Int.toNat_natCast, List.map_set]; rfl
              rw [e]
              exact (meets_id (by (repeat' apply And.intro) <;> first | rfl | exact True.intro | (intro hh; cases hh)))
            · have hkk : k = (d.wk l).length := by omega
              subst hkk
              rw [List.take_length]
              (conv => whnf); (repeat' (first | (refine bT ?_; conv => whnf) | (refine bF ?_; conv => whnf) | (refine bN ?_) | (refine bD (fun hh => ?_) (fun hh => ?_) <;> first | (exfalso; omega) | (conv => whnf)) | (refine bEq (fun hh => ?_) (fun hh => ?_) <;> first | (exfalso; omega) | (conv => whnf)) | (refine bNe (fun hh => ?_) (fun hh => ?_) <;> first | (exfalso; omega) | (conv => whnf)) | (refine (c17s).lendq rfl (fun r (hr : r = _) => ?_); subst hr; refine ⟨rfl, ?_⟩; conv => whnf) | (refine wIn (by omega) ?_; conv => whnf) | (refine nI (by omega) ?_; conv => whnf)))
              all_goals
                refine c25.callq rfl rfl (fun r ⟨F, hF, hr⟩ => ?_); subst hr
                obtain ⟨t1, t2⟩ := hmost F hF
                have hF99 := hF.1
                have hgF : Gu.ok ⟨F, A⟩ d.rs.length := ⟨⟨by simp, by simp; omega⟩, hA⟩
                have cF := g17 d [⟨F, A⟩] (by omega) (by omega) (errC_zero hb (okCl1 hgF))
                rw [t1] at cF
                by_cases h99 : F = 99
                · (conv => whnf); (repeat' (first | (refine bT ?_; conv => whnf) | (refine bF ?_; conv => whnf) | (refine bN ?_) | (refine bD (fun hh => ?_) (fun hh => ?_) <;> first | (exfalso; omega) | (conv => whnf)) | (refine bEq (fun hh => ?_) (fun hh => ?_) <;> first | (exfalso; omega) | (conv => whnf)) | (refine bNe (fun hh => ?_) (fun hh => ?_) <;> first | (exfalso; omega) | (conv => whnf)) | (refine (cF).lendq rfl (fun r (hr : r = _) => ?_); subst hr; refine ⟨rfl, ?_⟩; conv => whnf) | (refine (g12).callq rfl rfl (fun r (hr : r = _) => ?_); subst hr; conv => whnf) | (refine wIn (by omega) ?_; conv => whnf) | (refine nI (by omega) ?_; conv => whnf)))
                  all_goals rfl
                · have hgF1 : Gu.ok ⟨(F : Int) + 1, A⟩ d.rs.length := ⟨⟨by simp; omega, by simp; omega⟩, hA⟩
                  have cF1 := g17 d [⟨(F : Int) + 1, A⟩] (by omega) (by omega) (errC_zero hb (okCl1 hgF1))
                  have t3 := t2 (by omega)
                  (conv => whnf); (repeat' (first | (refine bT ?_; conv => whnf) | (refine bF ?_; conv => whnf) | (refine bN ?_) | (refine bD (fun hh => ?_) (fun hh => ?_) <;> first | (exfalso; omega) | (conv => whnf)) | (refine bEq (fun hh => ?_) (fun hh => ?_) <;> first | (exfalso; omega) | (conv => whnf)) | (refine bNe (fun hh => ?_) (fun hh => ?_) <;> first | (exfalso; omega) | (conv => whnf)) | (refine (cF).lendq rfl (fun r (hr : r = _) => ?_); subst hr; refine ⟨rfl, ?_⟩; conv => whnf) | (refine (cF1).lendq rfl (fun r (hr : r = _) => ?_); subst hr; refine ⟨rfl, ?_⟩; conv => whnf) | (refine (g12).callq rfl rfl (fun r (hr : r = _) => ?_); subst hr; conv => whnf) | (refine wIn (by omega) ?_; conv => whnf) | (refine nI (by omega) ?_; conv => whnf)))
                  all_goals rfl
    · rw [decide_eq_false hA] at c23
      refine fnA 10 ok6 (by simp) ?_
      (conv => whnf); (repeat' (first | (refine bT ?_; conv => whnf) | (refine bF ?_; conv => whnf) | (refine bN ?_) | (refine bD (fun hh => ?_) (fun hh => ?_) <;> first | (exfalso; omega) | (conv => whnf)) | (refine bEq (fun hh => ?_) (fun hh => ?_) <;> first | (exfalso; omega) | (conv => whnf)) | (refine bNe (fun hh => ?_) (fun hh => ?_) <;> first | (exfalso; omega) | (conv => whnf)) | (refine (c10).callq rfl rfl (fun r (hr : r = _) => ?_); subst hr; conv => whnf) | (refine (c23).callq rfl rfl (fun r (hr : r = _) => ?_); subst hr; conv => whnf) | (refine (g12).callq rfl rfl (fun r (hr : r = _) => ?_); subst hr; conv => whnf) | (refine wIn (by omega) ?_; conv => whnf) | (refine nI (by omega) ?_; conv => whnf)))
      all_goals rfl
end Go.Proofs
