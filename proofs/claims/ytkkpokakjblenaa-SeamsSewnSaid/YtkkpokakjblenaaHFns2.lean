/- What each function of this program answers, proved by walking its body: the contracts that the law rests on, part 2. -/
import Derived.Test.YtkkpokakjblenaaHFns1
set_option linter.unusedSimpArgs false
set_option linter.unusedVariables false
set_option linter.unusedSectionVars false
namespace Go.Proofs
open Go.Eng
attribute [local irreducible] Go.Eng.brB Go.Eng.need Go.Eng.wrE Go.Eng.iaE Go.Eng.slE Go.Eng.apE Go.Eng.CallZ Go.Eng.CallE Go.Eng.VCallE Go.Eng.YldE Go.Eng.GoC Go.Eng.MeetsE Go.Eng.FnA Go.Eng.FnV Go.Eng.ItA
set_option maxRecDepth 100000
theorem s89o (p : Pul) (hok : p.f.ok) (l : List Int) (hl : l.length ≤ 1000) (hx : ∀ x ∈ l, 0 ≤ x ∧ x ≤ 60) : FnO Try.prog 89 [.agg p.cells, .isl (l.map iAV)] (fun r rows => r = .row 3 ∧ rows = [(3, .row false 3 1 ((l.map p.f.leng).map iAV))]) := by
  have l1 : (l.map iAV).length = l.length := by simp
  have hp := hok.2.1
  have hr := hok.2.2.1
  refine fnO 4 ok89 (by simp) ?_
  (conv => whnf); (repeat' ((first | refine bT ?_ | refine bF ?_ | refine bN ?_ | ((first | refine bD ?_ ?_ | refine bEq ?_ ?_ | refine bNe ?_ ?_) <;> intro hh <;> try (exfalso; omega)) | refine wIn (by omega) ?_ | refine nI (by omega) ?_) <;> conv => whnf))
  refine loop_i (α := Nat) (fun k => [(10, .int .i64 k), (9, .int .i64 ↑(l.map iAV).length), (8, .isl (l.map iAV)), (5, .row 3), (2, .own 0 0)]) (fun k => [.box false p.cells, .fresh, .fresh, .row false 3 1 (((l.take k).map p.f.leng).map iAV)]) (fun k => k ≤ l.length) (fun k => l.length - k) 0 (meets_nil 3 (by (repeat' apply And.intro) <;> first | rfl | exact True.intro | (intro hh; cases hh))) (by omega) ?_
  intro k hk0
  conv => whnf
  refine bD (fun h4 => ?_) (fun h4 => ?_)
  · have hk : k < l.length := by omega
    have hxk := hx _ (List.getElem_mem hk)
    have hm := mul_le_big (n := p.f.run) (s := l[k]) (by omega) (by omega)
    have hm0 : 0 ≤ p.f.run * (1000 + l[k]) := Int.mul_nonneg (by omega) (by omega)
    have hd : 0 ≤ (p.f.run * (1000 + l[k])).tdiv 1000 ∧ (p.f.run * (1000 + l[k])).tdiv 1000 ≤ 20000000000 := by
      rw [Int.tdiv_eq_ediv_of_nonneg hm0]; omega
    have hs : ((l.take (k + 1)).map p.f.leng).map iAV = ((l.take k).map p.f.leng).map iAV ++ [[.int .i64 (p.f.leng l[k])]] := by
      rw [List.take_succ_eq_append_getElem hk, List.map_append, List.map_append]; rfl
    (conv => whnf); (repeat' ((first | refine bT ?_ | refine bF ?_ | refine bN ?_ | ((first | refine bD ?_ ?_ | refine bEq ?_ ?_ | refine bNe ?_ ?_) <;> intro hh <;> try (exfalso; omega)) | refine wIn (by omega) ?_ | refine nI (by omega) ?_) <;> conv => whnf))
    refine iaI (by omega) (by omega) (getD_map iAV l k hk) ?_
    (conv => whnf); (repeat' ((first | refine bT ?_ | refine bF ?_ | refine bN ?_ | ((first | refine bD ?_ ?_ | refine bEq ?_ ?_ | refine bNe ?_ ?_) <;> intro hh <;> try (exfalso; omega)) | refine wIn (by omega) ?_ | refine nI (by omega) ?_) <;> conv => whnf))
    refine apI (by simp [AV.one]) (by simp; omega) ?_
    (conv => whnf); (repeat' ((first | refine bT ?_ | refine bF ?_ | refine bN ?_ | ((first | refine bD ?_ ?_ | refine bEq ?_ ?_ | refine bNe ?_ ?_) <;> intro hh <;> try (exfalso; omega)) | refine wIn (by omega) ?_ | refine nI (by omega) ?_) <;> conv => whnf))
    refine ⟨k + 1, ?_, by omega, by omega⟩
    rw [hs]
    exact (meets_ren 3 2 (by (repeat' apply And.intro) <;> first | rfl | exact True.intro | (intro hh; cases hh)))
  · have : k = l.length := by omega
    subst this
    rw [List.take_length]
    (conv => whnf); (repeat' ((first | refine bT ?_ | refine bF ?_ | refine bN ?_ | ((first | refine bD ?_ ?_ | refine bEq ?_ ?_ | refine bNe ?_ ?_) <;> intro hh <;> try (exfalso; omega)) | refine wIn (by omega) ?_ | refine nI (by omega) ?_) <;> conv => whnf))
    all_goals exact ⟨rfl, rfl⟩
theorem flat_iAV : ∀ l : List Int, AV.flatL ((l.map iAV).flatten) = true
  | [] => rfl
  | i :: l => by simp only [List.map_cons, List.flatten_cons, iAV, List.cons_append, List.nil_append, AV.flatL, AV.flat, Bool.true_and]; exact flat_iAV l
theorem runsN_succ (f : Fig) {k : Nat} (hk : k < f.d.bs.length) : (f.runsN (k + 1)).map rowAV = (f.runsN k).map rowAV ++ [[.isl ((f.d.bs[k].nums.map f.leng).map iAV)]] := by
  unfold Fig.runsN
  rw [List.take_succ_eq_append_getElem hk, List.map_append, List.map_append]; rfl
theorem s59_yes (f : Fig) (hok : f.ok) (hh : f.d.has = true) : FnA Try.prog 59 [.agg f.cells] (· = .tup [.agg f.pul.cells, .int .i64 0]) := by
  have l0 : (f.d.bs.map Bolt.av).length = f.d.bs.length := by simp
  have hbl := hok.1.1.1
  refine fnA 9 ok59 (by simp) ?_
  (conv => whnf); (repeat' ((first | refine bT ?_ | refine bF ?_ | refine bN ?_ | ((first | refine bD ?_ ?_ | refine bEq ?_ ?_ | refine bNe ?_ ?_) <;> intro hh <;> try (exfalso; omega)) | refine wIn (by omega) ?_ | refine nI (by omega) ?_) <;> conv => whnf))
  refine loop_i (α := Nat) (fun k => [(15, .int .i64 k), (14, .int .i64 ↑(f.d.bs.map Bolt.av).length), (4, .own 2 0), (2, .own 1 0), (1, .own 0 0)]) (fun k => [.box false f.cells, .box false [.nils, .nils, .int .i64 0, .nils, .nils, .int .i64 0, .int .i64 0, .int .i64 0, .int .i64 0, .nils, .nils, .nils], .box false (f.cells ++ [.row 7]), .fresh, .fresh, .fresh, .fresh, .row false 23 1 ((f.runsN k).map rowAV)]) (fun k => k ≤ f.d.bs.length) (fun k => f.d.bs.length - k) 0 (meets_nil 7 (by (repeat' apply And.intro) <;> first | rfl | exact True.intro | (intro hh; cases hh))) (by omega) ?_
  intro k hk0
  conv => whnf
  refine bD (fun h4 => ?_) (fun h4 => ?_)
  · have hk : k < f.d.bs.length := by omega
    have hE : f.d.eB k = 0 := by
      unfold Dome.eB Dome.no; rw [if_pos hok.1, if_pos (show 0 ≤ (k : Int) ∧ (k : Int) < f.d.bs.length from ⟨by omega, by omega⟩), if_pos rfl, if_pos hh]
    have e := k18 f.d k hE hk
    have hbok : f.d.bs[k].ok := hok.1.2 _ (List.getElem_mem hk)
    have hnl := nums_le _ hbok
    have e2 := s89o ⟨f, f.runsN k⟩ hok f.d.bs[k].nums (by omega) (nums_in hbok)
    have hs := runsN_succ f hk
    have hrl : ((f.runsN k).map rowAV).length = k := by simp [Fig.runsN]; omega
    (conv => whnf); (repeat' ((first | refine bT ?_ | refine bF ?_ | refine bN ?_ | ((first | refine bD ?_ ?_ | refine bEq ?_ ?_ | refine bNe ?_ ?_) <;> intro hh <;> try (exfalso; omega)) | (refine (e).callzq rfl rfl fun _ h => ?_; subst h) | refine wIn (by omega) ?_ | refine nI (by omega) ?_) <;> conv => whnf))
    refine e2.calllq rfl rfl (fun r rows (hr : r = _ ∧ rows = _) => ?_); obtain ⟨hr1, hr2⟩ := hr; subst hr1; subst hr2; refine ⟨rfl, by simp only [flatRB, flat_iAV, Bool.and_self], rfl, ?_⟩
    (conv => whnf); (repeat' ((first | refine bT ?_ | refine bF ?_ | refine bN ?_ | ((first | refine bD ?_ ?_ | refine bEq ?_ ?_ | refine bNe ?_ ?_) <;> intro hh <;> try (exfalso; omega)) | refine wIn (by omega) ?_ | refine nI (by omega) ?_) <;> conv => whnf))
    refine apI (by simp [AV.one]) (by simp only [hrl]; simp; omega) ?_
    (conv => whnf); (repeat' ((first | refine bT ?_ | refine bF ?_ | refine bN ?_ | ((first | refine bD ?_ ?_ | refine bEq ?_ ?_ | refine bNe ?_ ?_) <;> intro hh <;> try (exfalso; omega)) | refine wIn (by omega) ?_ | refine nI (by omega) ?_) <;> conv => whnf))
    refine ⟨k + 1, ?_, by omega, by omega⟩
    rw [hs]
    exact (meets_ren 7 6 (by (repeat' apply And.intro) <;> first | rfl | exact True.intro | (intro hh; cases hh)))
  · have : k = f.d.bs.length := by omega
    subst this
    (conv => whnf); (repeat' ((first | refine bT ?_ | refine bF ?_ | refine bN ?_ | ((first | refine bD ?_ ?_ | refine bEq ?_ ?_ | refine bNe ?_ ?_) <;> intro hh <;> try (exfalso; omega)) | refine wIn (by omega) ?_ | refine nI (by omega) ?_) <;> conv => whnf))
    all_goals rfl
def Fig.runsL (f : Fig) : List (List Int) := f.runsN f.d.bs.length
def Fig.pc (f : Fig) : List AV := f.cells ++ [.isl (f.runsL.map rowAV)]
/-- the lengths that the run of a gore has -/
def Fig.rs (f : Fig) (i : Nat) : List Int := f.runsL.getD (f.d.gs.getD i 0).toNat []
theorem leng_in {f : Fig} (hok : f.ok) {s : Int} (hs : 0 ≤ s ∧ s ≤ 60) : 0 ≤ f.leng s ∧ f.leng s < f.per := by
  have hp := hok.2.1
  have hr := hok.2.2.1
  have hm0 : 0 ≤ f.run * (1000 + s) := Int.mul_nonneg (by omega) (by omega)
  have hd : 0 ≤ (f.run * (1000 + s)).tdiv 1000 := by rw [Int.tdiv_eq_ediv_of_nonneg hm0]; omega
  unfold Fig.leng
  rw [Int.tmod_eq_emod_of_nonneg hd]
  exact ⟨Int.emod_nonneg _ (by omega), Int.emod_lt_of_pos _ (by omega)⟩
theorem pul_len (f : Fig) : f.runsL.length = f.d.bs.length := by simp [Fig.runsL, Fig.runsN]
theorem gore_ok {f : Fig} (hok : f.ok) {i : Nat} (hi : i < f.d.gs.length) : 0 ≤ f.d.gs[i] ∧ f.d.gs[i] < f.d.bs.length := hok.1.1.2.2.1 _ (List.getElem_mem hi)
theorem rs_eq {f : Fig} (hok : f.ok) {i : Nat} (hi : i < f.d.gs.length) : ∃ b, b ∈ f.d.bs ∧ f.d.bs.getD f.d.gs[i].toNat ⟨0, 0, [], 0⟩ = b ∧ f.rs i = b.nums.map f.leng := by
  have h := gore_ok hok hi
  have hlt : f.d.gs[i].toNat < f.d.bs.length := by omega
  refine ⟨f.d.bs[f.d.gs[i].toNat], List.getElem_mem _, by simp [List.getD_eq_getElem?_getD, hlt], ?_⟩
  have e : f.d.gs.getD i 0 = f.d.gs[i] := by simp [List.getD_eq_getElem?_getD, hi]
  unfold Fig.rs
  rw [e]
  simp [Fig.runsL, Fig.runsN, List.getD_eq_getElem?_getD, hlt]
theorem rs_in {f : Fig} (hok : f.ok) {i : Nat} (hi : i < f.d.gs.length) : ∀ x ∈ f.rs i, 0 ≤ x ∧ x < f.per := by
  obtain ⟨b, hb, _, e⟩ := rs_eq hok hi
  rw [e]
  intro x hx
  obtain ⟨s, hs, rfl⟩ := List.mem_map.1 hx
  exact leng_in hok (nums_in (hok.1.2 b hb) s hs)
theorem rs_len {f : Fig} (hok : f.ok) {i : Nat} (hi : i < f.d.gs.length) : (f.rs i).length ≤ 61 := by
  obtain ⟨b, hb, _, e⟩ := rs_eq hok hi
  rw [e, List.length_map]
  exact nums_le b (hok.1.2 b hb)
theorem rs_pos {f : Fig} (hok : f.ok) (hh : f.d.has = true) {i : Nat} (hi : i < f.d.gs.length) : 0 < (f.rs i).length := by
  obtain ⟨b, hb, _, e⟩ := rs_eq hok hi
  rw [e, List.length_map]
  exact nums_pos hh hb
theorem s90 (f : Fig) (hok : f.ok) (i : Nat) (hi : i < f.d.gs.length) : FnA Try.prog 90 [.agg f.pc, .int .i64 i] (· = .isl ((f.rs i).map iAV)) := by
  have l1 : (f.d.gs.map iAV).length = f.d.gs.length := by simp
  have l2 : (f.runsL.map rowAV).length = f.d.bs.length := by rw [List.length_map, pul_len]
  have hg := gore_ok hok hi
  have hlt : f.d.gs[i].toNat < f.runsL.length := by rw [pul_len]; omega
  have e : f.d.gs.getD i 0 = f.d.gs[i] := by simp [List.getD_eq_getElem?_getD, hi]
  have hrow : (f.runsL.map rowAV).getD f.d.gs[i].toNat [] = rowAV (f.rs i) := by
    unfold Fig.rs
    rw [e, getD_map rowAV f.runsL _ hlt]; simp [List.getD_eq_getElem?_getD, hlt]
  refine fnA 1 ok90 (by simp) ?_
  (conv => whnf); (repeat' ((first | refine bT ?_ | refine bF ?_ | refine bN ?_ | ((first | refine bD ?_ ?_ | refine bEq ?_ ?_ | refine bNe ?_ ?_) <;> intro hh <;> try (exfalso; omega)) | refine wIn (by omega) ?_ | refine nI (by omega) ?_) <;> conv => whnf))
  refine iaI (by omega) (by omega) (getD_map iAV f.d.gs i hi) ?_
  (conv => whnf); (repeat' ((first | refine bT ?_ | refine bF ?_ | refine bN ?_ | ((first | refine bD ?_ ?_ | refine bEq ?_ ?_ | refine bNe ?_ ?_) <;> intro hh <;> try (exfalso; omega)) | refine wIn (by omega) ?_ | refine nI (by omega) ?_) <;> conv => whnf))
  refine iaI (by omega) (by omega) hrow ?_
  (conv => whnf); (repeat' ((first | refine bT ?_ | refine bF ?_ | refine bN ?_ | ((first | refine bD ?_ ?_ | refine bEq ?_ ?_ | refine bNe ?_ ?_) <;> intro hh <;> try (exfalso; omega)) | refine wIn (by omega) ?_ | refine nI (by omega) ?_) <;> conv => whnf))
  all_goals rfl
def Fig.nx (f : Fig) (i : Nat) : Nat := (i + 1) % f.d.gs.length
/-- a seam meets with a length of its run -/
def Fig.mb (f : Fig) (i : Nat) (x : Int) : Bool := decide (f.dist ((f.st.getD i 0 + x).tmod f.per) (f.st.getD (f.nx i) 0) ≤ f.near)
def Fig.cnt (f : Fig) (i : Nat) : Nat := ((f.rs i).filter (f.mb i)).length
def Fig.mv (f : Fig) (i : Nat) : Int := if f.cnt i = (f.rs i).length then 1 else if f.cnt i = 0 then 2 else 3
theorem s60 (f : Fig) (hok : f.ok) (hh : f.d.has = true) (i : Nat) (hi : i < f.d.gs.length) : FnA Try.prog 60 [.agg f.pc, .int .i64 i] (· = .int .i64 (f.mv i)) := by
  have l1 : (f.st.map iAV).length = f.st.length := by simp
  have l2 : ((f.rs i).map iAV).length = (f.rs i).length := by simp
  have hgl := hok.1.1.2.1
  have hst := hok.2.2.2.2.1
  have hsx := hok.2.2.2.2.2.1
  have hti := hok.2.2.2.2.2.2.1
  have hp := hok.2.1
  have hrl := rs_len hok hi
  have hrp := rs_pos hok hh hi
  have hri := rs_in hok hi
  have hnx : f.nx i < f.st.length := by rw [hst]; exact Nat.mod_lt _ (by omega)
  have e1 := s90 f hok i hi
  have e2 : FnA Try.prog 91 [.agg f.cells, .int .i64 ((i : Int) + 1)] (· = .int .i64 (f.nx i)) := by
    have := s91 f hok ((i : Int) + 1) (by omega)
    have h : ((i : Int) + 1) % (f.ti.length : Int) = (f.nx i : Int) := by unfold Fig.nx; rw [hti]; push_cast; rfl
    rwa [h] at this
  have hn0 : (f.st.map iAV).getD (f.nx i) [] = [.int .i64 (f.st.getD (f.nx i) 0)] := row_at hnx
  have hs0 : (f.st.map iAV).getD i [] = [.int .i64 (f.st.getD i 0)] := row_at (by omega)
  have hb0 := hsx _ (List.getElem_mem hnx)
  have hb1 : f.st.getD (f.nx i) 0 = f.st[f.nx i] := by simp [List.getD_eq_getElem?_getD, hnx]
  have hc0 := hsx _ (List.getElem_mem (show i < f.st.length by omega))
  have hc1 : f.st.getD i 0 = f.st[i] := by simp [List.getD_eq_getElem?_getD, show i < f.st.length by omega]
  rw [← hb1] at hb0; rw [← hc1] at hc0
  have hcl : f.cnt i ≤ (f.rs i).length := List.length_filter_le _ _
  refine fnA 2 ok60 (by simp) ?_
  (conv => whnf); (repeat' ((first | refine bT ?_ | refine bF ?_ | refine bN ?_ | ((first | refine bD ?_ ?_ | refine bEq ?_ ?_ | refine bNe ?_ ?_) <;> intro hh <;> try (exfalso; omega)) | (refine (e1).callzq rfl rfl fun _ h => ?_; subst h) | (refine (e2).callq rfl rfl fun _ h => ?_; subst h) | refine wIn (by omega) ?_ | refine nI (by omega) ?_) <;> conv => whnf))
  refine iaI (by omega) (by omega) hn0 ?_
  (conv => whnf); (repeat' ((first | refine bT ?_ | refine bF ?_ | refine bN ?_ | ((first | refine bD ?_ ?_ | refine bEq ?_ ?_ | refine bNe ?_ ?_) <;> intro hh <;> try (exfalso; omega)) | refine wIn (by omega) ?_ | refine nI (by omega) ?_) <;> conv => whnf))
  refine loop_i (α := Nat) (fun k => [(27, .int .i64 k), (26, .int .i64 ↑((f.rs i).map iAV).length), (25, .isl ((f.rs i).map iAV)), (7, .int .i64 (((f.rs i).take k).filter (f.mb i)).length), (6, .int .i64 (f.st.getD (f.nx i) 0)), (5, .isl ((f.rs i).map iAV)), (2, .own 0 0), (1, .int .i64 i)]) (fun k => [.box false f.pc, .fresh]) (fun k => k ≤ (f.rs i).length) (fun k => (f.rs i).length - k) 0 (meets_id (by (repeat' apply And.intro) <;> first | rfl | exact True.intro | (intro hh; cases hh))) (by omega) ?_
  intro k hk0
  conv => whnf
  refine bD (fun h4 => ?_) (fun h4 => ?_)
  · have hk : k < (f.rs i).length := by omega
    have hxk := hri _ (List.getElem_mem hk)
    have hcc : (((f.rs i).take k).filter (f.mb i)).length ≤ 61 := Nat.le_trans (List.length_filter_le _ _) (by rw [List.length_take]; omega)
    have hm : (f.st.getD i 0 + (f.rs i)[k]).tmod f.per = (f.st.getD i 0 + (f.rs i)[k]) % f.per := Int.tmod_eq_emod_of_nonneg (by omega)
    have hm0 : 0 ≤ (f.st.getD i 0 + (f.rs i)[k]).tmod f.per := by rw [hm]; exact Int.emod_nonneg _ (by omega)
    have hm1 : (f.st.getD i 0 + (f.rs i)[k]).tmod f.per < f.per := by rw [hm]; exact Int.emod_lt_of_pos _ (by omega)
    have e3 := s92 f hok ((f.st.getD i 0 + (f.rs i)[k]).tmod f.per) (f.st.getD (f.nx i) 0) (by omega) (by omega)
    conv => whnf
    refine iaI (by omega) (by omega) (getD_map iAV (f.rs i) k hk) ?_
    (conv => whnf); (repeat' ((first | refine bT ?_ | refine bF ?_ | refine bN ?_ | ((first | refine bD ?_ ?_ | refine bEq ?_ ?_ | refine bNe ?_ ?_) <;> intro hh <;> try (exfalso; omega)) | refine wIn (by omega) ?_ | refine nI (by omega) ?_) <;> conv => whnf))
    refine iaI (by omega) (by omega) hs0 ?_
    (conv => whnf); (repeat' ((first | refine bT ?_ | refine bF ?_ | refine bN ?_ | ((first | refine bD ?_ ?_ | refine bEq ?_ ?_ | refine bNe ?_ ?_) <;> intro hh <;> try (exfalso; omega)) | (refine (e3).callq rfl rfl fun _ h => ?_; subst h) | refine wIn (by omega) ?_ | refine nI (by omega) ?_) <;> conv => whnf))
    · rename_i hh
      have hy : f.mb i (f.rs i)[k] = true := decide_eq_true hh
      have := filter_len_yes (p := f.mb i) hk hy
      refine ⟨k + 1, ?_, by omega, by omega⟩
      rw [this]
      exact (meets_id (by (repeat' apply And.intro) <;> first | rfl | exact True.intro | (intro hh; cases hh)))
    · rename_i hh
      have hy : f.mb i (f.rs i)[k] = false := decide_eq_false hh
      have := filter_len_no (p := f.mb i) hk hy
      refine ⟨k + 1, ?_, by omega, by omega⟩
      rw [this]
      exact (meets_id (by (repeat' apply And.intro) <;> first | rfl | exact True.intro | (intro hh; cases hh)))
  · have : k = (f.rs i).length := by omega
    subst this
    rw [List.take_length]
    unfold Fig.mv
    change f.cnt i ≤ _ at hcl
    have hce : ((f.rs i).filter (f.mb i)).length = f.cnt i := rfl
    rw [hce]
    by_cases c1 : f.cnt i = (f.rs i).length
    · rw [if_pos c1]
      (conv => whnf); (repeat' ((first | refine bT ?_ | refine bF ?_ | refine bN ?_ | ((first | refine bD ?_ ?_ | refine bEq ?_ ?_ | refine bNe ?_ ?_) <;> intro hh <;> try (exfalso; omega)) | refine wIn (by omega) ?_ | refine nI (by omega) ?_) <;> conv => whnf))
      all_goals rfl
    · rw [if_neg c1]
      by_cases c2 : f.cnt i = 0
      · rw [if_pos c2]
        (conv => whnf); (repeat' ((first | refine bT ?_ | refine bF ?_ | refine bN ?_ | ((first | refine bD ?_ ?_ | refine bEq ?_ ?_ | refine bNe ?_ ?_) <;> intro hh <;> try (exfalso; omega)) | refine wIn (by omega) ?_ | refine nI (by omega) ?_) <;> conv => whnf))
        all_goals rfl
      · rw [if_neg c2]
        (conv => whnf); (repeat' ((first | refine bT ?_ | refine bF ?_ | refine bN ?_ | ((first | refine bD ?_ ?_ | refine bEq ?_ ?_ | refine bNe ?_ ?_) <;> intro hh <;> try (exfalso; omega)) | refine wIn (by omega) ?_ | refine nI (by omega) ?_) <;> conv => whnf))
        all_goals rfl
def Fig.nr (f : Fig) (near step : Int) (l : List Int) : Bool := l.all fun r => decide (f.dist step r ≤ near)
theorem s128 (f : Fig) (hok : f.ok) (step near : Int) (l : List Int) (hl : l.length ≤ 1000) (hs : 0 ≤ step ∧ step ≤ 60) (hx : ∀ x ∈ l, 0 ≤ x ∧ x < f.per) : FnA Try.prog 128 [.agg f.pc, .int .i64 step, .isl (l.map iAV), .int .i64 near] (· = .bool (f.nr near step l)) := by
  have l1 : (l.map iAV).length = l.length := by simp
  have hp := hok.2.1
  refine fnA 1 ok128 (by simp) ?_
  (conv => whnf); (repeat' ((first | refine bT ?_ | refine bF ?_ | refine bN ?_ | ((first | refine bD ?_ ?_ | refine bEq ?_ ?_ | refine bNe ?_ ?_) <;> intro hh <;> try (exfalso; omega)) | refine wIn (by omega) ?_ | refine nI (by omega) ?_) <;> conv => whnf))
  refine loop_i (α := Nat) (fun k => [(13, .int .i64 k), (12, .int .i64 ↑(l.map iAV).length), (11, .isl (l.map iAV)), (4, .own 0 0), (3, .int .i64 near), (1, .int .i64 step)]) (fun k => [.box false f.pc]) (fun k => k ≤ l.length ∧ f.nr near step (l.take k) = true) (fun k => l.length - k) 0 (meets_id (by (repeat' apply And.intro) <;> first | rfl | exact True.intro | (intro hh; cases hh))) ⟨by omega, rfl⟩ ?_
  rintro k ⟨hk0, hk1⟩
  conv => whnf
  refine bD (fun h4 => ?_) (fun h4 => ?_)
  · have hk : k < l.length := by omega
    have hxk := hx _ (List.getElem_mem hk)
    have e3 := s92 f hok step l[k] (by omega) (by omega)
    conv => whnf
    refine iaI (by omega) (by omega) (getD_map iAV l k hk) ?_
    (conv => whnf); (repeat' ((first | refine bT ?_ | refine bF ?_ | refine bN ?_ | ((first | refine bD ?_ ?_ | refine bEq ?_ ?_ | refine bNe ?_ ?_) <;> intro hh <;> try (exfalso; omega)) | (refine (e3).callq rfl rfl fun _ h => ?_; subst h) | refine wIn (by omega) ?_ | refine nI (by omega) ?_) <;> conv => whnf))
    · have : f.nr near step l = false := each_no hk (p := fun r => decide (f.dist step r ≤ near)) (decide_eq_false (by omega))
      rw [this]
      all_goals rfl
    · exact ⟨k + 1, (meets_id (by (repeat' apply And.intro) <;> first | rfl | exact True.intro | (intro hh; cases hh))), ⟨by omega, each_step hk hk1 (decide_eq_true (by omega))⟩, by omega⟩
  · have : k = l.length := by omega
    subst this
    rw [List.take_length] at hk1
    rw [hk1]
    (conv => whnf); (repeat' ((first | refine bT ?_ | refine bF ?_ | refine bN ?_ | ((first | refine bD ?_ ?_ | refine bEq ?_ ?_ | refine bNe ?_ ?_) <;> intro hh <;> try (exfalso; omega)) | refine wIn (by omega) ?_ | refine nI (by omega) ?_) <;> conv => whnf))
    all_goals rfl
def Fig.stN (f : Fig) (near : Int) (i n : Nat) : List Int := ((List.range n).map fun (k : Nat) => (k : Int)).filter fun s => f.nr near s (f.rs i)
/-- the steps behind a gore -/
def Fig.stp (f : Fig) (near : Int) (i : Nat) : List Int := f.stN near i f.per.toNat
theorem stN_succ (f : Fig) (near : Int) (i n : Nat) : f.stN near i (n + 1) = if f.nr near n (f.rs i) then f.stN near i n ++ [(n : Int)] else f.stN near i n := by
  unfold Fig.stN
  rw [List.range_succ, List.map_append, List.filter_append]
  split
  · rename_i h; simp [h]
  · rename_i h; simp [h]
theorem stN_le (f : Fig) (near : Int) (i n : Nat) : (f.stN near i n).length ≤ n := by
  have := List.length_filter_le (fun s => f.nr near s (f.rs i)) ((List.range n).map fun (k : Nat) => (k : Int))
  unfold Fig.stN; simpa using this
theorem mem_stp {f : Fig} (hp : 0 ≤ f.per) {near : Int} {i : Nat} {s : Int} : s ∈ f.stp near i ↔ (0 ≤ s ∧ s < f.per) ∧ f.nr near s (f.rs i) = true := by
  unfold Fig.stp Fig.stN
  rw [List.mem_filter]
  constructor
  · rintro ⟨h1, h2⟩
    obtain ⟨k, hk, rfl⟩ := List.mem_map.1 h1
    have := List.mem_range.1 hk
    exact ⟨⟨by omega, by omega⟩, h2⟩
  · rintro ⟨h1, h2⟩
    exact ⟨List.mem_map.2 ⟨s.toNat, List.mem_range.2 (by omega), by omega⟩, h2⟩
theorem s104 (f : Fig) (hok : f.ok) (i : Nat) (hi : i < f.d.gs.length) (near : Int) : FnA Try.prog 104 [.agg f.pc, .int .i64 i, .int .i64 near] (· = .isl ((f.stp near i).map iAV)) := by
  have hp := hok.2.1
  have e1 := s90 f hok i hi
  have hrl := rs_len hok hi
  have hri := rs_in hok hi
  refine fnA 5 ok104 (by simp) ?_
  (conv => whnf); (repeat' ((first | refine bT ?_ | refine bF ?_ | refine bN ?_ | ((first | refine bD ?_ ?_ | refine bEq ?_ ?_ | refine bNe ?_ ?_) <;> intro hh <;> try (exfalso; omega)) | refine wIn (by omega) ?_ | refine nI (by omega) ?_) <;> conv => whnf))
  refine loop_i (α := Nat) (fun k => [(13, .int .i64 k), (12, .int .i64 f.per), (7, .row 4), (3, .own 0 0), (2, .int .i64 near), (1, .int .i64 i)]) (fun k => [.box false f.pc, .fresh, .fresh, .fresh, .row false 3 1 ((f.stN near i k).map iAV)]) (fun k => (k : Int) ≤ f.per) (fun k => f.per.toNat - k) 0 (meets_nil 4 (by (repeat' apply And.intro) <;> first | rfl | exact True.intro | (intro hh; cases hh))) (by omega) ?_
  intro k hk0
  conv => whnf
  refine bD (fun h4 => ?_) (fun h4 => ?_)
  · have e2 := s128 f hok k near (f.rs i) (by omega) (by omega) hri
    have hle := stN_le f near i k
    have hss := stN_succ f near i k
    cases hb : f.nr near k (f.rs i) with
    | true =>
      rw [hb] at e2 hss
      rw [if_pos rfl] at hss
      (conv => whnf); (repeat' ((first | refine bT ?_ | refine bF ?_ | refine bN ?_ | ((first | refine bD ?_ ?_ | refine bEq ?_ ?_ | refine bNe ?_ ?_) <;> intro hh <;> try (exfalso; omega)) | (refine (e1).callzq rfl rfl fun _ h => ?_; subst h) | (refine (e2).callq rfl rfl fun _ h => ?_; subst h) | refine wIn (by omega) ?_ | refine nI (by omega) ?_) <;> conv => whnf))
      refine apI (by simp [AV.one]) (by simp; omega) ?_
      (conv => whnf); (repeat' ((first | refine bT ?_ | refine bF ?_ | refine bN ?_ | ((first | refine bD ?_ ?_ | refine bEq ?_ ?_ | refine bNe ?_ ?_) <;> intro hh <;> try (exfalso; omega)) | refine wIn (by omega) ?_ | refine nI (by omega) ?_) <;> conv => whnf))
      refine ⟨k + 1, ?_, by omega, by omega⟩
      rw [hss, List.map_append]
      exact (meets_ren 4 3 (by (repeat' apply And.intro) <;> first | rfl | exact True.intro | (intro hh; cases hh)))
    | false =>
      rw [hb] at e2 hss
      rw [if_neg (by simp)] at hss
      (conv => whnf); (repeat' ((first | refine bT ?_ | refine bF ?_ | refine bN ?_ | ((first | refine bD ?_ ?_ | refine bEq ?_ ?_ | refine bNe ?_ ?_) <;> intro hh <;> try (exfalso; omega)) | (refine (e1).callzq rfl rfl fun _ h => ?_; subst h) | (refine (e2).callq rfl rfl fun _ h => ?_; subst h) | refine wIn (by omega) ?_ | refine nI (by omega) ?_) <;> conv => whnf))
      refine ⟨k + 1, ?_, by omega, by omega⟩
      rw [hss]
      exact (meets_id (by (repeat' apply And.intro) <;> first | rfl | exact True.intro | (intro hh; cases hh)))
  · have : k = f.per.toNat := by omega
    subst this
    (conv => whnf); (repeat' ((first | refine bT ?_ | refine bF ?_ | refine bN ?_ | ((first | refine bD ?_ ?_ | refine bEq ?_ ?_ | refine bNe ?_ ?_) <;> intro hh <;> try (exfalso; omega)) | refine wIn (by omega) ?_ | refine nI (by omega) ?_) <;> conv => whnf))
    all_goals rfl
theorem s59 (f : Fig) (hok : f.ok) (hh : f.d.has = true) : FnA Try.prog 59 [.agg f.cells] (· = .tup [.agg f.pc, .int .i64 0]) := s59_yes f hok hh
instance (f : Fig) : Decidable f.ok := by unfold Fig.ok; infer_instance
/-- the error of a figure that is pulled -/
def Fig.eF (f : Fig) : Int := if f.ok then (if f.d.has then 0 else 3) else f.chk
theorem chkF_ok {f : Fig} (h : f.ok) : f.chk = 0 := by unfold Fig.chk; rw [if_pos h.1, if_pos h.2]
theorem chkF_pos {f : Fig} (h : ¬ f.ok) : f.chk = 20 ∨ f.chk = 21 ∨ f.chk = 40 := by
  unfold Fig.chk
  by_cases h1 : f.d.ok
  · rw [if_pos h1, if_neg fun h2 => h ⟨h1, h2⟩]; exact .inr (.inr rfl)
  · rw [if_neg h1]
    rcases chk_pos h1 with h | h
    · exact .inl h
    · exact .inr (.inl h)
theorem eF_ok {f : Fig} (h : f.eF = 0) : f.ok ∧ f.d.has = true := by
  unfold Fig.eF at h
  split at h
  · rename_i h1
    split at h
    · rename_i h2; exact ⟨h1, h2⟩
    · cases h
  · rename_i h1
    have := chkF_pos h1
    omega
theorem s61 (f : Fig) (h : f.eF = 0) : FnA Try.prog 61 [.agg f.cells] (· = .tup [.agg f.pc, .int .i64 0]) := by
  obtain ⟨hok, hh⟩ := eF_ok h
  have e1 := s36 f
  rw [chkF_ok hok] at e1
  have e2 := s59 f hok hh
  refine fnA 9 ok61 (by simp) ?_
  (conv => whnf); (repeat' ((first | refine bT ?_ | refine bF ?_ | refine bN ?_ | ((first | refine bD ?_ ?_ | refine bEq ?_ ?_ | refine bNe ?_ ?_) <;> intro hh <;> try (exfalso; omega)) | (refine (e1).callq rfl rfl fun _ h => ?_; subst h) | (refine (e2).callzq rfl rfl fun _ h => ?_; subst h) | refine wIn (by omega) ?_ | refine nI (by omega) ?_) <;> conv => whnf))
  all_goals rfl
/-- the sums of steps behind the first gores -/
def Fig.sumL (f : Fig) (near : Int) : Nat → List Int
  | 0 => [0]
  | g + 1 => ((List.range f.per.toNat).map fun (k : Nat) => (k : Int)).filter fun x => (f.sumL near g).any fun y => (f.stp near g).any fun s => decide ((y + s).tmod f.per = x)
theorem tmod_in {a b : Int} (ha : 0 ≤ a) (hb : 1 ≤ b) : a.tmod b = a % b ∧ 0 ≤ a % b ∧ a % b < b := ⟨Int.tmod_eq_emod_of_nonneg ha, Int.emod_nonneg _ (by omega), Int.emod_lt_of_pos _ (by omega)⟩
theorem sumL_in {f : Fig} (hp : 1 ≤ f.per) {near : Int} : ∀ {g : Nat} {x : Int}, x ∈ f.sumL near g → 0 ≤ x ∧ x < f.per
  | 0, x, h => by simp only [Fig.sumL, List.mem_singleton] at h; omega
  | g + 1, x, h => by
    simp only [Fig.sumL, List.mem_filter] at h
    obtain ⟨k, hk, rfl⟩ := List.mem_map.1 h.1
    have := List.mem_range.1 hk
    omega
theorem mem_sumL {f : Fig} (hp : 1 ≤ f.per) {near : Int} {g : Nat} {x : Int} : x ∈ f.sumL near (g + 1) ↔ ∃ y ∈ f.sumL near g, ∃ s ∈ f.stp near g, x = (y + s).tmod f.per := by
  simp only [Fig.sumL, List.mem_filter, List.any_eq_true, decide_eq_true_eq]
  constructor
  · rintro ⟨_, y, hy, s, hs, h⟩
    exact ⟨y, hy, s, hs, h.symm⟩
  · rintro ⟨y, hy, s, hs, rfl⟩
    have h1 := sumL_in hp hy
    have h2 := (mem_stp (by omega)).1 hs
    obtain ⟨h3, h4, h5⟩ := tmod_in (a := y + s) (by omega) hp
    refine ⟨List.mem_map.2 ⟨((y + s).tmod f.per).toNat, List.mem_range.2 (by omega), by omega⟩, y, hy, s, hs, rfl⟩
theorem mlook_ins (L : List Int) (x : Int) : mlook .int (kAV L) (tAV L) (.int .i64 x) = some (if x ∈ L then some (.bool true) else none) := by
  have hk : keyV .int (.int .i64 x) = true := rfl
  have hg : ∀ (L : List Int) (i : Nat), ∃ r, findK .int (.int .i64 x) (kAV L) i = some r ∧ ((r = none ∧ x ∉ L) ∨ ∃ j, r = some j ∧ x ∈ L ∧ i ≤ j ∧ j < i + L.length) := by
    intro L
    induction L with
    | nil => exact fun i => ⟨none, rfl, .inl ⟨rfl, by simp⟩⟩
    | cons y L ih =>
      intro i
      have hq : keq .int (.int .i64 x) (.int .i64 y) = some (x == y) := rfl
      by_cases h : x = y
      · subst h
        exact ⟨some i, by simp [kAV, findK, hq], .inr ⟨i, rfl, by simp, by omega, by simp only [List.length_cons]; omega⟩⟩
      · obtain ⟨r, h1, h2⟩ := ih (i + 1)
        have hq' : keq .int (.int .i64 x) (.int .i64 y) = some false := by rw [hq]; simp [h]
        refine ⟨r, by simpa [kAV, findK, hq'] using h1, ?_⟩
        rcases h2 with ⟨h2, h3⟩ | ⟨j, h2, h3, h4, h5⟩
        · exact .inl ⟨h2, by simp [h, h3]⟩
        · exact .inr ⟨j, h2, by simp [h3], by omega, by simp only [List.length_cons]; omega⟩
  obtain ⟨r, h1, h2⟩ := hg L 0
  unfold mlook
  rcases h2 with ⟨rfl, h2⟩ | ⟨j, rfl, h2, _, h4⟩
  · rw [hk, h1, if_neg h2]
  · rw [hk, h1, if_pos h2]
    have : (tAV L)[j]? = some (.bool true) := by
      have : j < L.length := by omega
      simp [tAV, this]
    simp [this]
def Fig.clo (f : Fig) (near : Int) : Bool := decide (0 ∈ f.sumL near f.d.gs.length)
theorem s93 (f : Fig) (hok : f.ok) (near : Int) : FnA Try.prog 93 [.agg f.pc, .int .i64 near] (· = .bool (f.clo near)) := by
  have l1 : (f.st.map iAV).length = f.st.length := by simp
  have hgl := hok.1.1.2.1
  have hst := hok.2.2.2.2.1
  have hp := hok.2.1
  refine fnA 5 ok93 (by simp) ?_
  conv => whnf
  refine mpI (mput_ins [] 0) ?_
  conv => whnf
  refine loop_i (α := Nat × List Int) (fun p => [(19, .int .i64 p.1), (18, .int .i64 ↑(f.st.map iAV).length), (5, .row 1), (2, .own 0 0), (1, .int .i64 near)]) (fun p => [.box false f.pc, .mp false (kAV p.2) (tAV p.2), .fresh, .fresh, .fresh]) (fun p => p.1 ≤ f.d.gs.length ∧ ∀ x, x ∈ p.2 ↔ x ∈ f.sumL near p.1) (fun p => f.d.gs.length - p.1) (0, ins [] 0) (meets_id (by (repeat' apply And.intro) <;> first | rfl | exact True.intro | (intro hh; cases hh))) ⟨by simp, fun x => by simp [ins, Fig.sumL]⟩ ?_
  rintro ⟨k, L⟩ ⟨hk0, hL⟩
  dsimp only at hk0 hL ⊢
  conv => whnf
  refine bD (fun h4 => ?_) (fun h4 => ?_)
  · have hk : k < f.d.gs.length := by omega
    have e1 := s104 f hok k hk near
    have hsin : ∀ s ∈ f.stp near k, 0 ≤ s ∧ s < f.per := fun s hs => ((mem_stp (by omega)).1 hs).1
    have hsl : (f.stp near k).length ≤ 60 := Nat.le_trans (stN_le f near k _) (by omega)
    have hmem := fun x => mem_sumL (f := f) (by omega) (near := near) (g := k) (x := x)
    have hLin : ∀ y ∈ L, 0 ≤ y ∧ y < f.per := fun y hy => sumL_in (by omega) ((hL y).1 hy)
    generalize hl : f.stp near k = l at e1 hsin hsl hmem
    have hll : (l.map iAV).length = l.length := by simp
    (conv => whnf); (repeat' ((first | refine bT ?_ | refine bF ?_ | refine bN ?_ | ((first | refine bD ?_ ?_ | refine bEq ?_ ?_ | refine bNe ?_ ?_) <;> intro hh <;> try (exfalso; omega)) | (refine (e1).callzq rfl rfl fun _ h => ?_; subst h) | refine wIn (by omega) ?_ | refine nI (by omega) ?_) <;> conv => whnf))
    -- over the sums that there were
    refine loop_i (α := List Nat × List AV × List Int) (fun q => [(28, .row 4), (19, .int .i64 k), (18, .int .i64 ↑(f.st.map iAV).length), (8, .row 3), (7, .isl (l.map iAV)), (2, .own 0 0), (1, .int .i64 near)]) (fun q => [.box false f.pc, .fresh, .fresh, .mp false (kAV q.2.2) (tAV q.2.2), .itr (kAV L) (tAV L) q.1 q.2.1]) (fun q => (∀ x ∈ q.2.2, x ∈ f.sumL near (k + 1)) ∧ ∀ j ∈ q.1, ∀ y, L[j]? = some y → ∀ s ∈ l, (y + s).tmod f.per ∈ q.2.2) (fun q => (leftN q.1 L.length).length) ([], [], []) (meets_id (by (repeat' apply And.intro) <;> first | rfl | exact True.intro | (intro hh; cases hh))) ⟨by simp, by simp⟩ ?_
    rintro ⟨seen, last, N⟩ ⟨hN1, hN2⟩
    dsimp only at hN1 hN2 ⊢
    conv => whnf
    refine nxI (fun j kv uv h5 h6 h7 => ?_) (fun h5 => ?_)
    · obtain ⟨y, hy, rfl⟩ : ∃ y, L[j]? = some y ∧ .int .i64 y = kv := by simpa [kAV] using h5
      obtain rfl : .bool true = uv := by simp [tAV] at h6; obtain ⟨_, h6⟩ := h6; exact h6
      have hyL := List.mem_of_getElem? hy
      have hy0 := hLin y hyL
      (conv => whnf); (repeat' ((first | refine bT ?_ | refine bF ?_ | refine bN ?_ | ((first | refine bD ?_ ?_ | refine bEq ?_ ?_ | refine bNe ?_ ?_) <;> intro hh <;> try (exfalso; omega)) | refine wIn (by omega) ?_ | refine nI (by omega) ?_) <;> conv => whnf))
      refine loop_i (α := Nat × List Int) (fun q => [(35, .int .i64 q.1), (34, .int .i64 ↑(l.map iAV).length), (33, .isl (l.map iAV)), (28, .row 4), (19, .int .i64 k), (18, .int .i64 ↑(f.st.map iAV).length), (9, .int .i64 y), (8, .row 3), (7, .isl (l.map iAV)), (2, .own 0 0), (1, .int .i64 near)]) (fun q => [.box false f.pc, .fresh, .fresh, .mp false (kAV q.2) (tAV q.2), .itr (kAV L) (tAV L) (seen ++ [j]) [.int .i64 y, .bool true]]) (fun q => q.1 ≤ l.length ∧ (∀ x ∈ q.2, x ∈ f.sumL near (k + 1)) ∧ (∀ x ∈ N, x ∈ q.2) ∧ ∀ s ∈ l.take q.1, (y + s).tmod f.per ∈ q.2) (fun q => l.length - q.1) (0, N) (meets_id (by (repeat' apply And.intro) <;> first | rfl | exact True.intro | (intro hh; cases hh))) ⟨by simp, hN1, fun x hx => hx, by simp⟩ ?_
      rintro ⟨i, M⟩ ⟨hi0, hM1, hM2, hM3⟩
      dsimp only at hi0 hM1 hM2 hM3 ⊢
      conv => whnf
      refine bD (fun h8 => ?_) (fun h8 => ?_)
      · have hi : i < l.length := by omega
        have hs := hsin _ (List.getElem_mem hi)
        conv => whnf
        refine iaI (by omega) (by omega) (getD_map iAV l i hi) ?_
        (conv => whnf); (repeat' ((first | refine bT ?_ | refine bF ?_ | refine bN ?_ | ((first | refine bD ?_ ?_ | refine bEq ?_ ?_ | refine bNe ?_ ?_) <;> intro hh <;> try (exfalso; omega)) | refine wIn (by omega) ?_ | refine nI (by omega) ?_) <;> conv => whnf))
        refine mpI (mput_ins M _) ?_
        (conv => whnf); (repeat' ((first | refine bT ?_ | refine bF ?_ | refine bN ?_ | ((first | refine bD ?_ ?_ | refine bEq ?_ ?_ | refine bNe ?_ ?_) <;> intro hh <;> try (exfalso; omega)) | refine wIn (by omega) ?_ | refine nI (by omega) ?_) <;> conv => whnf))
        refine ⟨(i + 1, ins M ((y + l[i]).tmod f.per)), (meets_id (by (repeat' apply And.intro) <;> first | rfl | exact True.intro | (intro hh; cases hh))), ⟨by dsimp only; omega, fun x hx => ?_, fun x hx => mem_ins.2 (.inl (hM2 x hx)), all_take hi (fun s hs => mem_ins.2 (.inl (hM3 s hs))) (mem_ins.2 (.inr rfl))⟩, by dsimp only; omega⟩
        rcases mem_ins.1 hx with hx | rfl
        · exact hM1 x hx
        · exact (hmem _).2 ⟨y, (hL y).1 hyL, l[i], List.getElem_mem hi, rfl⟩
      · have : i = l.length := by omega
        subst this
        rw [List.take_length] at hM3
        (conv => whnf); (repeat' ((first | refine bT ?_ | refine bF ?_ | refine bN ?_ | ((first | refine bD ?_ ?_ | refine bEq ?_ ?_ | refine bNe ?_ ?_) <;> intro hh <;> try (exfalso; omega)) | refine wIn (by omega) ?_ | refine nI (by omega) ?_) <;> conv => whnf))
        refine ⟨(seen ++ [j], [.int .i64 y, .bool true], M), (meets_id (by (repeat' apply And.intro) <;> first | rfl | exact True.intro | (intro hh; cases hh))), ⟨hM1, fun j' hj' y' hy' s hs => ?_⟩, leftN_lt (leftN_mem.2 ⟨by have := (List.getElem?_eq_some_iff.1 hy).1; exact this, h7⟩)⟩
        rcases List.mem_append.1 hj' with hj' | hj'
        · exact hM2 _ (hN2 j' hj' y' hy' s hs)
        · simp only [List.mem_singleton] at hj'
          subst hj'
          rw [hy] at hy'; cases hy'
          exact hM3 s hs
    · (conv => whnf); (repeat' ((first | refine bT ?_ | refine bF ?_ | refine bN ?_ | ((first | refine bD ?_ ?_ | refine bEq ?_ ?_ | refine bNe ?_ ?_) <;> intro hh <;> try (exfalso; omega)) | refine wIn (by omega) ?_ | refine nI (by omega) ?_) <;> conv => whnf))
      refine ⟨(k + 1, N), ?_, ⟨by dsimp only; omega, fun x => ⟨hN1 x, ?_⟩⟩, by dsimp only; omega⟩
      · exact (meets_ren 1 3 (by (repeat' apply And.intro) <;> first | rfl | exact True.intro | (intro hh; cases hh)))
      · intro hx
        obtain ⟨y, hy, s, hs, rfl⟩ := (hmem x).1 hx
        obtain ⟨j, hj, hjy⟩ := List.getElem_of_mem ((hL y).2 hy)
        exact hN2 j (h5 j (by simpa [kAV] using hj)) y (by rw [← hjy]; simp [hj]) s hs
  · have : k = f.d.gs.length := by omega
    subst this
    conv => whnf
    refine lkI (mlook_ins L 0) ?_
    have e : f.clo near = decide ((0 : Int) ∈ L) := decide_eq_decide.2 (hL 0).symm
    rw [e]
    by_cases h0 : (0 : Int) ∈ L
    · rw [if_pos h0, decide_eq_true h0]
      (conv => whnf); (repeat' ((first | refine bT ?_ | refine bF ?_ | refine bN ?_ | ((first | refine bD ?_ ?_ | refine bEq ?_ ?_ | refine bNe ?_ ?_) <;> intro hh <;> try (exfalso; omega)) | refine wIn (by omega) ?_ | refine nI (by omega) ?_) <;> conv => whnf))
      all_goals rfl
    · rw [if_neg h0, decide_eq_false h0]
      (conv => whnf); (repeat' ((first | refine bT ?_ | refine bF ?_ | refine bN ?_ | ((first | refine bD ?_ ?_ | refine bEq ?_ ?_ | refine bNe ?_ ?_) <;> intro hh <;> try (exfalso; omega)) | refine wIn (by omega) ?_ | refine nI (by omega) ?_) <;> conv => whnf))
      all_goals rfl
/-- the least Near with which steps lead around -/
def Fig.clst (f : Fig) : Int := match (List.range (f.per.tdiv 2).toNat).find? (fun (k : Nat) => f.clo k) with
  | some k => k
  | none => f.per.tdiv 2
theorem s68 (f : Fig) (hok : f.ok) : FnA Try.prog 68 [.agg f.pc] (· = .int .i64 f.clst) := by
  have hp := hok.2.1
  have hq : 0 ≤ f.per.tdiv 2 ∧ f.per.tdiv 2 ≤ 60 := by rw [Int.tdiv_eq_ediv_of_nonneg (by omega)]; omega
  refine fnA 1 ok68 (by simp) ?_
  (conv => whnf); (repeat' ((first | refine bT ?_ | refine bF ?_ | refine bN ?_ | ((first | refine bD ?_ ?_ | refine bEq ?_ ?_ | refine bNe ?_ ?_) <;> intro hh <;> try (exfalso; omega)) | refine wIn (by omega) ?_ | refine nI (by omega) ?_) <;> conv => whnf))
  refine loop_i (α := Nat) (fun k => [(9, .int .i64 k), (8, .int .i64 (f.per.tdiv 2)), (1, .own 0 0)]) (fun k => [.box false f.pc]) (fun k => (k : Int) ≤ f.per.tdiv 2 ∧ ∀ j : Nat, j < k → f.clo j = false) (fun k => (f.per.tdiv 2).toNat - k) 0 (meets_id (by (repeat' apply And.intro) <;> first | rfl | exact True.intro | (intro hh; cases hh))) ⟨by omega, fun j hj => by omega⟩ ?_
  rintro k ⟨hk0, hk1⟩
  conv => whnf
  refine bD (fun h4 => ?_) (fun h4 => ?_)
  · have e1 := s93 f hok k
    cases hb : f.clo k with
    | true =>
      rw [hb] at e1
      have : f.clst = k := by
        unfold Fig.clst
        rw [(List.find?_range_eq_some (i := k)).2 ⟨hb, List.mem_range.2 (by omega), fun j hj => by simp [hk1 j hj]⟩]
      rw [this]
      (conv => whnf); (repeat' ((first | refine bT ?_ | refine bF ?_ | refine bN ?_ | ((first | refine bD ?_ ?_ | refine bEq ?_ ?_ | refine bNe ?_ ?_) <;> intro hh <;> try (exfalso; omega)) | (refine (e1).callq rfl rfl fun _ h => ?_; subst h) | refine wIn (by omega) ?_ | refine nI (by omega) ?_) <;> conv => whnf))
      all_goals rfl
    | false =>
      rw [hb] at e1
      (conv => whnf); (repeat' ((first | refine bT ?_ | refine bF ?_ | refine bN ?_ | ((first | refine bD ?_ ?_ | refine bEq ?_ ?_ | refine bNe ?_ ?_) <;> intro hh <;> try (exfalso; omega)) | (refine (e1).callq rfl rfl fun _ h => ?_; subst h) | refine wIn (by omega) ?_ | refine nI (by omega) ?_) <;> conv => whnf))
      refine ⟨k + 1, (meets_id (by (repeat' apply And.intro) <;> first | rfl | exact True.intro | (intro hh; cases hh))), ⟨by omega, fun j hj => ?_⟩, by omega⟩
      by_cases h : j = k
      · subst h; exact hb
      · exact hk1 j (by omega)
  · have : f.clst = f.per.tdiv 2 := by
      unfold Fig.clst
      rw [List.find?_range_eq_none.2 fun j hj => by simp [hk1 j (by omega)]]
    rw [this]
    (conv => whnf); (repeat' ((first | refine bT ?_ | refine bF ?_ | refine bN ?_ | ((first | refine bD ?_ ?_ | refine bEq ?_ ?_ | refine bNe ?_ ?_) <;> intro hh <;> try (exfalso; omega)) | refine wIn (by omega) ?_ | refine nI (by omega) ?_) <;> conv => whnf))
    all_goals rfl
theorem s29 (f : Fig) (h : f.eF = 0) : FnA Try.prog 29 [.agg f.cells] (· = .tup [.int .i64 f.clst, .int .i64 0]) := by
  have e1 := s61 f h
  have e2 := s68 f (eF_ok h).1
  refine fnA 9 ok29 (by simp) ?_
  (conv => whnf); (repeat' ((first | refine bT ?_ | refine bF ?_ | refine bN ?_ | ((first | refine bD ?_ ?_ | refine bEq ?_ ?_ | refine bNe ?_ ?_) <;> intro hh <;> try (exfalso; omega)) | (refine (e1).callzq rfl rfl fun _ h => ?_; subst h) | (refine (e2).callq rfl rfl fun _ h => ?_; subst h) | refine wIn (by omega) ?_ | refine nI (by omega) ?_) <;> conv => whnf))
  all_goals rfl
def Fig.badN (f : Fig) (n : Nat) : List Int := ((List.range n).filter fun k => decide (f.mv k ≠ 1)).map fun (k : Nat) => (k : Int)
/-- the seams that do not surely meet -/
def Fig.bad (f : Fig) : List Int := f.badN f.d.gs.length
theorem badN_succ (f : Fig) (k : Nat) : f.badN (k + 1) = if f.mv k ≠ 1 then f.badN k ++ [(k : Int)] else f.badN k := by
  unfold Fig.badN
  rw [List.range_succ, List.filter_append, List.map_append]
  split
  · rename_i h; simp [h]
  · rename_i h; simp [h]
theorem badN_le (f : Fig) (k : Nat) : (f.badN k).length ≤ k := by
  have := List.length_filter_le (fun k => decide (f.mv k ≠ 1)) (List.range k)
  unfold Fig.badN; simpa using this
theorem s22 (f : Fig) (h : f.eF = 0) : FnA Try.prog 22 [.agg f.cells] (· = .tup [.isl (f.bad.map iAV), .int .i64 0]) := by
  obtain ⟨hok, hh⟩ := eF_ok h
  have e1 := s61 f h
  have hti := hok.2.2.2.2.2.2.1
  have hgl := hok.1.1.2.1
  have l1 : (f.ti.map iAV).length = f.ti.length := by simp
  refine fnA 12 ok22 (by simp) ?_
  (conv => whnf); (repeat' ((first | refine bT ?_ | refine bF ?_ | refine bN ?_ | ((first | refine bD ?_ ?_ | refine bEq ?_ ?_ | refine bNe ?_ ?_) <;> intro hh <;> try (exfalso; omega)) | (refine (e1).callzq rfl rfl fun _ h => ?_; subst h) | refine wIn (by omega) ?_ | refine nI (by omega) ?_) <;> conv => whnf))
  refine loop_i (α := Nat) (fun k => [(21, .int .i64 k), (20, .int .i64 ↑(f.ti.map iAV).length), (6, .row 11), (4, .own 8 0)]) (fun k => [.fresh, .fresh, .fresh, .fresh, .fresh, .fresh, .fresh, .fresh, .box false f.pc, .fresh, .fresh, .row false 3 1 ((f.badN k).map iAV)]) (fun k => k ≤ f.d.gs.length) (fun k => f.d.gs.length - k) 0 (meets_nil 11 (by (repeat' apply And.intro) <;> first | rfl | exact True.intro | (intro hh; cases hh))) (by omega) ?_
  intro k hk0
  conv => whnf
  refine bD (fun h4 => ?_) (fun h4 => ?_)
  · have hk : k < f.d.gs.length := by omega
    have e2 := s60 f hok hh k hk
    have hle := badN_le f k
    have hss := badN_succ f k
    by_cases hb : f.mv k ≠ 1
    · rw [if_pos hb] at hss
      (conv => whnf); (repeat' ((first | refine bT ?_ | refine bF ?_ | refine bN ?_ | ((first | refine bD ?_ ?_ | refine bEq ?_ ?_ | refine bNe ?_ ?_) <;> intro hh <;> try (exfalso; omega)) | (refine (e2).callq rfl rfl fun _ h => ?_; subst h) | refine wIn (by omega) ?_ | refine nI (by omega) ?_) <;> conv => whnf))
      refine apI (by simp [AV.one]) (by simp; omega) ?_
      (conv => whnf); (repeat' ((first | refine bT ?_ | refine bF ?_ | refine bN ?_ | ((first | refine bD ?_ ?_ | refine bEq ?_ ?_ | refine bNe ?_ ?_) <;> intro hh <;> try (exfalso; omega)) | refine wIn (by omega) ?_ | refine nI (by omega) ?_) <;> conv => whnf))
      refine ⟨k + 1, ?_, by omega, by omega⟩
      rw [hss, List.map_append]
      exact (meets_ren 11 10 (by (repeat' apply And.intro) <;> first | rfl | exact True.intro | (intro hh; cases hh)))
    · rw [if_neg hb] at hss
      (conv => whnf); (repeat' ((first | refine bT ?_ | refine bF ?_ | refine bN ?_ | ((first | refine bD ?_ ?_ | refine bEq ?_ ?_ | refine bNe ?_ ?_) <;> intro hh <;> try (exfalso; omega)) | (refine (e2).callq rfl rfl fun _ h => ?_; subst h) | refine wIn (by omega) ?_ | refine nI (by omega) ?_) <;> conv => whnf))
      refine ⟨k + 1, ?_, by omega, by omega⟩
      rw [hss]
      exact (meets_id (by (repeat' apply And.intro) <;> first | rfl | exact True.intro | (intro hh; cases hh)))
  · have : k = f.d.gs.length := by omega
    subst this
    (conv => whnf); (repeat' ((first | refine bT ?_ | refine bF ?_ | refine bN ?_ | ((first | refine bD ?_ ?_ | refine bEq ?_ ?_ | refine bNe ?_ ?_) <;> intro hh <;> try (exfalso; omega)) | refine wIn (by omega) ?_ | refine nI (by omega) ?_) <;> conv => whnf))
    all_goals rfl
def arcRow (l : List (Int × Int)) : List AV := [.isl (l.map pairAV)]
def mxI : Int := 9223372036854775807
/-- the end of an arc -/
def arcE (A : List (List (Int × Int))) (m i : Nat) : Int := ((A.getD m []).getD i (0, 0)).1
def arcL (A : List (List (Int × Int))) (m i : Nat) : Int := ((A.getD m []).getD i (0, 0)).2
def Fig.N (f : Fig) : Nat := f.d.gs.length
def Fig.T (f : Fig) (i : Nat) : Int := f.ti.getD i 0
/-- if the seam so many steps behind the first one is begun last -/
def Fig.endB (f : Fig) (A : List (List (Int × Int))) (first b : Nat) : Int := max (arcE A b first) (arcE A (A.length - 1 - b) (((first + b) % f.N + 1) % f.N)) + f.T ((first + b) % f.N)
def Fig.soonN (f : Fig) (A : List (List (Int × Int))) (first : Nat) : Nat → Int × Int
  | 0 => (mxI, 0)
  | b + 1 => if f.endB A first b < (f.soonN A first b).1 then (f.endB A first b, (((first + b) % f.N : Nat) : Int)) else f.soonN A first b
def Fig.soon (f : Fig) (A : List (List (Int × Int))) (first : Nat) : Int × Int := f.soonN A first A.length
structure arcsOk (f : Fig) (A : List (List (Int × Int))) : Prop where
  len : 1 ≤ A.length ∧ A.length ≤ f.N
  row : ∀ m, m < A.length → (A.getD m []).length = f.N
  val : ∀ m i, m < A.length → i < f.N → 0 ≤ arcE A m i ∧ arcE A m i ≤ 99 * m
theorem arc_at {l : List (Int × Int)} {i : Nat} (hi : i < l.length) : (l.map pairAV).getD i [] = [.int .i64 (l.getD i (0, 0)).1, .int .i64 (l.getD i (0, 0)).2] := by
  rw [getD_map pairAV l i hi]; simp [pairAV, List.getD_eq_getElem?_getD, hi]
theorem arcRow_at {A : List (List (Int × Int))} {m : Nat} (hm : m < A.length) : (A.map arcRow).getD m [] = [.isl ((A.getD m []).map pairAV)] := by
  rw [getD_map arcRow A m hm]; simp [arcRow, List.getD_eq_getElem?_getD, hm]
theorem T_in {f : Fig} (hok : f.ok) {i : Nat} (hi : i < f.N) : 1 ≤ f.T i ∧ f.T i ≤ 99 := by
  have hti := hok.2.2.2.2.2.2.1
  have hx := hok.2.2.2.2.2.2.2
  unfold Fig.N at hi
  have : f.T i = f.ti[i] := by simp [Fig.T, List.getD_eq_getElem?_getD, show i < f.ti.length by omega]
  rw [this]
  exact hx _ (List.getElem_mem _)
theorem N_in {f : Fig} (hok : f.ok) : 3 ≤ f.N ∧ f.N ≤ 16 := hok.1.1.2.1
theorem endB_in {f : Fig} (hok : f.ok) {A : List (List (Int × Int))} (hA : arcsOk f A) {first b : Nat} (hf : first < f.N) (hb : b < A.length) : 1 ≤ f.endB A first b ∧ f.endB A first b ≤ 99 * A.length := by
  have hN := N_in hok
  have h1 : (first + b) % f.N < f.N := Nat.mod_lt _ (by omega)
  have h2 : ((first + b) % f.N + 1) % f.N < f.N := Nat.mod_lt _ (by omega)
  have h3 := T_in hok h1
  have h4 := hA.val b first hb hf
  have h5 := hA.val (A.length - 1 - b) _ (by omega) h2
  unfold Fig.endB
  have : ((A.length - 1 - b : Nat) : Int) ≤ A.length - 1 := by omega
  have : (b : Int) ≤ A.length - 1 := by omega
  omega
theorem soonN_in {f : Fig} (hok : f.ok) {A : List (List (Int × Int))} (hA : arcsOk f A) {first : Nat} (hf : first < f.N) : ∀ b, b ≤ A.length → (b = 0 ∧ f.soonN A first b = (mxI, 0)) ∨ ((1 ≤ (f.soonN A first b).1 ∧ (f.soonN A first b).1 ≤ 99 * A.length) ∧ ∃ c, c < b ∧ f.soonN A first b = (f.endB A first c, (((first + c) % f.N : Nat) : Int)))
  | 0, _ => .inl ⟨rfl, rfl⟩
  | b + 1, hb => by
    right
    have he := endB_in hok hA hf (show b < A.length by omega)
    have hN := N_in hok
    have hl := hA.len
    simp only [Fig.soonN]
    split
    · exact ⟨he, b, by omega, rfl⟩
    · rename_i h
      rcases soonN_in hok hA hf b (by omega) with ⟨_, h1⟩ | ⟨h1, c, h2, h3⟩
      · rw [h1] at h; exfalso; apply h; show _ < mxI; unfold mxI; omega
      · exact ⟨h1, c, by omega, h3⟩
theorem s115 (f : Fig) (hok : f.ok) (A : List (List (Int × Int))) (hA : arcsOk f A) (first : Nat) (hf : first < f.N) : FnA Try.prog 115 [.agg f.cells, .isl (A.map arcRow), .int .i64 first] (· = .agg (pairAV (f.soon A first))) := by
  have l1 : (A.map arcRow).length = A.length := by simp
  have l3 : (f.ti.map iAV).length = f.ti.length := by simp
  have hti : f.ti.length = f.N := hok.2.2.2.2.2.2.1
  have hN := N_in hok
  have hAl := hA.len
  refine fnA 4 ok115 (by simp) ?_
  (conv => whnf); (repeat' ((first | refine bT ?_ | refine bF ?_ | refine bN ?_ | ((first | refine bD ?_ ?_ | refine bEq ?_ ?_ | refine bNe ?_ ?_) <;> intro hh <;> try (exfalso; omega)) | refine wIn (by omega) ?_ | refine nI (by omega) ?_) <;> conv => whnf))
  refine loop_i (α := Nat) (fun k => [(15, .int .i64 k), (14, .int .i64 ↑(A.map arcRow).length), (7, .own 2 0), (6, .own 1 0), (3, .own 0 0), (2, .int .i64 first), (1, .isl (A.map arcRow))]) (fun k => [.box false f.cells, .box false [.int .i64 0, .int .i64 0], .box false (pairAV (f.soonN A first k)), .fresh]) (fun k => k ≤ A.length) (fun k => A.length - k) 0 (meets_id (by (repeat' apply And.intro) <;> first | rfl | exact True.intro | (intro hh; cases hh))) (by omega) ?_
  intro k hk0
  conv => whnf
  refine bD (fun h4 => ?_) (fun h4 => ?_)
  · have hk : k < A.length := by omega
    have b1 : (first + k) % f.N < f.N := Nat.mod_lt _ (by omega)
    have b2 : ((first + k) % f.N + 1) % f.N < f.N := Nat.mod_lt _ (by omega)
    have e1 : FnA Try.prog 91 [.agg f.cells, .int .i64 ((first : Int) + k)] (· = .int .i64 ((first + k) % f.N : Nat)) := by
      have := s91 f hok ((first : Int) + k) (by omega)
      have h : ((first : Int) + k) % (f.ti.length : Int) = ((first + k) % f.N : Nat) := by rw [hti]; push_cast; rfl
      rwa [h] at this
    have e2 : FnA Try.prog 91 [.agg f.cells, .int .i64 (((first + k) % f.N : Nat) + 1)] (· = .int .i64 (((first + k) % f.N + 1) % f.N : Nat)) := by
      have := s91 f hok (((first + k) % f.N : Nat) + 1) (by omega)
      have h : ((((first + k) % f.N : Nat) : Int) + 1) % (f.ti.length : Int) = (((first + k) % f.N + 1) % f.N : Nat) := by rw [hti]; push_cast; rfl
      rwa [h] at this
    have g1 : (A.map arcRow).getD (↑(A.map arcRow).length - 1 - (k : Int)).toNat [] = [.isl ((A.getD (A.length - 1 - k) []).map pairAV)] := by
      rw [show (↑(A.map arcRow).length - 1 - (k : Int)).toNat = A.length - 1 - k by omega]
      exact arcRow_at (by omega)
    have r1 := hA.row (A.length - 1 - k) (by omega)
    have g2 := arc_at (l := A.getD (A.length - 1 - k) []) (i := ((first + k) % f.N + 1) % f.N) (by omega)
    have g3 := arcRow_at (A := A) (m := k) hk
    have r3 := hA.row k hk
    have g4 := arc_at (l := A.getD k []) (i := first) (by omega)
    have g5 : (f.ti.map iAV).getD ((first + k) % f.N) [] = [.int .i64 (f.T ((first + k) % f.N))] := row_at (by omega)
    have lr1 : ((A.getD (A.length - 1 - k) []).map pairAV).length = f.N := by simp only [List.length_map]; exact r1
    have lr3 : ((A.getD k []).map pairAV).length = f.N := by simp only [List.length_map]; exact r3
    have hT := T_in hok b1
    have v1 := hA.val k first hk hf
    have v2 := hA.val (A.length - 1 - k) (((first + k) % f.N + 1) % f.N) (by omega) b2
    have hend : max (arcE A k first) (arcE A (A.length - 1 - k) (((first + k) % f.N + 1) % f.N)) + f.T ((first + k) % f.N) = f.endB A first k := rfl
    have hE := endB_in hok hA hf hk
    have hst : f.soonN A first (k + 1) = if f.endB A first k < (f.soonN A first k).1 then (f.endB A first k, (((first + k) % f.N : Nat) : Int)) else f.soonN A first k := rfl
    have hmm : (if true = true then max (arcE A k first) (arcE A (A.length - 1 - k) (((first + k) % f.N + 1) % f.N)) else min (arcE A k first) (arcE A (A.length - 1 - k) (((first + k) % f.N + 1) % f.N))) = max (arcE A k first) (arcE A (A.length - 1 - k) (((first + k) % f.N + 1) % f.N)) := rfl
    change (List.map pairAV (A.getD k [])).getD first [] = [.int .i64 (arcE A k first), .int .i64 (arcL A k first)] at g4
    change (List.map pairAV (A.getD (A.length - 1 - k) [])).getD _ [] = [.int .i64 (arcE A (A.length - 1 - k) (((first + k) % f.N + 1) % f.N)), .int .i64 (arcL A (A.length - 1 - k) (((first + k) % f.N + 1) % f.N))] at g2
    (conv => whnf); (repeat' ((first | refine bT ?_ | refine bF ?_ | refine bN ?_ | ((first | refine bD ?_ ?_ | refine bEq ?_ ?_ | refine bNe ?_ ?_) <;> intro hh <;> try (exfalso; omega)) | (refine (e1).callq rfl rfl fun _ h => ?_; subst h) | refine wIn (by omega) ?_ | refine nI (by omega) ?_) <;> conv => whnf))
    refine iaI (by omega) (by omega) g1 ?_
    (conv => whnf); (repeat' ((first | refine bT ?_ | refine bF ?_ | refine bN ?_ | ((first | refine bD ?_ ?_ | refine bEq ?_ ?_ | refine bNe ?_ ?_) <;> intro hh <;> try (exfalso; omega)) | (refine (e2).callq rfl rfl fun _ h => ?_; subst h) | refine wIn (by omega) ?_ | refine nI (by omega) ?_) <;> conv => whnf))
    refine iaI (by omega) (by omega) g2 ?_
    (conv => whnf); (repeat' ((first | refine bT ?_ | refine bF ?_ | refine bN ?_ | ((first | refine bD ?_ ?_ | refine bEq ?_ ?_ | refine bNe ?_ ?_) <;> intro hh <;> try (exfalso; omega)) | refine wIn (by omega) ?_ | refine nI (by omega) ?_) <;> conv => whnf))
    refine iaI (by omega) (by omega) g3 ?_
    (conv => whnf); (repeat' ((first | refine bT ?_ | refine bF ?_ | refine bN ?_ | ((first | refine bD ?_ ?_ | refine bEq ?_ ?_ | refine bNe ?_ ?_) <;> intro hh <;> try (exfalso; omega)) | refine wIn (by omega) ?_ | refine nI (by omega) ?_) <;> conv => whnf))
    refine iaI (by omega) (by omega) g4 ?_
    (conv => whnf); (repeat' ((first | refine bT ?_ | refine bF ?_ | refine bN ?_ | ((first | refine bD ?_ ?_ | refine bEq ?_ ?_ | refine bNe ?_ ?_) <;> intro hh <;> try (exfalso; omega)) | refine wIn (by omega) ?_ | refine nI (by omega) ?_) <;> conv => whnf))
    refine iaI (by omega) (by omega) g5 ?_
    (conv => whnf); (repeat' ((first | refine bT ?_ | refine bF ?_ | refine bN ?_ | ((first | refine bD ?_ ?_ | refine bEq ?_ ?_ | refine bNe ?_ ?_) <;> intro hh <;> try (exfalso; omega)) | refine wIn (by omega) ?_ | refine nI (by omega) ?_) <;> conv => whnf))
    · refine ⟨k + 1, ?_, by omega, by omega⟩
      rw [hst, if_pos (show f.endB A first k < (f.soonN A first k).1 from hh)]
      exact (meets_id (by (repeat' apply And.intro) <;> first | rfl | exact True.intro | (intro hh; cases hh)))
    · refine ⟨k + 1, ?_, by omega, by omega⟩
      rw [hst, if_neg (show ¬ f.endB A first k < (f.soonN A first k).1 from hh)]
      exact (meets_id (by (repeat' apply And.intro) <;> first | rfl | exact True.intro | (intro hh; cases hh)))
  · have : k = A.length := by omega
    subst this
    (conv => whnf); (repeat' ((first | refine bT ?_ | refine bF ?_ | refine bN ?_ | ((first | refine bD ?_ ?_ | refine bEq ?_ ?_ | refine bNe ?_ ?_) <;> intro hh <;> try (exfalso; omega)) | refine wIn (by omega) ?_ | refine nI (by omega) ?_) <;> conv => whnf))
    all_goals rfl
/-- the arcs of up to k seams -/
def Fig.arcsT (f : Fig) : Nat → List (List (Int × Int))
  | 0 => [List.replicate f.N (0, 0)]
  | k + 1 => f.arcsT k ++ [(List.range f.N).map (f.soon (f.arcsT k))]
theorem arcsT_len (f : Fig) : ∀ k, (f.arcsT k).length = k + 1
  | 0 => rfl
  | k + 1 => by simp [Fig.arcsT, arcsT_len f k]
theorem arcsT_ok {f : Fig} (hok : f.ok) : ∀ k, k < f.N → arcsOk f (f.arcsT k)
  | 0, hk => by
    refine ⟨⟨by simp [Fig.arcsT], by simp [Fig.arcsT]; omega⟩, fun m hm => ?_, fun m i hm hi => ?_⟩
    · have : m = 0 := by simp [Fig.arcsT] at hm; omega
      subst this; simp [Fig.arcsT]
    · have : m = 0 := by simp [Fig.arcsT] at hm; omega
      subst this
      simp [arcE, Fig.arcsT, List.getD_eq_getElem?_getD, List.getElem?_replicate]
      split <;> simp
  | k + 1, hk => by
    have ih := arcsT_ok hok k (by omega)
    have hl := arcsT_len f k
    have hold : ∀ m, m < k + 1 → (f.arcsT (k + 1)).getD m [] = (f.arcsT k).getD m [] := fun m hm => by
      simp only [Fig.arcsT, List.getD_eq_getElem?_getD]
      rw [List.getElem?_append_left (by omega)]
    have hnew : (f.arcsT (k + 1)).getD (k + 1) [] = (List.range f.N).map (f.soon (f.arcsT k)) := by
      simp only [Fig.arcsT, List.getD_eq_getElem?_getD]
      rw [List.getElem?_append_right (by omega), hl]; simp
    refine ⟨by rw [arcsT_len]; omega, fun m hm => ?_, fun m i hm hi => ?_⟩
    · rw [arcsT_len] at hm
      by_cases h : m < k + 1
      · rw [hold m h]; exact ih.row m (by omega)
      · have : m = k + 1 := by omega
        subst this
        rw [hnew]; simp
    · rw [arcsT_len] at hm
      by_cases h : m < k + 1
      · unfold arcE; rw [hold m h]; exact ih.val m i (by omega) hi
      · have : m = k + 1 := by omega
        subst this
        have he : arcE (f.arcsT (k + 1)) (k + 1) i = (f.soon (f.arcsT k) i).1 := by
          unfold arcE; rw [hnew]; simp [List.getD_eq_getElem?_getD, hi]
        rw [he]
        rcases soonN_in hok ih hi (f.arcsT k).length (Nat.le_refl _) with ⟨h1, _⟩ | ⟨h1, _⟩
        · omega
        · unfold Fig.soon; omega
def Fig.newR (f : Fig) (A : List (List (Int × Int))) (j : Nat) : List (List AV) := (List.range f.N).map fun i => pairAV (if i < j then f.soon A i else (0, 0))
theorem newR_len (f : Fig) (A : List (List (Int × Int))) (j : Nat) : (f.newR A j).length = f.N := by simp [Fig.newR]
theorem newR_at (f : Fig) (A : List (List (Int × Int))) {j i : Nat} (hi : i < f.N) : (f.newR A j).getD i [] = pairAV (if i < j then f.soon A i else (0, 0)) := by
  simp [Fig.newR, List.getD_eq_getElem?_getD, hi]
theorem newR_set (f : Fig) (A : List (List (Int × Int))) {j : Nat} (hj : j < f.N) : (f.newR A j).set j (pairAV (f.soon A j)) = f.newR A (j + 1) := by
  apply List.ext_getElem (by simp [Fig.newR])
  intro n h1 h2
  rw [List.getElem_set]
  simp only [Fig.newR, List.getElem_map, List.getElem_range]
  by_cases h : j = n
  · subst h; simp
  · rw [if_neg h]
    by_cases h3 : n < j
    · rw [if_pos h3, if_pos (by omega)]
    · rw [if_neg h3, if_neg (by omega)]
theorem newR_0 (f : Fig) (A : List (List (Int × Int))) : f.newR A 0 = List.replicate f.N [.int .i64 0, .int .i64 0] := by
  simp [Fig.newR, pairAV, List.map_const']
theorem newR_N (f : Fig) (A : List (List (Int × Int))) : f.newR A f.N = ((List.range f.N).map (f.soon A)).map pairAV := by
  simp only [Fig.newR, List.map_map]
  apply List.map_congr_left
  intro i hi
  simp [List.mem_range.1 hi]
theorem s94 (f : Fig) (hok : f.ok) : FnA Try.prog 94 [.agg f.cells] (· = .isl ((f.arcsT (f.N - 1)).map arcRow)) := by
  have l3 : (f.ti.map iAV).length = f.ti.length := by simp
  have hti : f.ti.length = f.N := hok.2.2.2.2.2.2.1
  have hN := N_in hok
  have hNn : (↑(f.ti.map iAV).length : Int).toNat = f.N := by omega
  refine fnA 6 ok94 (by simp) ?_
  (conv => whnf); (repeat' ((first | refine bT ?_ | refine bF ?_ | refine bN ?_ | ((first | refine bD ?_ ?_ | refine bEq ?_ ?_ | refine bNe ?_ ?_) <;> intro hh <;> try (exfalso; omega)) | refine wIn (by omega) ?_ | refine nI (by omega) ?_) <;> conv => whnf))
  refine mkI (by omega) (by omega) (by omega) ?_
  (conv => whnf); (repeat' ((first | refine bT ?_ | refine bF ?_ | refine bN ?_ | ((first | refine bD ?_ ?_ | refine bEq ?_ ?_ | refine bNe ?_ ?_) <;> intro hh <;> try (exfalso; omega)) | refine wIn (by omega) ?_ | refine nI (by omega) ?_) <;> conv => whnf))
  refine loop_i (α := Nat) (fun k => [(3, .row 2), (1, .own 0 0)]) (fun k => [.box false f.cells, .fresh, .row false 108 1 ((f.arcsT k).map arcRow), .fresh, .fresh, .fresh]) (fun k => k < f.N) (fun k => f.N - k) 0 ?_ (by omega) ?_
  · rw [hNn]
    have : (f.arcsT 0).map arcRow = [[.isl (List.replicate f.N [.int .i64 0, .int .i64 0])]] := by simp [Fig.arcsT, arcRow, pairAV]
    rw [this]
    exact (meets_id (by (repeat' apply And.intro) <;> first | rfl | exact True.intro | (intro hh; cases hh)))
  intro k hk0
  have hl : ((f.arcsT k).map arcRow).length = k + 1 := by rw [List.length_map, arcsT_len]
  conv => whnf
  refine bD (fun h4 => ?_) (fun h4 => ?_)
  · have hA := arcsT_ok hok k hk0
    generalize hq : f.arcsT k = A at *
    conv => whnf
    refine mkI (by omega) (by omega) (by omega) ?_
    (conv => whnf); (repeat' ((first | refine bT ?_ | refine bF ?_ | refine bN ?_ | ((first | refine bD ?_ ?_ | refine bEq ?_ ?_ | refine bNe ?_ ?_) <;> intro hh <;> try (exfalso; omega)) | refine wIn (by omega) ?_ | refine nI (by omega) ?_) <;> conv => whnf))
    refine loop_i (α := Nat) (fun j => [(26, .int .i64 j), (25, .int .i64 f.N), (4, .row 3), (3, .row 2), (1, .own 0 0)]) (fun j => [.box false f.cells, .fresh, .row false 108 1 (A.map arcRow), .row false 107 2 (f.newR A j), .fresh, .fresh]) (fun j => j ≤ f.N) (fun j => f.N - j) 0 ?_ (by omega) ?_
    · rw [hNn, newR_0]
      have : (↑(List.replicate f.N [AV.int .i64 0, AV.int .i64 0]).length : Int) = f.N := by simp
      rw [this]
      exact (meets_id (by (repeat' apply And.intro) <;> first | rfl | exact True.intro | (intro hh; cases hh)))
    intro j hj0
    conv => whnf
    refine bD (fun h5 => ?_) (fun h5 => ?_)
    · have hj : j < f.N := by omega
      have e1 := s115 f hok A hA j hj
      have hln := newR_len f A j
      have hset := newR_set f A hj
      (conv => whnf); (repeat' ((first | refine bT ?_ | refine bF ?_ | refine bN ?_ | ((first | refine bD ?_ ?_ | refine bEq ?_ ?_ | refine bNe ?_ ?_) <;> intro hh <;> try (exfalso; omega)) | (refine (e1).lendq rfl fun _ h => ?_; subst h; refine ⟨rfl, ?_⟩) | refine wIn (by omega) ?_ | refine nI (by omega) ?_) <;> conv => whnf))
      refine iaI (by omega) (by omega) (newR_at f A hj) ?_
      (conv => whnf); (repeat' ((first | refine bT ?_ | refine bF ?_ | refine bN ?_ | ((first | refine bD ?_ ?_ | refine bEq ?_ ?_ | refine bNe ?_ ?_) <;> intro hh <;> try (exfalso; omega)) | refine wIn (by omega) ?_ | refine nI (by omega) ?_) <;> conv => whnf))
      refine ⟨j + 1, ?_, by omega, by omega⟩
      rw [← hset]
      exact (meets_id (by (repeat' apply And.intro) <;> first | rfl | exact True.intro | (intro hh; cases hh)))
    · have : j = f.N := by omega
      subst this
      have hsucc : (f.arcsT (k + 1)).map arcRow = A.map arcRow ++ [[.isl (f.newR A f.N)]] := by
        simp only [Fig.arcsT, hq, List.map_append, newR_N]; rfl
      (conv => whnf); (repeat' ((first | refine bT ?_ | refine bF ?_ | refine bN ?_ | ((first | refine bD ?_ ?_ | refine bEq ?_ ?_ | refine bNe ?_ ?_) <;> intro hh <;> try (exfalso; omega)) | refine wIn (by omega) ?_ | refine nI (by omega) ?_) <;> conv => whnf))
      refine apI (by simp [AV.one]) (by simp only [hl]; simp; omega) ?_
      (conv => whnf); (repeat' ((first | refine bT ?_ | refine bF ?_ | refine bN ?_ | ((first | refine bD ?_ ?_ | refine bEq ?_ ?_ | refine bNe ?_ ?_) <;> intro hh <;> try (exfalso; omega)) | refine wIn (by omega) ?_ | refine nI (by omega) ?_) <;> conv => whnf))
      refine ⟨k + 1, ?_, by omega, by omega⟩
      rw [hsucc]
      exact (meets_ren 2 5 (by (repeat' apply And.intro) <;> first | rfl | exact True.intro | (intro hh; cases hh)))
  · have : k = f.N - 1 := by omega
    subst this
    (conv => whnf); (repeat' ((first | refine bT ?_ | refine bF ?_ | refine bN ?_ | ((first | refine bD ?_ ?_ | refine bEq ?_ ?_ | refine bNe ?_ ?_) <;> intro hh <;> try (exfalso; omega)) | refine wIn (by omega) ?_ | refine nI (by omega) ?_) <;> conv => whnf))
    all_goals rfl
def Fig.endW (f : Fig) (A : List (List (Int × Int))) (last : Nat) : Int := arcE A (A.length - 1) ((last + 1) % f.N) + f.T last
def Fig.whN (f : Fig) (A : List (List (Int × Int))) : Nat → Int × Int
  | 0 => (mxI, 0)
  | k + 1 => if f.endW A k < (f.whN A k).1 then (f.endW A k, (k : Int)) else f.whN A k
def Fig.wh (f : Fig) (A : List (List (Int × Int))) : Int × Int := f.whN A f.N
theorem endW_in {f : Fig} (hok : f.ok) {A : List (List (Int × Int))} (hA : arcsOk f A) {k : Nat} (hk : k < f.N) : 1 ≤ f.endW A k ∧ f.endW A k ≤ 99 * A.length := by
  have hN := N_in hok
  have h3 := T_in hok hk
  have hl := hA.len
  have h5 := hA.val (A.length - 1) ((k + 1) % f.N) (by omega) (Nat.mod_lt _ (by omega))
  unfold Fig.endW
  have : ((A.length - 1 : Nat) : Int) = A.length - 1 := by omega
  omega
theorem whN_in {f : Fig} (hok : f.ok) {A : List (List (Int × Int))} (hA : arcsOk f A) : ∀ k, k ≤ f.N → (k = 0 ∧ f.whN A k = (mxI, 0)) ∨ ((1 ≤ (f.whN A k).1 ∧ (f.whN A k).1 ≤ 99 * A.length) ∧ ∃ c : Nat, c < k ∧ f.whN A k = (f.endW A c, (c : Int)))
  | 0, _ => .inl ⟨rfl, rfl⟩
  | b + 1, hb => by
    right
    have he := endW_in hok hA (show b < f.N by omega)
    have hN := N_in hok
    have hl := hA.len
    simp only [Fig.whN]
    split
    · exact ⟨he, b, by omega, rfl⟩
    · rename_i h
      rcases whN_in hok hA b (by omega) with ⟨_, h1⟩ | ⟨h1, c, h2, h3⟩
      · rw [h1] at h; exfalso; apply h; show _ < mxI; unfold mxI; omega
      · exact ⟨h1, c, by omega, h3⟩
theorem s96 (f : Fig) (hok : f.ok) (A : List (List (Int × Int))) (hA : arcsOk f A) : FnA Try.prog 96 [.agg f.cells, .isl (A.map arcRow)] (· = .agg (pairAV (f.wh A))) := by
  have l1 : (A.map arcRow).length = A.length := by simp
  have l3 : (f.ti.map iAV).length = f.ti.length := by simp
  have hti : f.ti.length = f.N := hok.2.2.2.2.2.2.1
  have hN := N_in hok
  have hAl := hA.len
  have g1 : (A.map arcRow).getD (↑(A.map arcRow).length - 1 : Int).toNat [] = [.isl ((A.getD (A.length - 1) []).map pairAV)] := by
    rw [show (↑(A.map arcRow).length - 1 : Int).toNat = A.length - 1 by omega]
    exact arcRow_at (by omega)
  have r1 := hA.row (A.length - 1) (by omega)
  have lr1 : ((A.getD (A.length - 1) []).map pairAV).length = f.N := by simp only [List.length_map]; exact r1
  refine fnA 3 ok96 (by simp) ?_
  (conv => whnf); (repeat' ((first | refine bT ?_ | refine bF ?_ | refine bN ?_ | ((first | refine bD ?_ ?_ | refine bEq ?_ ?_ | refine bNe ?_ ?_) <;> intro hh <;> try (exfalso; omega)) | refine wIn (by omega) ?_ | refine nI (by omega) ?_) <;> conv => whnf))
  refine iaI (by omega) (by omega) g1 ?_
  (conv => whnf); (repeat' ((first | refine bT ?_ | refine bF ?_ | refine bN ?_ | ((first | refine bD ?_ ?_ | refine bEq ?_ ?_ | refine bNe ?_ ?_) <;> intro hh <;> try (exfalso; omega)) | refine wIn (by omega) ?_ | refine nI (by omega) ?_) <;> conv => whnf))
  refine loop_i (α := Nat) (fun k => [(21, .int .i64 k), (20, .int .i64 ↑(f.ti.map iAV).length), (19, .isl (f.ti.map iAV)), (6, .own 2 0), (5, .isl ((A.getD (A.length - 1) []).map pairAV)), (4, .own 1 0), (2, .own 0 0)]) (fun k => [.box false f.cells, .box false [.int .i64 0, .int .i64 0], .box false (pairAV (f.whN A k))]) (fun k => k ≤ f.N) (fun k => f.N - k) 0 (meets_id (by (repeat' apply And.intro) <;> first | rfl | exact True.intro | (intro hh; cases hh))) (by omega) ?_
  intro k hk0
  conv => whnf
  refine bD (fun h4 => ?_) (fun h4 => ?_)
  · have hk : k < f.N := by omega
    have b2 : (k + 1) % f.N < f.N := Nat.mod_lt _ (by omega)
    have e2 : FnA Try.prog 91 [.agg f.cells, .int .i64 ((k : Int) + 1)] (· = .int .i64 ((k + 1) % f.N : Nat)) := by
      have := s91 f hok ((k : Int) + 1) (by omega)
      have h : ((k : Int) + 1) % (f.ti.length : Int) = ((k + 1) % f.N : Nat) := by rw [hti]; push_cast; rfl
      rwa [h] at this
    have g2 := arc_at (l := A.getD (A.length - 1) []) (i := (k + 1) % f.N) (by omega)
    change (List.map pairAV (A.getD (A.length - 1) [])).getD _ [] = [.int .i64 (arcE A (A.length - 1) ((k + 1) % f.N)), .int .i64 (arcL A (A.length - 1) ((k + 1) % f.N))] at g2
    have g5 : (f.ti.map iAV).getD k [] = [.int .i64 (f.T k)] := row_at (by omega)
    have hT := T_in hok hk
    have v2 := hA.val (A.length - 1) ((k + 1) % f.N) (by omega) b2
    have hE := endW_in hok hA hk
    have hst : f.whN A (k + 1) = if f.endW A k < (f.whN A k).1 then (f.endW A k, (k : Int)) else f.whN A k := rfl
    conv => whnf
    refine iaI (by omega) (by omega) g5 ?_
    (conv => whnf); (repeat' ((first | refine bT ?_ | refine bF ?_ | refine bN ?_ | ((first | refine bD ?_ ?_ | refine bEq ?_ ?_ | refine bNe ?_ ?_) <;> intro hh <;> try (exfalso; omega)) | (refine (e2).callq rfl rfl fun _ h => ?_; subst h) | refine wIn (by omega) ?_ | refine nI (by omega) ?_) <;> conv => whnf))
    refine iaI (by omega) (by omega) g2 ?_
    (conv => whnf); (repeat' ((first | refine bT ?_ | refine bF ?_ | refine bN ?_ | ((first | refine bD ?_ ?_ | refine bEq ?_ ?_ | refine bNe ?_ ?_) <;> intro hh <;> try (exfalso; omega)) | refine wIn (by omega) ?_ | refine nI (by omega) ?_) <;> conv => whnf))
    · refine ⟨k + 1, ?_, by omega, by omega⟩
      rw [hst, if_pos (show f.endW A k < (f.whN A k).1 from hh)]
      exact (meets_id (by (repeat' apply And.intro) <;> first | rfl | exact True.intro | (intro hh; cases hh)))
    · refine ⟨k + 1, ?_, by omega, by omega⟩
      rw [hst, if_neg (show ¬ f.endW A k < (f.whN A k).1 from hh)]
      exact (meets_id (by (repeat' apply And.intro) <;> first | rfl | exact True.intro | (intro hh; cases hh)))
  · have : k = f.N := by omega
    subst this
    (conv => whnf); (repeat' ((first | refine bT ?_ | refine bF ?_ | refine bN ?_ | ((first | refine bD ?_ ?_ | refine bEq ?_ ?_ | refine bNe ?_ ?_) <;> intro hh <;> try (exfalso; omega)) | refine wIn (by omega) ?_ | refine nI (by omega) ?_) <;> conv => whnf))
    all_goals rfl
/-- the beginnings of the seams of an arc -/
def Fig.rest (f : Fig) (A : List (List (Int × Int))) : Nat → Nat → Nat → List Int → List Int
  | 0, _, _, b => b
  | n + 1, first, many, b => if many = 0 then b else
    f.rest A n (((arcL A many first).toNat + 1) % f.N) (many - 1 - ((arcL A many first - first + f.N).toNat % f.N)) (f.rest A n first ((arcL A many first - first + f.N).toNat % f.N) (b.set (arcL A many first).toNat (arcE A many first - f.T (arcL A many first).toNat)))
theorem rest_len (f : Fig) (A : List (List (Int × Int))) : ∀ n first many b, (f.rest A n first many b).length = b.length
  | 0, _, _, b => rfl
  | n + 1, first, many, b => by
    simp only [Fig.rest]
    split
    · rfl
    · rw [rest_len f A n, rest_len f A n, List.length_set]
def lastOk (f : Fig) (A : List (List (Int × Int))) : Prop := ∀ m i, 1 ≤ m → m < A.length → i < f.N → ∃ c, c < m ∧ arcL A m i = ((i + c) % f.N : Nat)
theorem back_mod {i c N : Nat} (hi : i < N) (hc : c < N) : (((i + c) % N : Nat) - (i : Int) + N).toNat % N = c := by
  by_cases h : i + c < N
  · rw [Nat.mod_eq_of_lt h, show (((i + c : Nat) : Int) - i + N).toNat = c + N by omega, Nat.add_mod_right, Nat.mod_eq_of_lt hc]
  · have : (i + c) % N = i + c - N := by rw [Nat.mod_eq_sub_mod (by omega), Nat.mod_eq_of_lt (by omega)]
    rw [this, show (((i + c - N : Nat) : Int) - i + N).toNat = c by omega, Nat.mod_eq_of_lt hc]
theorem s95 (f : Fig) (hok : f.ok) (A : List (List (Int × Int))) (hA : arcsOk f A) (hL : lastOk f A) : ∀ (n first many : Nat) (b : List Int), many ≤ n → first < f.N → many < A.length → b.length = f.N →
    FnW Try.prog 95 [.int .i64 first, .int .i64 many, .own 0 0, .own 1 0, .own 2 0, .own 3 0] [.box false [.isl (A.map arcRow)], .box false f.cells, .box false [.row 4], .box false [.fn 95 [.own 0 0, .own 1 0, .own 2 0, .own 3 0]], .row false 3 1 (b.map iAV)]
      (fun r outs => r = .tup [] ∧ outs = [.box false [.isl (A.map arcRow)], .box false f.cells, .box false [.row 4], .box false [.fn 95 [.own 0 0, .own 1 0, .own 2 0, .own 3 0]], .row false 3 1 ((f.rest A n first many b).map iAV)]) := by
  intro n
  induction n with
  | zero =>
    intro first many b hm hf hmA hb
    obtain rfl : many = 0 := by omega
    refine fnW 1 [] ok95 (by simp) rfl rfl ?_
    (conv => whnf); (repeat' ((first | refine bT ?_ | refine bF ?_ | refine bN ?_ | ((first | refine bD ?_ ?_ | refine bEq ?_ ?_ | refine bNe ?_ ?_) <;> intro hh <;> try (exfalso; omega)) | refine wIn (by omega) ?_ | refine nI (by omega) ?_) <;> conv => whnf))
    all_goals exact ⟨rfl, rfl⟩
  | succ n ih =>
    intro first many b hm hf hmA hb
    by_cases h0 : many = 0
    · subst h0
      refine fnW 1 [] ok95 (by simp) rfl rfl ?_
      (conv => whnf); (repeat' ((first | refine bT ?_ | refine bF ?_ | refine bN ?_ | ((first | refine bD ?_ ?_ | refine bEq ?_ ?_ | refine bNe ?_ ?_) <;> intro hh <;> try (exfalso; omega)) | refine wIn (by omega) ?_ | refine nI (by omega) ?_) <;> conv => whnf))
      all_goals exact ⟨rfl, rfl⟩
    · have l1 : (A.map arcRow).length = A.length := by simp
      have l2 : (b.map iAV).length = b.length := by simp
      have l3 : (f.ti.map iAV).length = f.ti.length := by simp
      have hti : f.ti.length = f.N := hok.2.2.2.2.2.2.1
      have hN := N_in hok
      have hAl := hA.len
      obtain ⟨c, hc, hlast⟩ := hL many first (by omega) hmA hf
      have g3 := arcRow_at (A := A) (m := many) hmA
      have r3 := hA.row many hmA
      have lr3 : ((A.getD many []).map pairAV).length = f.N := by simp only [List.length_map]; exact r3
      have g4 := arc_at (l := A.getD many []) (i := first) (by omega)
      change (List.map pairAV (A.getD many [])).getD first [] = [.int .i64 (arcE A many first), .int .i64 (arcL A many first)] at g4
      have v1 := hA.val many first hmA hf
      have hb1 : (first + c) % f.N < f.N := Nat.mod_lt _ (by omega)
      have hbk := back_mod (i := first) (c := c) (N := f.N) hf (by omega)
      have hrest : f.rest A (n + 1) first many b = f.rest A n (((first + c) % f.N + 1) % f.N) (many - 1 - c) (f.rest A n first c (b.set ((first + c) % f.N) (arcE A many first - f.T ((first + c) % f.N)))) := by
        simp only [Fig.rest]
        rw [if_neg h0, hlast, hbk]; rfl
      rw [hrest]
      rw [hlast] at g4
      have hT := T_in hok hb1
      have g5 : (f.ti.map iAV).getD ((first + c) % f.N) [] = [.int .i64 (f.T ((first + c) % f.N))] := row_at (by omega)
      have g6 : (b.map iAV).getD ((first + c) % f.N) [] = [.int .i64 (b.getD ((first + c) % f.N) 0)] := row_at (by omega)
      generalize hla : (first + c) % f.N = la at *
      have hset : (b.map iAV).set la [.int .i64 (arcE A many first - f.T la)] = (b.set la (arcE A many first - f.T la)).map iAV := by
        rw [List.map_set]; rfl
      have e1 : FnA Try.prog 91 [.agg f.cells, .int .i64 ((la : Int) - first + ↑(f.ti.map iAV).length)] (· = .int .i64 (c : Nat)) := by
        have := s91 f hok ((la : Int) - first + ↑(f.ti.map iAV).length) (by omega)
        have h : ((la : Int) - first + ↑(f.ti.map iAV).length) % (f.ti.length : Int) = (c : Nat) := by
          rw [l3, hti]
          have h2 : ((la : Int) - first + f.N) = ((la : Int) - first + f.N).toNat := by omega
          rw [h2, ← Int.natCast_emod, hbk]
        rwa [h] at this
      have e2 : FnA Try.prog 91 [.agg f.cells, .int .i64 ((la : Int) + 1)] (· = .int .i64 ((la + 1) % f.N : Nat)) := by
        have := s91 f hok ((la : Int) + 1) (by omega)
        have h : ((la : Int) + 1) % (f.ti.length : Int) = ((la + 1) % f.N : Nat) := by rw [hti]; push_cast; rfl
        rwa [h] at this
      have i1 := ih first c (b.set la (arcE A many first - f.T la)) (by omega) hf (by omega) (by rw [List.length_set]; exact hb)
      have i2 := ih ((la + 1) % f.N) (many - 1 - c) (f.rest A n first c (b.set la (arcE A many first - f.T la))) (by omega) (Nat.mod_lt _ (by omega)) (by omega) (by rw [rest_len, List.length_set]; exact hb)
      rw [← hset] at i1
      have hcast : ((many - 1 - c : Nat) : Int) = (many : Int) - 1 - c := by omega
      rw [hcast] at i2
      refine fnW 1 [] ok95 (by simp) rfl rfl ?_
      (conv => whnf); (repeat' ((first | refine bT ?_ | refine bF ?_ | refine bN ?_ | ((first | refine bD ?_ ?_ | refine bEq ?_ ?_ | refine bNe ?_ ?_) <;> intro hh <;> try (exfalso; omega)) | refine wIn (by omega) ?_ | refine nI (by omega) ?_) <;> conv => whnf))
      refine iaI (by omega) (by omega) g3 ?_
      (conv => whnf); (repeat' ((first | refine bT ?_ | refine bF ?_ | refine bN ?_ | ((first | refine bD ?_ ?_ | refine bEq ?_ ?_ | refine bNe ?_ ?_) <;> intro hh <;> try (exfalso; omega)) | refine wIn (by omega) ?_ | refine nI (by omega) ?_) <;> conv => whnf))
      refine iaI (by omega) (by omega) g4 ?_
      (conv => whnf); (repeat' ((first | refine bT ?_ | refine bF ?_ | refine bN ?_ | ((first | refine bD ?_ ?_ | refine bEq ?_ ?_ | refine bNe ?_ ?_) <;> intro hh <;> try (exfalso; omega)) | refine wIn (by omega) ?_ | refine nI (by omega) ?_) <;> conv => whnf))
      refine iaI (by omega) (by omega) g5 ?_
      (conv => whnf); (repeat' ((first | refine bT ?_ | refine bF ?_ | refine bN ?_ | ((first | refine bD ?_ ?_ | refine bEq ?_ ?_ | refine bNe ?_ ?_) <;> intro hh <;> try (exfalso; omega)) | refine wIn (by omega) ?_ | refine nI (by omega) ?_) <;> conv => whnf))
      refine iaI (by omega) (by omega) g6 ?_
      (conv => whnf); (repeat' ((first | refine bT ?_ | refine bF ?_ | refine bN ?_ | ((first | refine bD ?_ ?_ | refine bEq ?_ ?_ | refine bNe ?_ ?_) <;> intro hh <;> try (exfalso; omega)) | (refine (e1).callq rfl rfl fun _ h => ?_; subst h) | refine wIn (by omega) ?_ | refine nI (by omega) ?_) <;> conv => whnf))
      refine i1.vcallwq [1, 2, 3, 4, 5] bd95 rfl rfl ⟨rfl, rfl, rfl, rfl, rfl, trivial⟩ rfl rfl rfl rfl (fun r outs hr => ?_)
      obtain ⟨hr1, ho⟩ := hr; subst hr1; subst ho; refine ⟨⟨rfl, rfl, rfl, rfl⟩, ?_⟩
      (conv => whnf); (repeat' ((first | refine bT ?_ | refine bF ?_ | refine bN ?_ | ((first | refine bD ?_ ?_ | refine bEq ?_ ?_ | refine bNe ?_ ?_) <;> intro hh <;> try (exfalso; omega)) | (refine (e2).callq rfl rfl fun _ h => ?_; subst h) | refine wIn (by omega) ?_ | refine nI (by omega) ?_) <;> conv => whnf))
      refine i2.vcallwq [1, 2, 3, 4, 5] bd95 rfl rfl ⟨rfl, rfl, rfl, rfl, rfl, trivial⟩ rfl rfl rfl rfl (fun r outs hr => ?_)
      obtain ⟨hr1, ho⟩ := hr; subst hr1; subst ho; refine ⟨⟨rfl, rfl, rfl, rfl⟩, ?_⟩
      (conv => whnf); (repeat' ((first | refine bT ?_ | refine bF ?_ | refine bN ?_ | ((first | refine bD ?_ ?_ | refine bEq ?_ ?_ | refine bNe ?_ ?_) <;> intro hh <;> try (exfalso; omega)) | refine wIn (by omega) ?_ | refine nI (by omega) ?_) <;> conv => whnf))
      all_goals exact ⟨rfl, rfl⟩
theorem arcsT_last {f : Fig} (hok : f.ok) : ∀ k, k < f.N → lastOk f (f.arcsT k)
  | 0, hk => fun m i h1 hm hi => by simp [Fig.arcsT] at hm; omega
  | k + 1, hk => fun m i h1 hm hi => by
    have ih := arcsT_last hok k (by omega)
    have hA := arcsT_ok hok k (by omega)
    have hl := arcsT_len f k
    rw [arcsT_len] at hm
    by_cases h : m < k + 1
    · have hold : (f.arcsT (k + 1)).getD m [] = (f.arcsT k).getD m [] := by
        simp only [Fig.arcsT, List.getD_eq_getElem?_getD]
        rw [List.getElem?_append_left (by omega)]
      unfold arcL; rw [hold]; exact ih m i h1 (by omega) hi
    · have : m = k + 1 := by omega
      subst this
      have hnew : (f.arcsT (k + 1)).getD (k + 1) [] = (List.range f.N).map (f.soon (f.arcsT k)) := by
        simp only [Fig.arcsT, List.getD_eq_getElem?_getD]
        rw [List.getElem?_append_right (by omega), hl]; simp
      have he : arcL (f.arcsT (k + 1)) (k + 1) i = (f.soon (f.arcsT k) i).2 := by
        unfold arcL; rw [hnew]; simp [List.getD_eq_getElem?_getD, hi]
      rw [he]
      rcases soonN_in hok hA hi (f.arcsT k).length (Nat.le_refl _) with ⟨h1, _⟩ | ⟨_, c, h2, h3⟩
      · omega
      · exact ⟨c, by omega, by unfold Fig.soon; rw [h3]⟩
def Fig.A (f : Fig) : List (List (Int × Int)) := f.arcsT (f.N - 1)
theorem A_len {f : Fig} (hok : f.ok) : f.A.length = f.N := by
  have := N_in hok
  unfold Fig.A; rw [arcsT_len]; omega
theorem A_ok {f : Fig} (hok : f.ok) : arcsOk f f.A := arcsT_ok hok _ (by have := N_in hok; omega)
/-- after how many minutes all can have ended, and the seam that closes the ring -/
def Fig.snd (f : Fig) : Int := (f.wh f.A).1
def Fig.wl (f : Fig) : Nat := (f.wh f.A).2.toNat
theorem wh_eq {f : Fig} (hok : f.ok) : (1 ≤ f.snd ∧ f.snd ≤ 1584) ∧ f.wl < f.N ∧ f.wh f.A = (f.endW f.A f.wl, (f.wl : Int)) := by
  have hN := N_in hok
  rcases whN_in hok (A_ok hok) f.N (Nat.le_refl _) with ⟨h, _⟩ | ⟨h1, c, h2, h3⟩
  · omega
  · have h3' : f.wh f.A = (f.endW f.A c, (c : Int)) := h3
    have hc : f.wl = c := by unfold Fig.wl; rw [h3']; rfl
    rw [A_len hok] at h1
    refine ⟨⟨h1.1, by have := h1.2; show (f.whN f.A f.N).1 ≤ _; omega⟩, by omega, by rw [hc]; exact h3'⟩
def Fig.plan (f : Fig) : List Int := f.rest f.A (f.N - 1) ((f.wl + 1) % f.N) (f.N - 1) ((List.replicate f.N 0).set f.wl (f.snd - f.T f.wl))
theorem s69 (f : Fig) (hok : f.ok) : FnA Try.prog 69 [.agg f.cells] (· = .tup [.isl (f.plan.map iAV), .int .i64 f.snd]) := by
  have l3 : (f.ti.map iAV).length = f.ti.length := by simp
  have hti : f.ti.length = f.N := hok.2.2.2.2.2.2.1
  have hN := N_in hok
  have hNn : (↑(f.ti.map iAV).length : Int).toNat = f.N := by omega
  obtain ⟨hs, hw, hwh⟩ := wh_eq hok
  have e0 : FnA Try.prog 94 [.agg f.cells] (· = .isl (f.A.map arcRow)) := s94 f hok
  have e1 := s96 f hok f.A (A_ok hok)
  have hsn : f.endW f.A f.wl = f.snd := by unfold Fig.snd; rw [hwh]
  rw [hwh, hsn] at e1
  have hT := T_in hok hw
  have g5 : (f.ti.map iAV).getD f.wl [] = [.int .i64 (f.T f.wl)] := row_at (by omega)
  have e2 : FnA Try.prog 91 [.agg f.cells, .int .i64 ((f.wl : Int) + 1)] (· = .int .i64 ((f.wl + 1) % f.N : Nat)) := by
    have := s91 f hok ((f.wl : Int) + 1) (by omega)
    have h : ((f.wl : Int) + 1) % (f.ti.length : Int) = ((f.wl + 1) % f.N : Nat) := by rw [hti]; push_cast; rfl
    rwa [h] at this
  have hlen : (List.replicate f.N (0 : Int)).length = f.N := by simp
  have i1 := s95 f hok f.A (A_ok hok) (arcsT_last hok _ (by omega)) (f.N - 1) ((f.wl + 1) % f.N) (f.N - 1) ((List.replicate f.N 0).set f.wl (f.snd - f.T f.wl)) (Nat.le_refl _) (Nat.mod_lt _ (by omega)) (by rw [A_len hok]; omega) (by rw [List.length_set]; exact hlen)
  have hcast : ((f.N - 1 : Nat) : Int) = (↑(f.ti.map iAV).length : Int) - 1 := by omega
  rw [hcast] at i1
  have g6 : (List.replicate (↑(f.ti.map iAV).length : Int).toNat [AV.int .i64 0]).getD f.wl [] = [.int .i64 0] := by
    rw [hNn]; simp [List.getD_eq_getElem?_getD, List.getElem?_replicate, hw]
  have hset : (List.replicate (↑(f.ti.map iAV).length : Int).toNat [AV.int .i64 0]).set f.wl [.int .i64 (f.snd - f.T f.wl)] = ((List.replicate f.N 0).set f.wl (f.snd - f.T f.wl)).map iAV := by
    rw [hNn, List.map_set, List.map_replicate]; rfl
  rw [← hset] at i1
  have hrl : (List.replicate (↑(f.ti.map iAV).length : Int).toNat [AV.int .i64 0]).length = f.N := by rw [hNn]; simp
  refine fnA 7 ok69 (by simp) ?_
  (conv => whnf); (repeat' ((first | refine bT ?_ | refine bF ?_ | refine bN ?_ | ((first | refine bD ?_ ?_ | refine bEq ?_ ?_ | refine bNe ?_ ?_) <;> intro hh <;> try (exfalso; omega)) | (refine (e0).callzq rfl rfl fun _ h => ?_; subst h) | refine wIn (by omega) ?_ | refine nI (by omega) ?_) <;> conv => whnf))
  refine mkI (by omega) (by omega) (by omega) ?_
  (conv => whnf); (repeat' ((first | refine bT ?_ | refine bF ?_ | refine bN ?_ | ((first | refine bD ?_ ?_ | refine bEq ?_ ?_ | refine bNe ?_ ?_) <;> intro hh <;> try (exfalso; omega)) | (refine (e1).callq rfl rfl fun _ h => ?_; subst h) | refine wIn (by omega) ?_ | refine nI (by omega) ?_) <;> conv => whnf))
  refine iaI (by omega) (by omega) g5 ?_
  (conv => whnf); (repeat' ((first | refine bT ?_ | refine bF ?_ | refine bN ?_ | ((first | refine bD ?_ ?_ | refine bEq ?_ ?_ | refine bNe ?_ ?_) <;> intro hh <;> try (exfalso; omega)) | refine wIn (by omega) ?_ | refine nI (by omega) ?_) <;> conv => whnf))
  refine iaI (by omega) (by omega) g6 ?_
  (conv => whnf); (repeat' ((first | refine bT ?_ | refine bF ?_ | refine bN ?_ | ((first | refine bD ?_ ?_ | refine bEq ?_ ?_ | refine bNe ?_ ?_) <;> intro hh <;> try (exfalso; omega)) | (refine (e2).callq rfl rfl fun _ h => ?_; subst h) | refine wIn (by omega) ?_ | refine nI (by omega) ?_) <;> conv => whnf))
  refine i1.vcallwq [2, 0, 4, 5, 3] bd95 rfl rfl ⟨rfl, rfl, rfl, rfl, rfl, trivial⟩ rfl rfl rfl rfl (fun r outs hr => ?_)
  obtain ⟨hr1, ho⟩ := hr; subst hr1; subst ho; refine ⟨⟨rfl, rfl, rfl, rfl⟩, ?_⟩
  (conv => whnf); (repeat' ((first | refine bT ?_ | refine bF ?_ | refine bN ?_ | ((first | refine bD ?_ ?_ | refine bEq ?_ ?_ | refine bNe ?_ ?_) <;> intro hh <;> try (exfalso; omega)) | refine wIn (by omega) ?_ | refine nI (by omega) ?_) <;> conv => whnf))
  all_goals rfl
theorem s31 (f : Fig) (hok : f.ok) : FnA Try.prog 31 [.agg f.cells] (· = .tup [.int .i64 f.snd, .int .i64 0]) := by
  have e1 := s36 f
  rw [chkF_ok hok] at e1
  have e2 := s69 f hok
  refine fnA 2 ok31 (by simp) ?_
  (conv => whnf); (repeat' ((first | refine bT ?_ | refine bF ?_ | refine bN ?_ | ((first | refine bD ?_ ?_ | refine bEq ?_ ?_ | refine bNe ?_ ?_) <;> intro hh <;> try (exfalso; omega)) | (refine (e1).callq rfl rfl fun _ h => ?_; subst h) | (refine (e2).callzq rfl rfl fun _ h => ?_; subst h) | refine wIn (by omega) ?_ | refine nI (by omega) ?_) <;> conv => whnf))
  all_goals rfl
theorem s31_no (f : Fig) (hok : ¬ f.ok) : FnA Try.prog 31 [.agg f.cells] (· = .tup [.int .i64 0, .int .i64 f.chk]) := by
  have e1 := s36 f
  have h0 := chkF_pos hok
  refine fnA 2 ok31 (by simp) ?_
  (conv => whnf); (repeat' ((first | refine bT ?_ | refine bF ?_ | refine bN ?_ | ((first | refine bD ?_ ?_ | refine bEq ?_ ?_ | refine bNe ?_ ?_) <;> intro hh <;> try (exfalso; omega)) | (refine (e1).callq rfl rfl fun _ h => ?_; subst h) | refine wIn (by omega) ?_ | refine nI (by omega) ?_) <;> conv => whnf))
  all_goals rfl
theorem s44 (f : Fig) (hok : f.ok) : FnA Try.prog 44 [.agg f.cells] (· = .tup [.isl (f.plan.map iAV), .int .i64 0]) := by
  have e1 := s36 f
  rw [chkF_ok hok] at e1
  have e2 := s69 f hok
  refine fnA 2 ok44 (by simp) ?_
  (conv => whnf); (repeat' ((first | refine bT ?_ | refine bF ?_ | refine bN ?_ | ((first | refine bD ?_ ?_ | refine bEq ?_ ?_ | refine bNe ?_ ?_) <;> intro hh <;> try (exfalso; omega)) | (refine (e1).callq rfl rfl fun _ h => ?_; subst h) | (refine (e2).callzq rfl rfl fun _ h => ?_; subst h) | refine wIn (by omega) ?_ | refine nI (by omega) ?_) <;> conv => whnf))
  all_goals rfl
theorem s44_no (f : Fig) (hok : ¬ f.ok) : FnA Try.prog 44 [.agg f.cells] (· = .tup [.isl [], .int .i64 f.chk]) := by
  have e1 := s36 f
  have h0 := chkF_pos hok
  refine fnA 2 ok44 (by simp) ?_
  (conv => whnf); (repeat' ((first | refine bT ?_ | refine bF ?_ | refine bN ?_ | ((first | refine bD ?_ ?_ | refine bEq ?_ ?_ | refine bNe ?_ ?_) <;> intro hh <;> try (exfalso; omega)) | (refine (e1).callq rfl rfl fun _ h => ?_; subst h) | refine wIn (by omega) ?_ | refine nI (by omega) ?_) <;> conv => whnf))
  all_goals rfl
def wayAV (w : List Int × Int) : List AV := [.isl (w.1.map iAV), .int .i64 w.2]
theorem s138 (w : List Int × Int) (s : Int) (hl : w.1.length ≤ 100) (hw : 0 ≤ w.2 ∧ w.2 ≤ 1000000) (hs : 0 ≤ s ∧ s ≤ 60) : FnA Try.prog 138 [.agg (wayAV w), .int .i64 s] (· = .agg (wayAV (w.1 ++ [s], w.2 + s))) := by
  have l1 : (w.1.map iAV).length = w.1.length := by simp
  have ht : ((w.1.map iAV).take (↑(w.1.map iAV).length : Int).toNat).drop (0 : Int).toNat = w.1.map iAV := by rw [Int.toNat_natCast, List.take_length]; rfl
  have hone : ∀ e ∈ w.1.map iAV, e.length = 1 := fun e he => (one_iAV w.1 e he).1
  have hs2 : wayAV (w.1 ++ [s], w.2 + s) = [.isl (w.1.map iAV ++ [[.int .i64 s]]), .int .i64 (w.2 + s)] := by simp [wayAV, iAV]
  rw [hs2]
  refine fnA 4 ok138 (by simp) ?_
  (conv => whnf); (repeat' ((first | refine bT ?_ | refine bF ?_ | refine bN ?_ | ((first | refine bD ?_ ?_ | refine bEq ?_ ?_ | refine bNe ?_ ?_) <;> intro hh <;> try (exfalso; omega)) | refine wIn (by omega) ?_ | refine nI (by omega) ?_) <;> conv => whnf))
  refine slI (es' := w.1.map iAV) (by omega) (by omega) (by omega) hone ht ?_
  (conv => whnf); (repeat' ((first | refine bT ?_ | refine bF ?_ | refine bN ?_ | ((first | refine bD ?_ ?_ | refine bEq ?_ ?_ | refine bNe ?_ ?_) <;> intro hh <;> try (exfalso; omega)) | refine wIn (by omega) ?_ | refine nI (by omega) ?_) <;> conv => whnf))
  refine apI (by simp [AV.one]) (by simp; omega) ?_
  (conv => whnf); (repeat' ((first | refine bT ?_ | refine bF ?_ | refine bN ?_ | ((first | refine bD ?_ ?_ | refine bEq ?_ ?_ | refine bNe ?_ ?_) <;> intro hh <;> try (exfalso; omega)) | refine wIn (by omega) ?_ | refine nI (by omega) ?_) <;> conv => whnf))
  all_goals rfl
theorem s147 (x : Int) : FnA Try.prog 147 [.int .i64 x] (· = .bool false) := by
  refine fnA 0 ok147 (by simp) ?_
  (conv => whnf); (repeat' ((first | refine bT ?_ | refine bF ?_ | refine bN ?_ | ((first | refine bD ?_ ?_ | refine bEq ?_ ?_ | refine bNe ?_ ?_) <;> intro hh <;> try (exfalso; omega)) | refine wIn (by omega) ?_ | refine nI (by omega) ?_) <;> conv => whnf))
  all_goals exact congrArg AV.bool (by simp)
theorem s146 (x y : Int) : FnA Try.prog 146 [.int .i64 x, .int .i64 y] (fun r => ∃ c : Int, r = .int .i64 c ∧ -1 ≤ c ∧ c ≤ 1) := by
  have e1 := s147 x
  have e2 := s147 y
  refine fnA 0 ok146 (by simp) ?_
  (conv => whnf); (repeat' ((first | refine bT ?_ | refine bF ?_ | refine bN ?_ | ((first | refine bD ?_ ?_ | refine bEq ?_ ?_ | refine bNe ?_ ?_) <;> intro hh <;> try (exfalso; omega)) | (refine (e1).callq rfl rfl fun _ h => ?_; subst h) | (refine (e2).callq rfl rfl fun _ h => ?_; subst h) | refine wIn (by omega) ?_ | refine nI (by omega) ?_) <;> conv => whnf))
  all_goals exact ⟨_, rfl, by decide, by decide⟩
theorem s144 (a b : List Int) (ha : a.length ≤ 1000) (hb : b.length ≤ 1000) : FnA Try.prog 144 [.isl (a.map iAV), .isl (b.map iAV)] (fun r => ∃ c : Int, r = .int .i64 c ∧ -1 ≤ c ∧ c ≤ 1) := by
  have l1 : (a.map iAV).length = a.length := by simp
  have l2 : (b.map iAV).length = b.length := by simp
  refine fnA 0 ok144 (by simp) ?_
  (conv => whnf); (repeat' ((first | refine bT ?_ | refine bF ?_ | refine bN ?_ | ((first | refine bD ?_ ?_ | refine bEq ?_ ?_ | refine bNe ?_ ?_) <;> intro hh <;> try (exfalso; omega)) | refine wIn (by omega) ?_ | refine nI (by omega) ?_) <;> conv => whnf))
  refine loop_i (α := Nat) (fun k => [(11, .int .i64 k), (10, .int .i64 ↑(a.map iAV).length), (9, .isl (a.map iAV)), (1, .isl (b.map iAV)), (0, .isl (a.map iAV))]) (fun k => []) (fun k => k ≤ a.length) (fun k => a.length - k) 0 (meets_id (by (repeat' apply And.intro) <;> first | rfl | exact True.intro | (intro hh; cases hh))) (by omega) ?_
  intro k hk0
  conv => whnf
  refine bD (fun h4 => ?_) (fun h4 => ?_)
  · have hk : k < a.length := by omega
    conv => whnf
    refine iaI (by omega) (by omega) (getD_map iAV a k hk) ?_
    conv => whnf
    refine bD (fun h5 => ?_) (fun h5 => ?_)
    · (conv => whnf); (repeat' ((first | refine bT ?_ | refine bF ?_ | refine bN ?_ | ((first | refine bD ?_ ?_ | refine bEq ?_ ?_ | refine bNe ?_ ?_) <;> intro hh <;> try (exfalso; omega)) | refine wIn (by omega) ?_ | refine nI (by omega) ?_) <;> conv => whnf))
      all_goals exact ⟨_, rfl, by decide, by decide⟩
    · have hkb : k < b.length := by omega
      conv => whnf
      refine iaI (by omega) (by omega) (getD_map iAV b k hkb) ?_
      conv => whnf
      refine (s146 a[k] b[k]).callq rfl rfl (fun r hr => ?_); obtain ⟨c, rfl, hc⟩ := hr
      conv => whnf
      refine bNe (fun h6 => ?_) (fun h6 => ?_)
      · (conv => whnf); (repeat' ((first | refine bT ?_ | refine bF ?_ | refine bN ?_ | ((first | refine bD ?_ ?_ | refine bEq ?_ ?_ | refine bNe ?_ ?_) <;> intro hh <;> try (exfalso; omega)) | refine wIn (by omega) ?_ | refine nI (by omega) ?_) <;> conv => whnf))
        all_goals exact ⟨c, rfl, hc.1, hc.2⟩
      · (conv => whnf); (repeat' ((first | refine bT ?_ | refine bF ?_ | refine bN ?_ | ((first | refine bD ?_ ?_ | refine bEq ?_ ?_ | refine bNe ?_ ?_) <;> intro hh <;> try (exfalso; omega)) | refine wIn (by omega) ?_ | refine nI (by omega) ?_) <;> conv => whnf))
        exact ⟨k + 1, (meets_id (by (repeat' apply And.intro) <;> first | rfl | exact True.intro | (intro hh; cases hh))), by omega, by omega⟩
  · (conv => whnf); (repeat' ((first | refine bT ?_ | refine bF ?_ | refine bN ?_ | ((first | refine bD ?_ ?_ | refine bEq ?_ ?_ | refine bNe ?_ ?_) <;> intro hh <;> try (exfalso; omega)) | refine wIn (by omega) ?_ | refine nI (by omega) ?_) <;> conv => whnf))
    all_goals exact ⟨_, rfl, by decide, by decide⟩
theorem s143 (x c : Int) : FnA Try.prog 143 [.isl [[.int .i64 x], [.int .i64 c]]] (· = .int .i64 (if x ≠ 0 then x else c)) := by
  refine fnA 0 ok143 (by simp) ?_
  (conv => whnf); (repeat' ((first | refine bT ?_ | refine bF ?_ | refine bN ?_ | ((first | refine bD ?_ ?_ | refine bEq ?_ ?_ | refine bNe ?_ ?_) <;> intro hh <;> try (exfalso; omega)) | refine wIn (by omega) ?_ | refine nI (by omega) ?_) <;> conv => whnf))
  refine loop_i (α := Nat) (fun k => [(8, .int .i64 k), (7, .int .i64 2), (6, .isl [[.int .i64 x], [.int .i64 c]]), (3, .int .i64 0)]) (fun k => []) (fun k => k ≤ 2 ∧ (1 ≤ k → x = 0) ∧ (2 ≤ k → c = 0)) (fun k => 2 - k) 0 (meets_id (by (repeat' apply And.intro) <;> first | rfl | exact True.intro | (intro hh; cases hh))) ⟨by omega, fun h => by omega, fun h => by omega⟩ ?_
  rintro k ⟨h1, h2, h3⟩
  rcases (show k = 0 ∨ k = 1 ∨ k = 2 by omega) with rfl | rfl | rfl
  · conv => whnf
    refine bD (fun h4 => ?_) (fun h4 => by omega)
    conv => whnf
    refine iaI (by omega) (by simp) rfl ?_
    conv => whnf
    refine bNe (fun h6 => ?_) (fun h6 => ?_)
    · rw [if_pos h6]
      (conv => whnf); (repeat' ((first | refine bT ?_ | refine bF ?_ | refine bN ?_ | ((first | refine bD ?_ ?_ | refine bEq ?_ ?_ | refine bNe ?_ ?_) <;> intro hh <;> try (exfalso; omega)) | refine wIn (by omega) ?_ | refine nI (by omega) ?_) <;> conv => whnf))
      all_goals rfl
    · (conv => whnf); (repeat' ((first | refine bT ?_ | refine bF ?_ | refine bN ?_ | ((first | refine bD ?_ ?_ | refine bEq ?_ ?_ | refine bNe ?_ ?_) <;> intro hh <;> try (exfalso; omega)) | refine wIn (by omega) ?_ | refine nI (by omega) ?_) <;> conv => whnf))
      exact ⟨1, (meets_id (by (repeat' apply And.intro) <;> first | rfl | exact True.intro | (intro hh; cases hh))), ⟨by omega, fun _ => by omega, fun h => by omega⟩, by omega⟩
  · have h0 := h2 (by omega)
    rw [if_neg (by omega)]
    conv => whnf
    refine bD (fun h4 => ?_) (fun h4 => by omega)
    conv => whnf
    refine iaI (by omega) (by simp) rfl ?_
    conv => whnf
    refine bNe (fun h6 => ?_) (fun h6 => ?_)
    · (conv => whnf); (repeat' ((first | refine bT ?_ | refine bF ?_ | refine bN ?_ | ((first | refine bD ?_ ?_ | refine bEq ?_ ?_ | refine bNe ?_ ?_) <;> intro hh <;> try (exfalso; omega)) | refine wIn (by omega) ?_ | refine nI (by omega) ?_) <;> conv => whnf))
      all_goals rfl
    · (conv => whnf); (repeat' ((first | refine bT ?_ | refine bF ?_ | refine bN ?_ | ((first | refine bD ?_ ?_ | refine bEq ?_ ?_ | refine bNe ?_ ?_) <;> intro hh <;> try (exfalso; omega)) | refine wIn (by omega) ?_ | refine nI (by omega) ?_) <;> conv => whnf))
      exact ⟨2, (meets_id (by (repeat' apply And.intro) <;> first | rfl | exact True.intro | (intro hh; cases hh))), ⟨by omega, fun _ => by omega, fun h => by omega⟩, by omega⟩
  · have h0 := h2 (by omega)
    have h5 := h3 (by omega)
    rw [if_neg (by omega), h5]
    conv => whnf
    refine bD (fun h4 => by omega) (fun h4 => ?_)
    (conv => whnf); (repeat' ((first | refine bT ?_ | refine bF ?_ | refine bN ?_ | ((first | refine bD ?_ ?_ | refine bEq ?_ ?_ | refine bNe ?_ ?_) <;> intro hh <;> try (exfalso; omega)) | refine wIn (by omega) ?_ | refine nI (by omega) ?_) <;> conv => whnf))
    all_goals rfl
/-- which of two ways is better -/
theorem s139 (w x : List Int × Int) (hl : w.1.length ≤ 100 ∧ x.1.length ≤ 100) (hw : 0 ≤ w.2 ∧ w.2 ≤ 1000000) (hx : 0 ≤ x.2 ∧ x.2 ≤ 1000000) : FnA Try.prog 139 [.agg (wayAV w), .agg (wayAV x)] (fun r => ∃ c : Int, r = .int .i64 c ∧ (c < 0 → w.2 ≤ x.2) ∧ (¬ c < 0 → x.2 ≤ w.2)) := by
  refine fnA 3 ok139 (by simp) ?_
  (conv => whnf); (repeat' ((first | refine bT ?_ | refine bF ?_ | refine bN ?_ | ((first | refine bD ?_ ?_ | refine bEq ?_ ?_ | refine bNe ?_ ?_) <;> intro hh <;> try (exfalso; omega)) | refine wIn (by omega) ?_ | refine nI (by omega) ?_) <;> conv => whnf))
  refine (s144 w.1 x.1 (by omega) (by omega)).callq rfl rfl (fun r hr => ?_); obtain ⟨c, rfl, hc⟩ := hr
  have e1 := s143 (w.2 - x.2) c
  (conv => whnf); (repeat' ((first | refine bT ?_ | refine bF ?_ | refine bN ?_ | ((first | refine bD ?_ ?_ | refine bEq ?_ ?_ | refine bNe ?_ ?_) <;> intro hh <;> try (exfalso; omega)) | (refine (e1).lendq rfl fun _ h => ?_; subst h; refine ⟨rfl, ?_⟩) | refine wIn (by omega) ?_ | refine nI (by omega) ?_) <;> conv => whnf))
  all_goals refine ⟨_, rfl, ?_, ?_⟩ <;> (intro h; split at h <;> omega)
abbrev Way := List Int × Int
def kW (W : List (Int × Way)) : List AV := W.map fun e => .int .i64 e.1
def uW (W : List (Int × Way)) : List AV := W.map fun e => .agg (wayAV e.2)
def putW : List (Int × Way) → Int → Way → List (Int × Way)
  | [], x, w => [(x, w)]
  | (y, v) :: W, x, w => if x = y then (x, w) :: W else (y, v) :: putW W x w
def getW : List (Int × Way) → Int → Option Way
  | [], _ => none
  | (y, v) :: W, x => if x = y then some v else getW W x
theorem getW_put (W : List (Int × Way)) (x : Int) (w : Way) (y : Int) : getW (putW W x w) y = if y = x then some w else getW W y := by
  induction W with
  | nil => simp [putW, getW]
  | cons e W ih =>
    obtain ⟨z, v⟩ := e
    simp only [putW]
    by_cases h : x = z
    · subst h
      rw [if_pos rfl]
      simp only [getW]
      by_cases h2 : y = x
      · rw [if_pos h2, if_pos h2]
      · rw [if_neg h2, if_neg h2, if_neg h2]
    · rw [if_neg h]
      simp only [getW]
      by_cases h2 : y = z
      · rw [if_pos h2, if_neg (by omega), if_pos h2]
      · rw [if_neg h2, ih, if_neg h2]
theorem findW (x : Int) (w : Way) : ∀ (W : List (Int × Way)) (i : Nat), ∃ r, findK .int (.int .i64 x) (kW W) i = some r ∧ ((r = none ∧ putW W x w = W ++ [(x, w)] ∧ getW W x = none) ∨ ∃ j v, r = some (i + j) ∧ W[j]? = some (x, v) ∧ putW W x w = W.set j (x, w) ∧ getW W x = some v)
  | [], i => ⟨none, rfl, .inl ⟨rfl, rfl, rfl⟩⟩
  | (y, v) :: W, i => by
    have hq : keq .int (.int .i64 x) (.int .i64 y) = some (x == y) := rfl
    by_cases h : x = y
    · subst h
      exact ⟨some i, by simp [kW, findK, hq], .inr ⟨0, v, rfl, rfl, by simp [putW], by simp [getW]⟩⟩
    · obtain ⟨r, h1, h2⟩ := findW x w W (i + 1)
      have hq' : keq .int (.int .i64 x) (.int .i64 y) = some false := by rw [hq]; simp [h]
      refine ⟨r, by simpa [kW, findK, hq'] using h1, ?_⟩
      rcases h2 with ⟨h2, h3, h4⟩ | ⟨j, u, h2, h3, h4, h5⟩
      · exact .inl ⟨h2, by simp [putW, h, h3], by simp [getW, h, h4]⟩
      · exact .inr ⟨j + 1, u, by rw [h2]; congr 1; omega, by simpa using h3, by simp [putW, h, h4], by simp [getW, h, h5]⟩
theorem mput_W (W : List (Int × Way)) (x : Int) (w : Way) : mput .int (kW W) (uW W) (.int .i64 x) (.agg (wayAV w)) = some (kW (putW W x w), uW (putW W x w)) := by
  obtain ⟨r, h1, h2⟩ := findW x w W 0
  have hk : keyV .int (.int .i64 x) = true := rfl
  unfold mput
  rcases h2 with ⟨rfl, h2, _⟩ | ⟨j, v, rfl, h2, h3, _⟩
  · rw [hk, h1, h2]; simp [kW, uW]
  · rw [hk, h1, h3]
    simp only [Nat.zero_add, Option.some.injEq, Prod.mk.injEq]
    refine ⟨?_, by simp [uW, List.map_set]⟩
    apply List.ext_getElem (by simp [kW])
    intro n h4 h5
    simp only [kW, List.getElem_map, List.getElem_set]
    split
    · rename_i e
      subst e
      obtain ⟨h6, h7⟩ := List.getElem?_eq_some_iff.1 h2
      rw [h7]
    · rfl
theorem mlook_W (W : List (Int × Way)) (x : Int) : mlook .int (kW W) (uW W) (.int .i64 x) = some ((getW W x).map fun w => .agg (wayAV w)) := by
  obtain ⟨r, h1, h2⟩ := findW x ([], 0) W 0
  have hk : keyV .int (.int .i64 x) = true := rfl
  unfold mlook
  rcases h2 with ⟨rfl, _, h2⟩ | ⟨j, v, rfl, h2, _, h3⟩
  · rw [hk, h1, h2]; rfl
  · rw [hk, h1, h3]
    have : (uW W)[j]? = some (.agg (wayAV v)) := by simp [uW, h2]
    simp only [Nat.zero_add, this, Option.map_some]
def ndW (W : List (Int × Way)) : Prop := (W.map (·.1)).Nodup
theorem keys_put {W : List (Int × Way)} {x y : Int} {w : Way} : y ∈ (putW W x w).map (·.1) → y ∈ W.map (·.1) ∨ y = x := by
  induction W with
  | nil => simp [putW]
  | cons e W ih =>
    obtain ⟨z, v⟩ := e
    simp only [putW]
    split
    · rename_i h; subst h; intro h2; left; simpa using h2
    · intro h2
      simp only [List.map_cons, List.mem_cons] at h2 ⊢
      rcases h2 with h2 | h2
      · exact .inl (.inl h2)
      · rcases ih h2 with h3 | h3
        · exact .inl (.inr h3)
        · exact .inr h3
theorem ndW_put {W : List (Int × Way)} {x : Int} {w : Way} (h : ndW W) : ndW (putW W x w) := by
  induction W with
  | nil => simp [putW, ndW]
  | cons e W ih =>
    obtain ⟨z, v⟩ := e
    unfold ndW at h ih ⊢
    simp only [List.map_cons, List.nodup_cons] at h
    simp only [putW]
    split
    · rename_i h2; subst h2; simpa using h
    · rename_i h2
      simp only [List.map_cons, List.nodup_cons]
      refine ⟨fun h3 => ?_, ih h.2⟩
      rcases keys_put h3 with h4 | h4
      · exact h.1 h4
      · exact h2 h4.symm
theorem getW_mem {W : List (Int × Way)} {x : Int} {w : Way} (h : getW W x = some w) : (x, w) ∈ W := by
  induction W with
  | nil => simp [getW] at h
  | cons e W ih =>
    obtain ⟨z, v⟩ := e
    simp only [getW] at h
    split at h
    · rename_i h2; cases h; subst h2; simp
    · exact List.mem_cons_of_mem _ (ih h)
theorem getW_of {W : List (Int × Way)} (hn : ndW W) {j : Nat} {x : Int} {w : Way} (h : W[j]? = some (x, w)) : getW W x = some w := by
  induction W generalizing j with
  | nil => simp at h
  | cons e W ih =>
    obtain ⟨z, v⟩ := e
    unfold ndW at hn ih
    simp only [List.map_cons, List.nodup_cons] at hn
    cases j with
    | zero => simp at h; obtain ⟨rfl, rfl⟩ := h; simp [getW]
    | succ j =>
      simp only [List.getElem?_cons_succ] at h
      have : x ≠ z := fun e => hn.1 (by subst e; exact List.mem_map.2 ⟨(x, w), List.mem_of_getElem? h, rfl⟩)
      simp only [getW, if_neg this]
      exact ih hn.2 h
/-- what the ways that are longer by a gore come from -/
def fromW (f : Fig) (W : List (Int × Way)) (l : List Int) (below : Int) (x : Int) (w : Way) : Prop := ∃ y v, getW W y = some v ∧ (∃ s ∈ l, x = (y + s).tmod f.per) ∧ w = (v.1 ++ [y], v.2 + y) ∧ v.2 + y < below
def stepW (f : Fig) (W M : List (Int × Way)) (l : List Int) (below : Int) : Prop := ndW M ∧ (∀ x w, getW M x = some w → fromW f W l below x w) ∧ ∀ y v, getW W y = some v → v.2 + y < below → ∀ s ∈ l, ∃ w', getW M ((y + s).tmod f.per) = some w' ∧ w'.2 ≤ v.2 + y
def smallW (f : Fig) (W : List (Int × Way)) (n : Nat) : Prop := ∀ y v, getW W y = some v → (0 ≤ y ∧ y < f.per) ∧ v.1.length ≤ n ∧ 0 ≤ v.2 ∧ v.2 ≤ 60 * n
theorem s129 (f : Fig) (hok : f.ok) (W : List (Int × Way)) (hnd : ndW W) (n : Nat) (hn : n ≤ 20) (hW : smallW f W n) (l : List Int) (hl : l.length ≤ 60) (hs : ∀ s ∈ l, 0 ≤ s ∧ s < f.per) (below : Int) :
    FnA Try.prog 129 [.agg f.pc, .imp (kW W) (uW W), .isl (l.map iAV), .int .i64 below] (fun r => ∃ M, r = .imp (kW M) (uW M) ∧ stepW f W M l below) := by
  have hp := hok.2.1
  have hll : (l.map iAV).length = l.length := by simp
  refine fnA 6 ok129 (by simp) ?_
  (conv => whnf); (repeat' ((first | refine bT ?_ | refine bF ?_ | refine bN ?_ | ((first | refine bD ?_ ?_ | refine bEq ?_ ?_ | refine bNe ?_ ?_) <;> intro hh <;> try (exfalso; omega)) | refine wIn (by omega) ?_ | refine nI (by omega) ?_) <;> conv => whnf))
  refine loop_i (α := List Nat × List AV × List (Int × Way)) (fun q => [(19, .row 2), (9, .row 1), (4, .own 0 0), (3, .int .i64 below), (2, .isl (l.map iAV))]) (fun q => [.box false f.pc, .mp false (kW q.2.2) (uW q.2.2), .itr (kW W) (uW W) q.1 q.2.1, .fresh, .fresh, .fresh])
    (fun q => ndW q.2.2 ∧ (∀ x w, getW q.2.2 x = some w → fromW f W l below x w) ∧ ∀ j ∈ q.1, ∀ y v, W[j]? = some (y, v) → v.2 + y < below → ∀ s ∈ l, ∃ w', getW q.2.2 ((y + s).tmod f.per) = some w' ∧ w'.2 ≤ v.2 + y) (fun q => (leftN q.1 W.length).length) ([], [], []) (meets_id (by (repeat' apply And.intro) <;> first | rfl | exact True.intro | (intro hh; cases hh))) ⟨by simp [ndW], by simp [getW], by simp⟩ ?_
  rintro ⟨seen, last, N⟩ ⟨hN0, hN1, hN2⟩
  dsimp only at hN0 hN1 hN2 ⊢
  conv => whnf
  refine nxI (fun j kv uv h5 h6 h7 => ?_) (fun h5 => ?_)
  · obtain ⟨y, v, hy, rfl, rfl⟩ : ∃ y v, W[j]? = some (y, v) ∧ .int .i64 y = kv ∧ .agg (wayAV v) = uv := by
      simp only [kW, uW, List.getElem?_map, Option.map_eq_some_iff] at h5 h6
      obtain ⟨⟨y, v⟩, h8, h9⟩ := h5
      obtain ⟨⟨y', v'⟩, h10, h11⟩ := h6
      rw [h8] at h10; cases h10
      exact ⟨y, v, h8, h9, h11⟩
    have hjl : j < W.length := (List.getElem?_eq_some_iff.1 hy).1
    have hgy := getW_of hnd hy
    obtain ⟨hy0, hv1, hv2, hv3⟩ := hW y v hgy
    have e1 := s138 v y (by omega) (by omega) (by omega)
    (conv => whnf); (repeat' ((first | refine bT ?_ | refine bF ?_ | refine bN ?_ | ((first | refine bD ?_ ?_ | refine bEq ?_ ?_ | refine bNe ?_ ?_) <;> intro hh <;> try (exfalso; omega)) | (refine (e1).callzq rfl rfl fun _ h => ?_; subst h) | refine wIn (by omega) ?_ | refine nI (by omega) ?_) <;> conv => whnf))
    · -- not below
      refine ⟨(seen ++ [j], [.int .i64 y, .agg (wayAV v)], N), (meets_id (by (repeat' apply And.intro) <;> first | rfl | exact True.intro | (intro hh; cases hh))), ⟨hN0, hN1, fun j' hj' y' v' hy' hb => ?_⟩, leftN_lt (leftN_mem.2 ⟨hjl, h7⟩)⟩
      rcases List.mem_append.1 hj' with hj' | hj'
      · exact hN2 j' hj' y' v' hy' hb
      · simp only [List.mem_singleton] at hj'
        subst hj'
        rw [hy] at hy'; cases hy'
        exfalso; omega
    · refine loop_i (α := Nat × List (Int × Way)) (fun q => [(34, .int .i64 q.1), (33, .int .i64 ↑(l.map iAV).length), (32, .isl (l.map iAV)), (19, .row 2), (11, .own 3 0), (10, .int .i64 y), (9, .row 1), (4, .own 0 0), (3, .int .i64 below), (2, .isl (l.map iAV))]) (fun q => [.box false f.pc, .mp false (kW q.2) (uW q.2), .itr (kW W) (uW W) (seen ++ [j]) [.int .i64 y, .agg (wayAV v)], .box false (wayAV (v.1 ++ [y], v.2 + y)), .fresh, .fresh])
        (fun q => q.1 ≤ l.length ∧ ndW q.2 ∧ (∀ x w, getW q.2 x = some w → fromW f W l below x w) ∧ (∀ x w, getW N x = some w → ∃ w', getW q.2 x = some w' ∧ w'.2 ≤ w.2) ∧ ∀ s ∈ l.take q.1, ∃ w', getW q.2 ((y + s).tmod f.per) = some w' ∧ w'.2 ≤ v.2 + y) (fun q => l.length - q.1) (0, N) (meets_id (by (repeat' apply And.intro) <;> first | rfl | exact True.intro | (intro hh; cases hh))) ⟨by simp, hN0, hN1, fun x w hx => ⟨w, hx, by omega⟩, by simp⟩ ?_
      rintro ⟨i, M⟩ ⟨hi0, hM0, hM1, hM2, hM3⟩
      dsimp only at hi0 hM0 hM1 hM2 hM3 ⊢
      conv => whnf
      refine bD (fun h8 => ?_) (fun h8 => ?_)
      · have hi : i < l.length := by omega
        have hsi := hs _ (List.getElem_mem hi)
        have hput : ∀ (hold : ∀ o, getW M ((y + l[i]).tmod f.per) = some o → v.2 + y ≤ o.2), ndW (putW M ((y + l[i]).tmod f.per) (v.1 ++ [y], v.2 + y)) ∧ (∀ x w, getW (putW M ((y + l[i]).tmod f.per) (v.1 ++ [y], v.2 + y)) x = some w → fromW f W l below x w) ∧ (∀ x w, getW N x = some w → ∃ w', getW (putW M ((y + l[i]).tmod f.per) (v.1 ++ [y], v.2 + y)) x = some w' ∧ w'.2 ≤ w.2) ∧ ∀ s ∈ l.take (i + 1), ∃ w', getW (putW M ((y + l[i]).tmod f.per) (v.1 ++ [y], v.2 + y)) ((y + s).tmod f.per) = some w' ∧ w'.2 ≤ v.2 + y := fun hold => by
          refine ⟨ndW_put hM0, fun x w hx => ?_, fun x w hx => ?_, all_take hi (fun s hs => ?_) ?_⟩
          · rw [getW_put] at hx
            split at hx
            · rename_i e; cases hx; subst e
              exact ⟨y, v, hgy, ⟨l[i], List.getElem_mem hi, rfl⟩, rfl, by omega⟩
            · exact hM1 x w hx
          · obtain ⟨w', k1, k2⟩ := hM2 x w hx
            rw [getW_put]
            split
            · rename_i e; subst e
              exact ⟨_, rfl, Int.le_trans (hold w' k1) k2⟩
            · exact ⟨w', k1, k2⟩
          · obtain ⟨w', k1, k2⟩ := hM3 s hs
            rw [getW_put]
            split
            · exact ⟨_, rfl, Int.le_refl _⟩
            · exact ⟨w', k1, k2⟩
          · rw [getW_put, if_pos rfl]
            exact ⟨_, rfl, Int.le_refl _⟩
        conv => whnf
        refine iaI (by omega) (by omega) (getD_map iAV l i hi) ?_
        (conv => whnf); (repeat' ((first | refine bT ?_ | refine bF ?_ | refine bN ?_ | ((first | refine bD ?_ ?_ | refine bEq ?_ ?_ | refine bNe ?_ ?_) <;> intro hh <;> try (exfalso; omega)) | refine wIn (by omega) ?_ | refine nI (by omega) ?_) <;> conv => whnf))
        refine lkI (mlook_W M _) ?_
        cases ho : getW M ((y + l[i]).tmod f.per) with
        | none =>
          have hq := hput (fun o h => by rw [ho] at h; cases h)
          (conv => whnf); (repeat' ((first | refine bT ?_ | refine bF ?_ | refine bN ?_ | ((first | refine bD ?_ ?_ | refine bEq ?_ ?_ | refine bNe ?_ ?_) <;> intro hh <;> try (exfalso; omega)) | refine wIn (by omega) ?_ | refine nI (by omega) ?_) <;> conv => whnf))
          refine mpI (mput_W M _ (v.1 ++ [y], v.2 + y)) ?_
          (conv => whnf); (repeat' ((first | refine bT ?_ | refine bF ?_ | refine bN ?_ | ((first | refine bD ?_ ?_ | refine bEq ?_ ?_ | refine bNe ?_ ?_) <;> intro hh <;> try (exfalso; omega)) | refine wIn (by omega) ?_ | refine nI (by omega) ?_) <;> conv => whnf))
          exact ⟨(i + 1, putW M ((y + l[i]).tmod f.per) (v.1 ++ [y], v.2 + y)), (meets_id (by (repeat' apply And.intro) <;> first | rfl | exact True.intro | (intro hh; cases hh))), ⟨by dsimp only; omega, hq⟩, by dsimp only; omega⟩
        | some o =>
          have hfo := hM1 _ _ ho
          obtain ⟨y2, v2, g1, _, g2, g3⟩ := hfo
          obtain ⟨a1, a2, a3, a4⟩ := hW y2 v2 g1
          have e2 := s139 (v.1 ++ [y], v.2 + y) o ⟨by simp; omega, by rw [g2]; simp; omega⟩ (by dsimp only; omega) (by rw [g2]; dsimp only; omega)
          (conv => whnf); (repeat' ((first | refine bT ?_ | refine bF ?_ | refine bN ?_ | ((first | refine bD ?_ ?_ | refine bEq ?_ ?_ | refine bNe ?_ ?_) <;> intro hh <;> try (exfalso; omega)) | refine wIn (by omega) ?_ | refine nI (by omega) ?_) <;> conv => whnf))
          refine e2.callq rfl rfl (fun r hr => ?_); obtain ⟨c, rfl, hc1, hc2⟩ := hr
          by_cases h9 : c < 0
          · have hq := hput (fun o' h => by rw [ho] at h; cases h; exact hc1 h9)
            (conv => whnf); (repeat' ((first | refine bT ?_ | refine bF ?_ | refine bN ?_ | ((first | refine bD ?_ ?_ | refine bEq ?_ ?_ | refine bNe ?_ ?_) <;> intro hh <;> try (exfalso; omega)) | refine wIn (by omega) ?_ | refine nI (by omega) ?_) <;> conv => whnf))
            refine mpI (mput_W M _ (v.1 ++ [y], v.2 + y)) ?_
            (conv => whnf); (repeat' ((first | refine bT ?_ | refine bF ?_ | refine bN ?_ | ((first | refine bD ?_ ?_ | refine bEq ?_ ?_ | refine bNe ?_ ?_) <;> intro hh <;> try (exfalso; omega)) | refine wIn (by omega) ?_ | refine nI (by omega) ?_) <;> conv => whnf))
            exact ⟨(i + 1, putW M ((y + l[i]).tmod f.per) (v.1 ++ [y], v.2 + y)), (meets_id (by (repeat' apply And.intro) <;> first | rfl | exact True.intro | (intro hh; cases hh))), ⟨by dsimp only; omega, hq⟩, by dsimp only; omega⟩
          · (conv => whnf); (repeat' ((first | refine bT ?_ | refine bF ?_ | refine bN ?_ | ((first | refine bD ?_ ?_ | refine bEq ?_ ?_ | refine bNe ?_ ?_) <;> intro hh <;> try (exfalso; omega)) | refine wIn (by omega) ?_ | refine nI (by omega) ?_) <;> conv => whnf))
            refine ⟨(i + 1, M), (meets_id (by (repeat' apply And.intro) <;> first | rfl | exact True.intro | (intro hh; cases hh))), ⟨by dsimp only; omega, hM0, hM1, hM2, all_take hi hM3 ⟨o, ho, hc2 h9⟩⟩, by dsimp only; omega⟩
      · have : i = l.length := by omega
        subst this
        rw [List.take_length] at hM3
        (conv => whnf); (repeat' ((first | refine bT ?_ | refine bF ?_ | refine bN ?_ | ((first | refine bD ?_ ?_ | refine bEq ?_ ?_ | refine bNe ?_ ?_) <;> intro hh <;> try (exfalso; omega)) | refine wIn (by omega) ?_ | refine nI (by omega) ?_) <;> conv => whnf))
        refine ⟨(seen ++ [j], [.int .i64 y, .agg (wayAV v)], M), (meets_id (by (repeat' apply And.intro) <;> first | rfl | exact True.intro | (intro hh; cases hh))), ⟨hM0, hM1, fun j' hj' y' v' hy' hb s hs => ?_⟩, leftN_lt (leftN_mem.2 ⟨hjl, h7⟩)⟩
        rcases List.mem_append.1 hj' with hj' | hj'
        · obtain ⟨w', k1, k2⟩ := hN2 j' hj' y' v' hy' hb s hs
          obtain ⟨w'', k3, k4⟩ := hM2 _ _ k1
          exact ⟨w'', k3, by omega⟩
        · simp only [List.mem_singleton] at hj'
          subst hj'
          rw [hy] at hy'; cases hy'
          exact hM3 s hs
  · (conv => whnf); (repeat' ((first | refine bT ?_ | refine bF ?_ | refine bN ?_ | ((first | refine bD ?_ ?_ | refine bEq ?_ ?_ | refine bNe ?_ ?_) <;> intro hh <;> try (exfalso; omega)) | refine wIn (by omega) ?_ | refine nI (by omega) ?_) <;> conv => whnf))
    refine ⟨N, rfl, hN0, hN1, fun y v hy hb s hs => ?_⟩
    obtain ⟨j, hj, hjy⟩ := List.getElem_of_mem (getW_mem hy)
    exact hN2 j (h5 j (by simpa [kW] using hj)) y v (by rw [← hjy]; simp [hj]) hb s hs
/-- a way of so many gores from a start, and where it stands then -/
def Fig.pth (f : Fig) (near start : Int) : Nat → Way → Int → Prop
  | 0, w, x => w = ([], 0) ∧ x = start
  | g + 1, w, x => ∃ v y, f.pth near start g v y ∧ (∃ s ∈ f.stp near g, x = (y + s).tmod f.per) ∧ w = (v.1 ++ [y], v.2 + y)
theorem pth_in {f : Fig} (hp : 1 ≤ f.per ∧ f.per ≤ 60) {near start : Int} (hs : 0 ≤ start ∧ start < f.per) : ∀ (g : Nat) (w : Way) (x : Int), f.pth near start g w x → (0 ≤ x ∧ x < f.per) ∧ w.1.length = g ∧ 0 ≤ w.2 ∧ w.2 ≤ 60 * g
  | 0, w, x, h => by
    obtain ⟨rfl, rfl⟩ := h
    exact ⟨hs, rfl, by simp, by simp⟩
  | g + 1, w, x, h => by
    obtain ⟨v, y, h1, ⟨s, h2, rfl⟩, rfl⟩ := h
    obtain ⟨a1, a2, a3, a4⟩ := pth_in hp hs g v y h1
    have b := ((mem_stp (by omega)).1 h2).1
    obtain ⟨c1, c2, c3⟩ := tmod_in (a := y + s) (b := f.per) (by omega) hp.1
    refine ⟨by omega, by simp [a2], ?_, ?_⟩
    · show 0 ≤ v.2 + y; omega
    · show v.2 + y ≤ 60 * ((g + 1 : Nat) : Int); push_cast; omega
def mapW (f : Fig) (near start below : Int) (g : Nat) (W : List (Int × Way)) : Prop := ndW W ∧ (∀ x w, getW W x = some w → f.pth near start g w x ∧ (g = 0 ∨ w.2 < below)) ∧ ∀ x w, f.pth near start g w x → (g = 0 ∨ w.2 < below) → ∃ w', getW W x = some w' ∧ w'.2 ≤ w.2
theorem mapW_step {f : Fig} (hp : 1 ≤ f.per ∧ f.per ≤ 60) {near start below : Int} (hs : 0 ≤ start ∧ start < f.per) {g : Nat} {W M : List (Int × Way)} (h : mapW f near start below g W) (hM : stepW f W M (f.stp near g) below) : mapW f near start below (g + 1) M := by
  obtain ⟨h1, h2, h3⟩ := h
  obtain ⟨m1, m2, m3⟩ := hM
  refine ⟨m1, fun x w hx => ?_, fun x w hx hb => ?_⟩
  · obtain ⟨y, v, g1, g2, g3, g4⟩ := m2 x w hx
    exact ⟨⟨v, y, (h2 y v g1).1, g2, g3⟩, .inr (by rw [g3]; exact g4)⟩
  · obtain ⟨v, y, p1, ⟨s, p2, rfl⟩, rfl⟩ := hx
    have a := pth_in hp hs g v y p1
    have hb : v.2 + y < below := by
      rcases hb with hb | hb
      · omega
      · exact hb
    obtain ⟨v', q1, q2⟩ := h3 y v p1 (.inr (by omega))
    obtain ⟨w', q3, q4⟩ := m3 y v' q1 (by omega) s p2
    exact ⟨w', q3, by show w'.2 ≤ v.2 + y; omega⟩
def owAV : Option Way → List AV
  | none => [.isl [], .int .i64 0]
  | some w => wayAV w
def stepsL (f : Fig) (k : Nat) : List (List AV) := (List.range k).map fun g => rowAV (f.stp f.near g)
theorem stepsL_at (f : Fig) {k g : Nat} (h : g < k) : (stepsL f k).getD g [] = rowAV (f.stp f.near g) := by
  simp [stepsL, List.getD_eq_getElem?_getD, h]
theorem s105 (f : Fig) (hok : f.ok) (start below : Int) (hs : 0 ≤ start ∧ start < f.per) : FnA Try.prog 105 [.agg f.pc, .int .i64 start, .isl (stepsL f f.N), .int .i64 below]
    (fun r => ∃ o : Option Way, r = .tup [.agg (owAV o), .bool o.isSome] ∧ (∀ w, o = some w → f.pth f.near start f.N w start ∧ w.2 < below) ∧ ∀ w, f.pth f.near start f.N w start → w.2 < below → ∃ w', o = some w' ∧ w'.2 ≤ w.2) := by
  have hp := hok.2.1
  have hN := N_in hok
  have l1 : (f.st.map iAV).length = f.st.length := by simp
  have hst : f.st.length = f.N := hok.2.2.2.2.1
  have hsl : (stepsL f f.N).length = f.N := by simp [stepsL]
  have e0 := mput_W [] start ([], 0)
  refine fnA 4 ok105 (by simp) ?_
  conv => whnf
  refine mpI e0 ?_
  conv => whnf
  refine loop_i (α := Nat × List (Int × Way) × Bool) (fun q => [(23, .int .i64 q.1), (22, .int .i64 ↑(f.st.map iAV).length), (10, match q.2.2 with | true => .row 2 | false => .imp (kW q.2.1) (uW q.2.1)), (8, .own 1 0), (4, .own 0 0), (3, .int .i64 below), (2, .isl (stepsL f f.N)), (1, .int .i64 start)])
    (fun q => [.box false f.pc, .box false [.nils, .int .i64 0], match q.2.2 with | true => .mp false (kW q.2.1) (uW q.2.1) | false => .fresh, .fresh])
    (fun q => q.1 ≤ f.N ∧ mapW f f.near start below q.1 q.2.1 ∧ (q.2.2 = true → q.1 = 0)) (fun q => f.N - q.1) (0, putW [] start ([], 0), true) (meets_id (by (repeat' apply And.intro) <;> first | rfl | exact True.intro | (intro hh; cases hh))) ⟨by simp, ⟨by simp [ndW, putW], fun x w hx => ?_, fun x w hx _ => ?_⟩, fun _ => rfl⟩ ?_
  · simp only [putW, getW] at hx
    split at hx
    · rename_i e; cases hx; exact ⟨⟨rfl, e⟩, .inl rfl⟩
    · cases hx
  · obtain ⟨rfl, rfl⟩ := hx
    exact ⟨([], 0), by simp [putW, getW], by simp⟩
  rintro ⟨k, W, b⟩ ⟨hk0, hW, hb⟩
  dsimp only at hk0 hW hb ⊢
  have hsm : k ≤ 20 → smallW f W 20 := fun _ y v hy => by
    obtain ⟨a1, a2, a3, a4⟩ := pth_in hp hs k v y (hW.2.1 y v hy).1
    exact ⟨a1, by omega, a3, by omega⟩
  have e1 := s129 f hok W hW.1 20 (by omega) (hsm (by omega)) (f.stp f.near k) (Nat.le_trans (stN_le f f.near k _) (by omega)) (fun s hs => ((mem_stp (by omega)).1 hs).1) below
  cases b with
  | true =>
    have := hb rfl
    subst this
    conv => whnf
    refine bD (fun h4 => ?_) (fun h4 => by omega)
    conv => whnf
    refine iaI (by omega) (by omega) (stepsL_at f (by omega)) ?_
    conv => whnf
    refine e1.callzq rfl rfl (fun r hr => ?_); obtain ⟨M, rfl, hM⟩ := hr
    (conv => whnf); (repeat' ((first | refine bT ?_ | refine bF ?_ | refine bN ?_ | ((first | refine bD ?_ ?_ | refine bEq ?_ ?_ | refine bNe ?_ ?_) <;> intro hh <;> try (exfalso; omega)) | refine wIn (by omega) ?_ | refine nI (by omega) ?_) <;> conv => whnf))
    exact ⟨(1, M, false), (meets_id (by (repeat' apply And.intro) <;> first | rfl | exact True.intro | (intro hh; cases hh))), ⟨by dsimp only; omega, mapW_step hp hs hW hM, fun h => by cases h⟩, by dsimp only; omega⟩
  | false =>
    conv => whnf
    refine bD (fun h4 => ?_) (fun h4 => ?_)
    · conv => whnf
      refine iaI (by omega) (by omega) (stepsL_at f (by omega)) ?_
      conv => whnf
      refine e1.callzq rfl rfl (fun r hr => ?_); obtain ⟨M, rfl, hM⟩ := hr
      (conv => whnf); (repeat' ((first | refine bT ?_ | refine bF ?_ | refine bN ?_ | ((first | refine bD ?_ ?_ | refine bEq ?_ ?_ | refine bNe ?_ ?_) <;> intro hh <;> try (exfalso; omega)) | refine wIn (by omega) ?_ | refine nI (by omega) ?_) <;> conv => whnf))
      exact ⟨(k + 1, M, false), (meets_id (by (repeat' apply And.intro) <;> first | rfl | exact True.intro | (intro hh; cases hh))), ⟨by dsimp only; omega, mapW_step hp hs hW hM, fun h => by cases h⟩, by dsimp only; omega⟩
    · have : k = f.N := by omega
      subst this
      have h0 : ∀ w : Way, (f.N = 0 ∨ w.2 < below) ↔ w.2 < below := fun w => ⟨fun h => by omega, .inr⟩
      conv => whnf
      refine lkI (mlook_W W start) ?_
      cases ho : getW W start with
      | none =>
        (conv => whnf); (repeat' ((first | refine bT ?_ | refine bF ?_ | refine bN ?_ | ((first | refine bD ?_ ?_ | refine bEq ?_ ?_ | refine bNe ?_ ?_) <;> intro hh <;> try (exfalso; omega)) | refine wIn (by omega) ?_ | refine nI (by omega) ?_) <;> conv => whnf))
        refine ⟨none, rfl, fun w h => (by cases h), fun w h1 h2 => ?_⟩
        obtain ⟨w', h3, _⟩ := hW.2.2 start w h1 (.inr h2)
        rw [ho] at h3; cases h3
      | some o =>
        (conv => whnf); (repeat' ((first | refine bT ?_ | refine bF ?_ | refine bN ?_ | ((first | refine bD ?_ ?_ | refine bEq ?_ ?_ | refine bNe ?_ ?_) <;> intro hh <;> try (exfalso; omega)) | refine wIn (by omega) ?_ | refine nI (by omega) ?_) <;> conv => whnf))
        refine ⟨some o, rfl, fun w h => ?_, fun w h1 h2 => ?_⟩
        · cases h
          obtain ⟨h3, h4⟩ := hW.2.1 start o ho
          exact ⟨h3, (h0 o).1 h4⟩
        · obtain ⟨w', h3, h4⟩ := hW.2.2 start w h1 (.inr h2)
          rw [ho] at h3; cases h3
          exact ⟨o, rfl, h4⟩
/-- a way around the ring -/
def Fig.rng (f : Fig) (near : Int) (w : Way) : Prop := ∃ st, (0 ≤ st ∧ st < f.per) ∧ f.pth near st f.N w st
def bestAV : Option Way → List AV
  | none => [.nils, .int .i64 mxI]
  | some w => wayAV w
theorem stepsL_succ (f : Fig) (k : Nat) : stepsL f (k + 1) = stepsL f k ++ [[.isl ((f.stp f.near k).map iAV)]] := by
  simp [stepsL, List.range_succ, rowAV]
def begR (f : Fig) (r : AV) : Prop := (∃ w, r = .tup [.isl (w.1.map iAV), .int .i64 0] ∧ f.rng f.near w ∧ ∀ w', f.rng f.near w' → w.2 ≤ w'.2) ∨ (r = .tup [.isl [], .int .i64 3] ∧ ∀ w, ¬ f.rng f.near w)
theorem s76 (f : Fig) (hok : f.ok) : FnA Try.prog 76 [.agg f.pc] (begR f) := by
  have hp := hok.2.1
  have hN := N_in hok
  have hNg : f.N = f.d.gs.length := rfl
  have l1 : (f.st.map iAV).length = f.st.length := by simp
  have hst : f.st.length = f.N := hok.2.2.2.2.1
  refine fnA 8 ok76 (by simp) ?_
  (conv => whnf); (repeat' ((first | refine bT ?_ | refine bF ?_ | refine bN ?_ | ((first | refine bD ?_ ?_ | refine bEq ?_ ?_ | refine bNe ?_ ?_) <;> intro hh <;> try (exfalso; omega)) | refine wIn (by omega) ?_ | refine nI (by omega) ?_) <;> conv => whnf))
  refine loop_i (α := Nat) (fun k => [(15, .int .i64 k), (14, .int .i64 ↑(f.st.map iAV).length), (4, .row 7), (1, .own 0 0)]) (fun k => [.box false f.pc, .fresh, .fresh, .fresh, .fresh, .fresh, .fresh, .row false 23 1 (stepsL f k)]) (fun k => k ≤ f.N) (fun k => f.N - k) 0 (meets_nil 7 (by (repeat' apply And.intro) <;> first | rfl | exact True.intro | (intro hh; cases hh))) (by omega) ?_
  intro k hk0
  conv => whnf
  refine bD (fun h4 => ?_) (fun h4 => ?_)
  · have e1 := s104 f hok k (by omega) f.near
    have hsl : (stepsL f k).length = k := by simp [stepsL]
    have hss := stepsL_succ f k
    (conv => whnf); (repeat' ((first | refine bT ?_ | refine bF ?_ | refine bN ?_ | ((first | refine bD ?_ ?_ | refine bEq ?_ ?_ | refine bNe ?_ ?_) <;> intro hh <;> try (exfalso; omega)) | (refine (e1).callzq rfl rfl fun _ h => ?_; subst h) | refine wIn (by omega) ?_ | refine nI (by omega) ?_) <;> conv => whnf))
    refine apI (by simp [AV.one]) (by simp only [hsl]; simp; omega) ?_
    (conv => whnf); (repeat' ((first | refine bT ?_ | refine bF ?_ | refine bN ?_ | ((first | refine bD ?_ ?_ | refine bEq ?_ ?_ | refine bNe ?_ ?_) <;> intro hh <;> try (exfalso; omega)) | refine wIn (by omega) ?_ | refine nI (by omega) ?_) <;> conv => whnf))
    refine ⟨k + 1, ?_, by omega, by omega⟩
    rw [hss]
    exact (meets_ren 7 3 (by (repeat' apply And.intro) <;> first | rfl | exact True.intro | (intro hh; cases hh)))
  · have : k = f.N := by omega
    subst this
    (conv => whnf); (repeat' ((first | refine bT ?_ | refine bF ?_ | refine bN ?_ | ((first | refine bD ?_ ?_ | refine bEq ?_ ?_ | refine bNe ?_ ?_) <;> intro hh <;> try (exfalso; omega)) | refine wIn (by omega) ?_ | refine nI (by omega) ?_) <;> conv => whnf))
    refine loop_i (α := Nat × Option Way × Bool) (fun q => [(34, .int .i64 q.1), (33, .int .i64 f.per), (6, .own 4 0), (4, .row 7), (1, .own 0 0)]) (fun q => [.box false f.pc, .fresh, .fresh, .fresh, .box false (bestAV q.2.1), .fresh, .fresh, .row q.2.2 23 1 (stepsL f f.N)])
      (fun q => (q.1 : Int) ≤ f.per ∧ (∀ w, q.2.1 = some w → f.rng f.near w) ∧ ∀ (st : Int) (w : Way), 0 ≤ st ∧ st < q.1 → f.pth f.near st f.N w st → ∃ w', q.2.1 = some w' ∧ w'.2 ≤ w.2) (fun q => f.per.toNat - q.1) (0, none, false) (meets_id (by (repeat' apply And.intro) <;> first | rfl | exact True.intro | (intro hh; cases hh))) ⟨by dsimp only; omega, fun w h => (by cases h), fun st w h => by exfalso; dsimp only at h; omega⟩ ?_
    rintro ⟨k, o, b⟩ ⟨hk0, ho1, ho2⟩
    dsimp only at hk0 ho1 ho2 ⊢
    cases o with
    | none =>
      conv => whnf
      refine bD (fun h5 => ?_) (fun h5 => ?_)
      · have e1 := s105 f hok k mxI ⟨by omega, h5⟩
        (conv => whnf); (repeat' ((first | refine bT ?_ | refine bF ?_ | refine bN ?_ | ((first | refine bD ?_ ?_ | refine bEq ?_ ?_ | refine bNe ?_ ?_) <;> intro hh <;> try (exfalso; omega)) | refine wIn (by omega) ?_ | refine nI (by omega) ?_) <;> conv => whnf))
        refine e1.callzq rfl rfl (fun r hr => ?_); obtain ⟨o', rfl, c1, c2⟩ := hr
        cases o' with
        | none =>
          (conv => whnf); (repeat' ((first | refine bT ?_ | refine bF ?_ | refine bN ?_ | ((first | refine bD ?_ ?_ | refine bEq ?_ ?_ | refine bNe ?_ ?_) <;> intro hh <;> try (exfalso; omega)) | refine wIn (by omega) ?_ | refine nI (by omega) ?_) <;> conv => whnf))
          refine ⟨(k + 1, none, true), (meets_id (by (repeat' apply And.intro) <;> first | rfl | exact True.intro | (intro hh; cases hh))), ⟨by dsimp only; omega, ho1, fun st w hs hw => ?_⟩, by dsimp only; omega⟩
          dsimp only at hs ⊢
          by_cases hst2 : st < k
          · exact ho2 st w ⟨hs.1, hst2⟩ hw
          · obtain rfl : st = k := by omega
            have := pth_in hp (near := f.near) (start := k) ⟨by omega, h5⟩ f.N w k hw
            exact c2 w hw (by show w.2 < mxI; unfold mxI; omega)
        | some w1 =>
          obtain ⟨c3, c4⟩ := c1 w1 rfl
          (conv => whnf); (repeat' ((first | refine bT ?_ | refine bF ?_ | refine bN ?_ | ((first | refine bD ?_ ?_ | refine bEq ?_ ?_ | refine bNe ?_ ?_) <;> intro hh <;> try (exfalso; omega)) | refine wIn (by omega) ?_ | refine nI (by omega) ?_) <;> conv => whnf))
          refine ⟨(k + 1, some w1, true), (meets_id (by (repeat' apply And.intro) <;> first | rfl | exact True.intro | (intro hh; cases hh))), ⟨by dsimp only; omega, fun w h => (by cases h; exact ⟨k, ⟨by omega, h5⟩, c3⟩), fun st w hs hw => ?_⟩, by dsimp only; omega⟩
          dsimp only at hs ⊢
          by_cases hst2 : st < k
          · obtain ⟨w', h6, _⟩ := ho2 st w ⟨hs.1, hst2⟩ hw
            cases h6
          · obtain rfl : st = k := by omega
            have := pth_in hp (near := f.near) (start := k) ⟨by omega, h5⟩ f.N w k hw
            exact c2 w hw (by show w.2 < mxI; unfold mxI; omega)
      · have : (k : Int) = f.per := by omega
        (conv => whnf); (repeat' ((first | refine bT ?_ | refine bF ?_ | refine bN ?_ | ((first | refine bD ?_ ?_ | refine bEq ?_ ?_ | refine bNe ?_ ?_) <;> intro hh <;> try (exfalso; omega)) | refine wIn (by omega) ?_ | refine nI (by omega) ?_) <;> conv => whnf))
        all_goals refine .inr ⟨rfl, fun w hw => ?_⟩
        all_goals
          obtain ⟨st, hs, hw⟩ := hw
          obtain ⟨w', h6, _⟩ := ho2 st w (by omega) hw
          cases h6
    | some w0 =>
      have hr0 := ho1 w0 rfl
      obtain ⟨st0, hs0, hw0⟩ := hr0
      have hin0 := pth_in hp (near := f.near) hs0 f.N w0 st0 hw0
      conv => whnf
      refine bD (fun h5 => ?_) (fun h5 => ?_)
      · have e1 := s105 f hok k w0.2 ⟨by omega, h5⟩
        (conv => whnf); (repeat' ((first | refine bT ?_ | refine bF ?_ | refine bN ?_ | ((first | refine bD ?_ ?_ | refine bEq ?_ ?_ | refine bNe ?_ ?_) <;> intro hh <;> try (exfalso; omega)) | refine wIn (by omega) ?_ | refine nI (by omega) ?_) <;> conv => whnf))
        refine e1.callzq rfl rfl (fun r hr => ?_); obtain ⟨o', rfl, c1, c2⟩ := hr
        cases o' with
        | none =>
          (conv => whnf); (repeat' ((first | refine bT ?_ | refine bF ?_ | refine bN ?_ | ((first | refine bD ?_ ?_ | refine bEq ?_ ?_ | refine bNe ?_ ?_) <;> intro hh <;> try (exfalso; omega)) | refine wIn (by omega) ?_ | refine nI (by omega) ?_) <;> conv => whnf))
          refine ⟨(k + 1, some w0, true), (meets_id (by (repeat' apply And.intro) <;> first | rfl | exact True.intro | (intro hh; cases hh))), ⟨by dsimp only; omega, ho1, fun st w hs hw => ?_⟩, by dsimp only; omega⟩
          dsimp only at hs ⊢
          by_cases hst2 : st < k
          · exact ho2 st w ⟨hs.1, hst2⟩ hw
          · obtain rfl : st = k := by omega
            refine ⟨w0, rfl, ?_⟩
            by_cases hq : w.2 < w0.2
            · obtain ⟨w', h6, _⟩ := c2 w hw hq
              cases h6
            · omega
        | some w1 =>
          obtain ⟨c3, c4⟩ := c1 w1 rfl
          (conv => whnf); (repeat' ((first | refine bT ?_ | refine bF ?_ | refine bN ?_ | ((first | refine bD ?_ ?_ | refine bEq ?_ ?_ | refine bNe ?_ ?_) <;> intro hh <;> try (exfalso; omega)) | refine wIn (by omega) ?_ | refine nI (by omega) ?_) <;> conv => whnf))
          refine ⟨(k + 1, some w1, true), (meets_id (by (repeat' apply And.intro) <;> first | rfl | exact True.intro | (intro hh; cases hh))), ⟨by dsimp only; omega, fun w h => (by cases h; exact ⟨k, ⟨by omega, h5⟩, c3⟩), fun st w hs hw => ?_⟩, by dsimp only; omega⟩
          dsimp only at hs ⊢
          refine ⟨w1, rfl, ?_⟩
          by_cases hst2 : st < k
          · obtain ⟨w', h6, h7⟩ := ho2 st w ⟨hs.1, hst2⟩ hw
            cases h6; omega
          · obtain rfl : st = k := by omega
            by_cases hq : w.2 < w0.2
            · obtain ⟨w', h6, h7⟩ := c2 w hw hq
              cases h6; exact h7
            · omega
      · have : (k : Int) = f.per := by omega
        have hpos : 0 < (w0.1.map iAV).length := by rw [List.length_map]; omega
        (conv => whnf); (repeat' ((first | refine bT ?_ | refine bF ?_ | refine bN ?_ | ((first | refine bD ?_ ?_ | refine bEq ?_ ?_ | refine bNe ?_ ?_) <;> intro hh <;> try (exfalso; omega)) | refine wIn (by omega) ?_ | refine nI (by omega) ?_) <;> conv => whnf))
        all_goals refine .inl ⟨w0, rfl, ⟨st0, hs0, hw0⟩, fun w hw => ?_⟩
        all_goals
          obtain ⟨st, hs, hw⟩ := hw
          obtain ⟨w', h6, h7⟩ := ho2 st w (by omega) hw
          cases h6; exact h7
end Go.Proofs
