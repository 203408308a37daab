/- What each function of this program answers, proved by walking its body: the contracts that the law rests on, part 6. -/
import Derived.Test.YtkkpokakjblenaaFns3
set_option linter.unusedSimpArgs false
set_option linter.unusedVariables false
set_option linter.unusedSectionVars false
namespace Go.Proofs
open Go.Eng
attribute [local irreducible] Go.Eng.brB Go.Eng.need Go.Eng.wrE Go.Eng.iaE Go.Eng.slE Go.Eng.apE Go.Eng.CallZ Go.Eng.CallE Go.Eng.VCallE Go.Eng.YldE Go.Eng.GoC Go.Eng.MeetsE Go.Eng.FnA Go.Eng.FnV Go.Eng.ItA
set_option maxRecDepth 100000
theorem lw_congr {f g : Fig} (h : ∀ l, f.isB f.near l ↔ g.isB g.near l) : f.lw = g.lw ∧ f.lE = g.lE := by
  by_cases hb : f.hasB
  · obtain ⟨h1, ⟨l, h2, h3⟩, h4⟩ := lw_spec hb
    have := lw_eq (f := g) ((h l).1 h2) fun l' hl' => by rw [h3]; exact h4 l' ((h l').2 hl')
    exact ⟨by rw [this.2, h3], by rw [h1, this.1]⟩
  · have hg : ¬ g.hasB := fun ⟨l, hl⟩ => hb ⟨l, (h l).2 hl⟩
    rw [(lw_no hb).1, (lw_no hb).2, (lw_no hg).1, (lw_no hg).2]; exact ⟨rfl, rfl⟩
/-- a list that is changed up to a place -/
def prt (g : Int → Int) (l : List Int) (k : Nat) : List Int := (l.take k).map g ++ l.drop k
theorem prt_len (g : Int → Int) (l : List Int) (k : Nat) : (prt g l k).length = l.length := by
  simp only [prt, List.length_append, List.length_map, List.length_take, List.length_drop]; omega
theorem prt_all (g : Int → Int) (l : List Int) : prt g l l.length = l.map g := by simp [prt]
theorem prt_0 (g : Int → Int) (l : List Int) : prt g l 0 = l := by simp [prt]
theorem prt_get (g : Int → Int) {l : List Int} {k : Nat} (h : k < l.length) : (prt g l k).getD k 0 = l[k] := by
  unfold prt
  rw [List.getD_eq_getElem?_getD, List.getElem?_append_right (by simp; omega)]
  simp only [List.length_map, List.length_take, List.getElem?_drop]
  rw [show k + (k - min k l.length) = k by omega, List.getElem?_eq_getElem h]; rfl
theorem prt_set (g : Int → Int) {l : List Int} {k : Nat} (h : k < l.length) : ((prt g l k).map iAV).set k [.int .i64 (g l[k])] = (prt g l (k + 1)).map iAV := by
  have : (prt g l k).set k (g l[k]) = prt g l (k + 1) := by
    unfold prt
    rw [List.take_succ_eq_append_getElem h, List.map_append, List.drop_eq_getElem_cons h, List.set_append_right _ _ (by simp; omega)]
    simp only [List.length_map, List.length_take, List.map_cons, List.map_nil, List.append_assoc, List.cons_append, List.nil_append]
    rw [show k - min k l.length = 0 by omega]; rfl
  rw [← this, List.map_set]; rfl
def Fig.sh (f : Fig) (by_ : Int) (x : Int) : Int := (x + by_).tmod f.per
/-- all starts are moved -/
def Fig.mvd (f : Fig) (by_ : Int) : Fig := { f with st := prt (f.sh by_) f.st f.st.length }
theorem mvd_ok {f : Fig} (hok : f.ok) {c : Int} (hc : 0 ≤ c) : (f.mvd c).ok := by
  have hp := hok.2.1
  refine ⟨hok.1, hok.2.1, hok.2.2.1, hok.2.2.2.1, ?_, fun x hx => ?_, hok.2.2.2.2.2.2⟩
  · show (prt (f.sh c) f.st f.st.length).length = f.d.gs.length
    rw [prt_len]; exact hok.2.2.2.2.1
  · have hx' : x ∈ prt (f.sh c) f.st f.st.length := hx
    rw [prt_all] at hx'
    obtain ⟨y, hy, rfl⟩ := List.mem_map.1 hx'
    have := st_x hok y hy
    obtain ⟨h1, h2, h3⟩ := tmod_in (a := y + c) (b := f.per) (by omega) hp.1
    show 0 ≤ (y + c).tmod f.per ∧ (y + c).tmod f.per ≤ f.per - 1
    omega
theorem dist_sh {f : Fig} (hp : 1 ≤ f.per) (a b c : Int) : f.dist ((a + c) % f.per) ((b + c) % f.per) = f.dist (a % f.per) (b % f.per) := by
  have h : ∀ x : Int, 0 ≤ x % f.per ∧ x % f.per < f.per := fun x => ⟨Int.emod_nonneg _ (by omega), Int.emod_lt_of_pos _ (by omega)⟩
  rw [dist_eq (h _) (h _), dist_eq (h _) (h _), ← Int.sub_emod, ← Int.sub_emod, ← Int.sub_emod, ← Int.sub_emod, show a + c - (b + c) = a - b by omega, show b + c - (a + c) = b - a by omega]
theorem mvd_mv {f : Fig} (hok : f.ok) {c : Int} (hc : 0 ≤ c) {i : Nat} (hi : i < f.N) : (f.mvd c).mv i = f.mv i := by
  have hp := hok.2.1
  have hst : f.st.length = f.N := hok.2.2.2.2.1
  have hg : ∀ j, j < f.N → (f.mvd c).st.getD j 0 = (f.st.getD j 0 + c) % f.per := fun j hj => by
    show (prt (f.sh c) f.st f.st.length).getD j 0 = _
    have hx : 0 ≤ f.st.getD j 0 ∧ f.st.getD j 0 < f.per := getD_in (st_x hok) (by omega)
    rw [prt_all, List.getD_eq_getElem?_getD, List.getElem?_map, List.getElem?_eq_getElem (by omega)]
    simp only [Option.map_some, Option.getD_some, Fig.sh]
    have : f.st.getD j 0 = f.st[j] := by simp [List.getD_eq_getElem?_getD, show j < f.st.length by omega]
    rw [← this, Int.tmod_eq_emod_of_nonneg (show 0 ≤ f.st.getD j 0 + c by omega)]
  have hnx : f.nx i < f.N := Nat.mod_lt _ (by have h := (N_in hok).1; have : 3 ≤ f.d.gs.length := h; omega)
  have hmb : ∀ x ∈ f.rs i, (f.mvd c).mb i x = f.mb i x := fun x hx => by
    have hxr := rs_in hok hi x hx
    have h1 := getD_in (st_x hok) (i := i) (by omega)
    have h2 := getD_in (st_x hok) (i := f.nx i) (by omega)
    have h0 := Int.emod_nonneg (f.st.getD i 0 + c) (show f.per ≠ 0 by omega)
    unfold Fig.mb
    rw [show (f.mvd c).nx i = f.nx i from rfl, hg i hi, hg _ hnx, show (f.mvd c).per = f.per from rfl, show (f.mvd c).near = f.near from rfl, Int.tmod_eq_emod_of_nonneg (by omega), Int.emod_add_emod, Int.tmod_eq_emod_of_nonneg (show 0 ≤ f.st.getD i 0 + x by omega)]
    have := dist_sh hp.1 (f.st.getD i 0 + x) (f.st.getD (f.nx i) 0) c
    rw [show f.st.getD i 0 + x + c = f.st.getD i 0 + c + x by omega, Int.emod_eq_of_lt h2.1 h2.2] at this
    rw [← this]; rfl
  have hcnt : (f.mvd c).cnt i = f.cnt i := by
    unfold Fig.cnt
    rw [show (f.mvd c).rs i = f.rs i from rfl]
    exact congrArg List.length (List.filter_congr hmb)
  unfold Fig.mv
  rw [hcnt]; rfl
theorem mvd_bad {f : Fig} (hok : f.ok) {c : Int} (hc : 0 ≤ c) : (f.mvd c).bad = f.bad := by
  unfold Fig.bad Fig.badN
  rw [show (f.mvd c).d = f.d from rfl]
  refine congrArg (List.map _) (List.filter_congr fun k hk => ?_)
  rw [mvd_mv hok hc (List.mem_range.1 hk)]
/-- SeamsMoved -/
theorem l8 (f : Fig) (c sm : Int) : FnA Try.prog 8 [.agg f.cells, .int .i64 c, .int .i64 sm] (· = .bool true) := by
  have w := s20
  refine fnA 10 ok8 (by simp) ?_
  conv => whnf
  refine (s25 f).callq rfl rfl (fun r hr => ?_); obtain ⟨b, rfl, hb⟩ := hr
  cases b with
  | false =>
    (conv => whnf); (repeat' ((first | refine bT ?_ | refine bF ?_ | refine bN ?_ | ((first | refine bD ?_ ?_ | refine bEq ?_ ?_ | refine bNe ?_ ?_) <;> intro hh <;> try (exfalso; omega)) | (refine (w).callq rfl rfl fun _ h => ?_; subst h) | refine wIn (by omega) ?_ | refine nI (by omega) ?_) <;> conv => whnf))
    all_goals rfl
  | true =>
    obtain ⟨hs, h0, _⟩ := hb rfl
    obtain ⟨hok, hh⟩ := eF_ok h0
    have hp := hok.2.1
    have hN := N_in hok
    have hst : f.st.length = f.N := hok.2.2.2.2.1
    have l2 : (f.st.map iAV).length = f.st.length := by simp
    by_cases hc : 0 ≤ c ∧ c ≤ 1000
    case neg =>
      (conv => whnf); (repeat' ((first | refine bT ?_ | refine bF ?_ | refine bN ?_ | ((first | refine bD ?_ ?_ | refine bEq ?_ ?_ | refine bNe ?_ ?_) <;> intro hh <;> try (exfalso; omega)) | (refine (w).callq rfl rfl fun _ h => ?_; subst h) | refine wIn (by omega) ?_ | refine nI (by omega) ?_) <;> conv => whnf))
      all_goals rfl
    by_cases hi : 0 ≤ sm ∧ sm < f.N
    case neg =>
      (conv => whnf); (repeat' ((first | refine bT ?_ | refine bF ?_ | refine bN ?_ | ((first | refine bD ?_ ?_ | refine bEq ?_ ?_ | refine bNe ?_ ?_) <;> intro hh <;> try (exfalso; omega)) | (refine (w).callq rfl rfl fun _ h => ?_; subst h) | refine wIn (by omega) ?_ | refine nI (by omega) ?_) <;> conv => whnf))
      all_goals rfl
    obtain ⟨i, rfl⟩ : ∃ i : Nat, sm = i := ⟨sm.toNat, by omega⟩
    have hiN : i < f.N := by omega
    have hoko := mvd_ok hok hc.1
    have h0o : (f.mvd c).eF = 0 := by unfold Fig.eF; rw [if_pos hoko, if_pos (show (f.mvd c).d.has = true from hh)]
    have e0 := s28o f hs
    have hiG : (i : Int) < f.d.gs.length := by
      have : (i : Int) < f.N := by omega
      exact this
    have hM : f.eM i = 0 := by unfold Fig.eM; rw [if_pos hok, if_pos ⟨by omega, hiG⟩, if_pos hh]
    have hMo : (f.mvd c).eM i = 0 := by unfold Fig.eM; rw [if_pos hoko, if_pos ⟨by omega, hiG⟩, if_pos (show (f.mvd c).d.has = true from hh)]
    have a1 := s21 f i hM
    have a2 := s21 (f.mvd c) i hMo
    rw [mvd_mv hok hc.1 hiN] at a2
    have a3 := s22 f h0
    have a4 := s22 (f.mvd c) h0o
    rw [mvd_bad hok hc.1] at a4
    have a5 := s26 f h0
    have a6 := s26 (f.mvd c) h0o
    have hlw := lw_congr (f := f.mvd c) (g := f) fun l => Iff.rfl
    rw [hlw.1, hlw.2] at a6
    have hbl : f.bad.length ≤ 1000000 := by have := badN_le f f.d.gs.length; unfold Fig.bad; have : f.d.gs.length = f.N := rfl; omega
    have x1 := s35 f.bad f.bad hbl
    rw [decide_eq_true rfl] at x1
    (conv => whnf); (repeat' ((first | refine bT ?_ | refine bF ?_ | refine bN ?_ | ((first | refine bD ?_ ?_ | refine bEq ?_ ?_ | refine bNe ?_ ?_) <;> intro hh <;> try (exfalso; omega)) | refine wIn (by omega) ?_ | refine nI (by omega) ?_) <;> conv => whnf))
    refine e0.callzq rfl rfl (fun r rows (hr : r = _ ∧ rows = _) => ?_); obtain ⟨hr1, hr2⟩ := hr; subst hr1; subst hr2; refine ⟨rfl, ?_⟩
    (conv => whnf); (repeat' ((first | refine bT ?_ | refine bF ?_ | refine bN ?_ | ((first | refine bD ?_ ?_ | refine bEq ?_ ?_ | refine bNe ?_ ?_) <;> intro hh <;> try (exfalso; omega)) | refine wIn (by omega) ?_ | refine nI (by omega) ?_) <;> conv => whnf))
    refine loop_i (α := Nat) (fun k => [(8, .int .i64 k), (7, .own 7 0), (3, .own 0 0), (2, .int .i64 i), (1, .int .i64 c)]) (fun k => [.box false f.cells, .row false 55 4 (f.d.bs.map Bolt.av), .row false 3 1 (f.d.gs.map iAV), .row false 50 2 (f.d.rs.map pairAV), .row false 3 1 (f.d.ws.map iAV), .row false 3 1 ((prt (f.sh c) f.st k).map iAV), .row false 3 1 (f.ti.map iAV), .box false [.row 1, .row 2, .int .i64 f.d.loss, .row 3, .row 4, .int .i64 f.d.slope, .int .i64 f.per, .int .i64 f.run, .int .i64 f.near, .row 5, .row 6], .fresh, .fresh]) (fun k => k ≤ f.st.length) (fun k => f.st.length - k) 0 ?_ (by omega) ?_
    · rw [prt_0]; exact (meets_id (by (repeat' apply And.intro) <;> first | rfl | exact True.intro | (intro hh; cases hh)))
    intro k hk0
    have hpl : ((prt (f.sh c) f.st k).map iAV).length = f.st.length := by rw [List.length_map, prt_len]
    conv => whnf
    refine bD (fun h4 => ?_) (fun h4 => ?_)
    · have hk : k < f.st.length := by omega
      have hx := st_x hok _ (List.getElem_mem hk)
      have g1 : ((prt (f.sh c) f.st k).map iAV).getD k [] = [.int .i64 f.st[k]] := by
        rw [← prt_get (f.sh c) hk]; exact row_at (by rw [prt_len]; exact hk)
      have hset := prt_set (f.sh c) hk
      have hsh : (f.st[k] + c).tmod f.per = f.sh c f.st[k] := rfl
      (conv => whnf); (repeat' ((first | refine bT ?_ | refine bF ?_ | refine bN ?_ | ((first | refine bD ?_ ?_ | refine bEq ?_ ?_ | refine bNe ?_ ?_) <;> intro hh <;> try (exfalso; omega)) | refine wIn (by omega) ?_ | refine nI (by omega) ?_) <;> conv => whnf))
      refine iaI (by omega) (by omega) g1 ?_
      (conv => whnf); (repeat' ((first | refine bT ?_ | refine bF ?_ | refine bN ?_ | ((first | refine bD ?_ ?_ | refine bEq ?_ ?_ | refine bNe ?_ ?_) <;> intro hh <;> try (exfalso; omega)) | refine wIn (by omega) ?_ | refine nI (by omega) ?_) <;> conv => whnf))
      refine iaI (by omega) (by omega) g1 ?_
      (conv => whnf); (repeat' ((first | refine bT ?_ | refine bF ?_ | refine bN ?_ | ((first | refine bD ?_ ?_ | refine bEq ?_ ?_ | refine bNe ?_ ?_) <;> intro hh <;> try (exfalso; omega)) | refine wIn (by omega) ?_ | refine nI (by omega) ?_) <;> conv => whnf))
      refine ⟨k + 1, ?_, by omega, by omega⟩
      rw [← hset]
      exact (meets_id (by (repeat' apply And.intro) <;> first | rfl | exact True.intro | (intro hh; cases hh)))
    · have : k = f.st.length := by omega
      subst this
      (conv => whnf); (repeat' ((first | refine bT ?_ | refine bF ?_ | refine bN ?_ | ((first | refine bD ?_ ?_ | refine bEq ?_ ?_ | refine bNe ?_ ?_) <;> intro hh <;> try (exfalso; omega)) | (refine (a1).callq rfl rfl fun _ h => ?_; subst h) | (refine (a2).lendq rfl fun _ h => ?_; subst h; refine ⟨rfl, ?_⟩) | (refine (a3).callzq rfl rfl fun _ h => ?_; subst h) | (refine (a4).callzq rfl rfl fun _ h => ?_; subst h) | (refine (a5).callq rfl rfl fun _ h => ?_; subst h) | (refine (a6).lendq rfl fun _ h => ?_; subst h; refine ⟨rfl, ?_⟩) | (refine (x1).callq rfl rfl fun _ h => ?_; subst h) | (refine (w).callq rfl rfl fun _ h => ?_; subst h) | refine wIn (by omega) ?_ | refine nI (by omega) ?_) <;> conv => whnf))
      all_goals rfl
end Go.Proofs
