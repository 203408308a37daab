/- What each function of this program answers, proved by walking its body: the contracts that the law rests on, part 2. -/
import Derived.Test.YtkpdkhidlhaaiaaGreatFns1
set_option linter.unusedSimpArgs false
set_option linter.unusedVariables false
set_option linter.unusedSectionVars false
namespace Go.Proofs
open Go.Eng
attribute [local irreducible] Go.Eng.brB Go.Eng.need Go.Eng.wrE Go.Eng.iaE Go.Eng.slE Go.Eng.apE Go.Eng.CallZ Go.Eng.CallE Go.Eng.VCallE Go.Eng.YldE Go.Eng.GoC Go.Eng.MeetsE Go.Eng.FnA Go.Eng.FnV Go.Eng.ItA
set_option maxRecDepth 100000

def i1 (n : Int) : List AV := [.int .i64 n]
def b1 (b : Bool) : List AV := [.bool b]
/-- all of a dome is known: its lift, the strength of each rib; the shares -/
structure Tr where
  L : Int
  ss : List Int
  sh : List Int
def Tr.cells (t : Tr) : List AV := [.int .i64 t.L, .isl (t.ss.map i1), .isl (t.sh.map i1)]
def Tr.ok (t : Tr) : Prop := (0 ≤ t.L ∧ t.L ≤ 200) ∧ (3 ≤ t.ss.length ∧ t.ss.length ≤ 10) ∧ t.sh.length = t.ss.length ∧ (∀ x ∈ t.sh, 0 ≤ x ∧ x ≤ 99) ∧ ∀ x ∈ t.ss, 0 ≤ x ∧ x ≤ 99999
structure Gu where
  (F A : Int)
def Gu.av (g : Gu) : List AV := [.int .i64 g.F, .int .i64 g.A]
def Gu.ok (g : Gu) (n : Nat) : Prop := (0 ≤ g.F ∧ g.F ≤ 99) ∧ 0 ≤ g.A ∧ g.A < n
/-- a number of a rib, counted around -/
def ar (n : Nat) (r : Int) : Int := r % n
theorem ar_bd {n : Nat} (r : Int) (h : 0 < n) : 0 ≤ ar n r ∧ ar n r < n := by
  unfold ar; exact ⟨Int.emod_nonneg _ (by omega), Int.emod_lt_of_pos _ (by omega)⟩
theorem tmod_ar {n : Nat} {r : Int} (h : 0 ≤ r + n) : (r + n).tmod n = ar n r := by
  unfold ar; rw [Int.tmod_eq_emod_of_nonneg h, Int.add_emod_right]
def Tr.share (t : Tr) (i : Int) : Int := t.sh.getD i.toNat 0
/-- the load of a rib -/
def Tr.ld (t : Tr) (g : Gu) (i : Int) : Int := g.F * t.L * t.share (ar t.ss.length (i - g.A)) / 100
theorem share_bd {t : Tr} (h : t.ok) (i : Int) : 0 ≤ t.share i ∧ t.share i ≤ 99 := by
  unfold Tr.share
  by_cases hi : i.toNat < t.sh.length
  · rw [List.getD_eq_getElem?_getD, List.getElem?_eq_getElem hi]; exact h.2.2.2.1 _ (List.getElem_mem hi)
  · rw [List.getD_eq_getElem?_getD, List.getElem?_eq_none (by omega)]; simp
theorem prod_bd {t : Tr} (h : t.ok) {g : Gu} {n : Nat} (hg : g.ok n) : (0 ≤ g.F * t.L ∧ g.F * t.L ≤ 99 * 200) ∧ ∀ x, 0 ≤ x → x ≤ 99 → 0 ≤ g.F * t.L * x ∧ g.F * t.L * x ≤ 99 * 200 * 99 := by
  have h1 := mul_bd 99 200 hg.1.1 hg.1.2 h.1.1 h.1.2
  exact ⟨h1, fun x h2 h3 => mul_bd (99 * 200) 99 h1.1 h1.2 h2 h3⟩
theorem ld_bd {t : Tr} (h : t.ok) {g : Gu} {n : Nat} (hg : g.ok n) (i : Int) : 0 ≤ t.ld g i ∧ t.ld g i ≤ 19602 := by
  have h1 := share_bd h (ar t.ss.length (i - g.A))
  have h2 := (prod_bd h hg).2 _ h1.1 h1.2
  unfold Tr.ld; omega

theorem g67 (t : Tr) (r : Int) (h : t.ok) (h0 : 0 ≤ r + t.ss.length) (h1 : r ≤ 1000) : FnA Tryz.prog 64 [.agg t.cells, .int .i64 r] (· = .int .i64 (ar t.ss.length r)) := by
  have hl := h.2.1
  have hL : (t.ss.map i1).length = t.ss.length := by simp
  refine fnA 1 ok64 (by simp) ?_
  (conv => whnf); (repeat' (first | (refine bT ?_; conv => whnf) | (refine bF ?_; conv => whnf) | (refine bN ?_) | (refine bD (fun hh => ?_) (fun hh => ?_) <;> first | (exfalso; omega) | (conv => whnf)) | (refine bEq (fun hh => ?_) (fun hh => ?_) <;> first | (exfalso; omega) | (conv => whnf)) | (refine bNe (fun hh => ?_) (fun hh => ?_) <;> first | (exfalso; omega) | (conv => whnf)) | (refine wIn (by omega) ?_; conv => whnf) | (refine nI (by omega) ?_; conv => whnf)))
  all_goals (simp only [hL]; rw [tmod_ar h0])
theorem getD_mapD {α : Type} (f : α → List AV) (l : List α) (i : Nat) (d : α) (h : i < l.length) : (l.map f).getD i [] = f (l.getD i d) := by
  simp [List.getD_eq_getElem?_getD, h]
theorem g42 (t : Tr) (g : Gu) (i : Int) (h : t.ok) (hg : g.ok t.ss.length) (h0 : 0 ≤ i) (h1 : i < t.ss.length) : FnA Tryz.prog 34 [.agg t.cells, .agg g.av, .int .i64 i] (· = .int .i64 (t.ld g i)) := by
  have hl := h.2.1
  have hsh := h.2.2.1
  have hA := hg.2
  have hL : (t.sh.map i1).length = t.sh.length := by simp
  have hp := prod_bd h hg
  have hb := ar_bd (n := t.ss.length) (i - g.A) (by omega)
  have hs := share_bd h (ar t.ss.length (i - g.A))
  have hq := hp.2 _ hs.1 hs.2
  simp only [Tr.share] at hq
  have hdv := Int.tdiv_eq_ediv_of_nonneg (b := 100) hq.1
  have hdb : 0 ≤ (g.F * t.L * t.sh.getD (ar t.ss.length (i - g.A)).toNat 0).tdiv 100 ∧ (g.F * t.L * t.sh.getD (ar t.ss.length (i - g.A)).toNat 0).tdiv 100 ≤ 19602 := by rw [hdv]; omega
  refine fnA 2 ok34 (by simp) ?_
  (conv => whnf); (repeat' (first | (refine bT ?_; conv => whnf) | (refine bF ?_; conv => whnf) | (refine bN ?_) | (refine bD (fun hh => ?_) (fun hh => ?_) <;> first | (exfalso; omega) | (conv => whnf)) | (refine bEq (fun hh => ?_) (fun hh => ?_) <;> first | (exfalso; omega) | (conv => whnf)) | (refine bNe (fun hh => ?_) (fun hh => ?_) <;> first | (exfalso; omega) | (conv => whnf)) | (refine (g67 t _ h (by omega) (by omega)).callq rfl rfl (fun r (hr : r = _) => ?_); subst hr; conv => whnf) | (refine wIn (by omega) ?_; conv => whnf) | (refine nI (by omega) ?_; conv => whnf)))
  refine iaI (by omega) (by omega) (getD_mapD i1 t.sh _ 0 (by omega)) ?_
  (conv => whnf); (repeat' (first | (refine bT ?_; conv => whnf) | (refine bF ?_; conv => whnf) | (refine bN ?_) | (refine bD (fun hh => ?_) (fun hh => ?_) <;> first | (exfalso; omega) | (conv => whnf)) | (refine bEq (fun hh => ?_) (fun hh => ?_) <;> first | (exfalso; omega) | (conv => whnf)) | (refine bNe (fun hh => ?_) (fun hh => ?_) <;> first | (exfalso; omega) | (conv => whnf)) | (refine wIn (by omega) ?_; conv => whnf) | (refine nI (by omega) ?_; conv => whnf)))
  all_goals (show AV.int _ _ = _; congr 1)
/-- the sum of what lies along one side, of ribs that are gone, from the j-th on -/
def sumr (l : Int → Int) (gs : List Bool) (n : Nat) (i s : Int) : Nat → Nat → Int
  | 0, _ => 0
  | k + 1, j => if gs.getD (ar n (i + j * s)).toNat false then l (ar n (i + j * s)) + sumr l gs n i s k (j + 1) else 0
theorem sumr_bd {l : Int → Int} {B : Int} (hl : ∀ i, 0 ≤ l i ∧ l i ≤ B) (hB : 0 ≤ B) (gs : List Bool) (n : Nat) (i s : Int) : ∀ k j, 0 ≤ sumr l gs n i s k j ∧ sumr l gs n i s k j ≤ B * k
  | 0, j => by simp [sumr]
  | k + 1, j => by
    have h1 := hl (ar n (i + j * s))
    have h2 := sumr_bd hl hB gs n i s k (j + 1)
    have e : B * ((k + 1 : Nat) : Int) = B * k + B := by rw [Int.natCast_add, Int.mul_add]; simp
    have h3 : 0 ≤ B * (k : Int) := Int.mul_nonneg hB (by omega)
    unfold sumr
    rw [e]
    split <;> omega
def sside (l : Int → Int) (gs : List Bool) (n : Nat) (i s : Int) : Int := sumr l gs n i s (n - 1) 1
/-- what a rib is handed -/
def hand (l : Int → Int) (gs : List Bool) (n : Nat) (i : Int) : Int := sside l gs n i (-1) / 2 + sside l gs n i 1 / 2
def Tr.cond (t : Tr) (g : Gu) (gs : List Bool) (i : Nat) : Bool := !gs.getD i false && decide (t.ss.getD i 0 < t.ld g i + hand (t.ld g) gs t.ss.length i)

theorem ar_step {n : Nat} (h : 0 < n) (i j s : Int) : ar n (ar n (i + j * s) + s) = ar n (i + (j + 1) * s) := by
  unfold ar
  rw [Int.emod_add_emod]
  congr 1
  rw [Int.add_mul, Int.one_mul]; omega
theorem ar_self {n : Nat} {i : Int} (h0 : 0 ≤ i) (h1 : i < n) {s : Int} : ar n (i + n * s) = i := by
  unfold ar
  rw [Int.add_mul_emod_self_left, Int.emod_eq_of_lt h0 h1]
theorem g94 (t : Tr) (g : Gu) (gs : List Bool) (i : Nat) (h : t.ok) (hg : g.ok t.ss.length) (hgs : gs.length = t.ss.length) (h1 : i < t.ss.length) (hi : gs.getD i false = false) : FnA Tryz.prog 83 [.agg t.cells, .agg g.av, .isl (gs.map b1), .int .i64 i] (· = .int .i64 (hand (t.ld g) gs t.ss.length i)) := by
  have hl := h.2.1
  have hL : (gs.map b1).length = gs.length := by simp
  have hld := fun i => ld_bd h hg i
  have hb := fun s k j => sumr_bd hld (by omega) gs t.ss.length i s k j
  have key : ∀ s : Int, s = -1 ∨ s = 1 → 0 ≤ sside (t.ld g) gs t.ss.length i s ∧ sside (t.ld g) gs t.ss.length i s ≤ 19602 * 10 := fun s hs => by
    have := hb s (t.ss.length - 1) 1
    unfold sside
    have e : (19602 : Int) * ((t.ss.length - 1 : Nat) : Int) ≤ 19602 * 10 := by omega
    omega
  refine fnA 2 ok83 (by simp) ?_
  (conv => whnf); (repeat' (first | (refine bT ?_; conv => whnf) | (refine bF ?_; conv => whnf) | (refine bN ?_) | (refine bD (fun hh => ?_) (fun hh => ?_) <;> first | (exfalso; omega) | (conv => whnf)) | (refine bEq (fun hh => ?_) (fun hh => ?_) <;> first | (exfalso; omega) | (conv => whnf)) | (refine bNe (fun hh => ?_) (fun hh => ?_) <;> first | (exfalso; omega) | (conv => whnf)) | (refine wIn (by omega) ?_; conv => whnf) | (refine nI (by omega) ?_; conv => whnf)))
  refine loop_i (α := Nat) (fun k => [(15, .int .i64 k), (14, .agg [.int .i64 (-1), .int .i64 1]), (9, .int .i64 (if k = 0 then 0 else if k = 1 then sside (t.ld g) gs t.ss.length i (-1) / 2 else hand (t.ld g) gs t.ss.length i)), (5, .own 1 0), (4, .own 0 0), (3, .int .i64 i), (2, .isl (gs.map b1))]) (fun k => [.box false t.cells, .box false g.av]) (fun k => k ≤ 2) (fun k => 2 - k) 0 (meets_id (by (repeat' apply And.intro) <;> first | rfl | exact True.intro | (intro hh; cases hh))) (by omega) ?_
  intro k hk
  conv => whnf
  refine bD (fun h3 => ?_) (fun h3 => ?_)
  · conv => whnf
    have one : ∀ s : Int, (s = -1 ∨ s = 1) → ((k = 0 ∧ s = -1) ∨ (k = 1 ∧ s = 1)) → ldC1 false 1 (([.int .i64 (-1), .int .i64 1] : List AV).drop ((k : Int).toNat * 1)) = some (.int .i64 s) := fun s _ hks => by
      rcases hks with ⟨rfl, rfl⟩ | ⟨rfl, rfl⟩ <;> rfl
    obtain ⟨s, hs, hks⟩ : ∃ s : Int, (s = -1 ∨ s = 1) ∧ ((k = 0 ∧ s = -1) ∨ (k = 1 ∧ s = 1)) := by
      have : k = 0 ∨ k = 1 := by omega
      rcases this with rfl | rfl
      · exact ⟨-1, .inl rfl, .inl ⟨rfl, rfl⟩⟩
      · exact ⟨1, .inr rfl, .inr ⟨rfl, rfl⟩⟩
    refine idI (by omega) (by omega) (one s hs hks) ?_
    (conv => whnf); (repeat' (first | (refine bT ?_; conv => whnf) | (refine bF ?_; conv => whnf) | (refine bN ?_) | (refine bD (fun hh => ?_) (fun hh => ?_) <;> first | (exfalso; omega) | (conv => whnf)) | (refine bEq (fun hh => ?_) (fun hh => ?_) <;> first | (exfalso; omega) | (conv => whnf)) | (refine bNe (fun hh => ?_) (fun hh => ?_) <;> first | (exfalso; omega) | (conv => whnf)) | (refine (g67 t _ h (by omega) (by omega)).callq rfl rfl (fun r (hr : r = _) => ?_); subst hr; conv => whnf) | (refine wIn (by omega) ?_; conv => whnf) | (refine nI (by omega) ?_; conv => whnf)))
    refine loop_i (α := Nat × Int) (fun x => [(13, .int .i64 (ar t.ss.length (i + (x.1 + 1 : Nat) * s))), (12, .int .i64 x.2), (11, .int .i64 s), (15, .int .i64 k), (14, .agg [.int .i64 (-1), .int .i64 1]), (9, .int .i64 (if k = 0 then 0 else if k = 1 then sside (t.ld g) gs t.ss.length i (-1) / 2 else hand (t.ld g) gs t.ss.length i)), (5, .own 1 0), (4, .own 0 0), (3, .int .i64 i), (2, .isl (gs.map b1))]) (fun x => [.box false t.cells, .box false g.av]) (fun x => x.1 ≤ t.ss.length - 1 ∧ 0 ≤ x.2 ∧ x.2 + sumr (t.ld g) gs t.ss.length i s (t.ss.length - 1 - x.1) (x.1 + 1) = sside (t.ld g) gs t.ss.length i s) (fun x => t.ss.length - x.1) (0, 0) ?_ ⟨by omega, by simp, by simp [sside]⟩ ?_
    · simp only [Nat.zero_add, Int.natCast_one, Int.one_mul]; exact (meets_id (by (repeat' apply And.intro) <;> first | rfl | exact True.intro | (intro hh; cases hh)))
    rintro ⟨j, x⟩ ⟨hj, hx0, hx⟩
    simp only at hj hx hx0 ⊢
    have hp := ar_bd (n := t.ss.length) (i + (j + 1 : Nat) * s) (by omega)
    have hlp := hld (ar t.ss.length (i + (j + 1 : Nat) * s))
    have hsum := hb s (t.ss.length - 1 - j) (j + 1)
    have hkey := key s hs
    conv => whnf
    refine iaI (by omega) (by omega) (getD_mapD b1 gs _ false (by omega)) ?_
    conv => whnf
    refine bS (fun h4 => ?_) (fun h4 => ?_)
    · have hj2 : j < t.ss.length - 1 := by
        refine Classical.byContradiction fun hn => ?_
        have e : j + 1 = t.ss.length := by omega
        rw [e, ar_self (by omega) (by omega)] at h4
        simp only [Int.toNat_natCast] at h4
        rw [hi] at h4; cases h4
      obtain ⟨m, hm⟩ : ∃ m, t.ss.length - 1 - j = m + 1 := ⟨t.ss.length - 1 - j - 1, by omega⟩
      have hm2 : t.ss.length - 1 - (j + 1) = m := by omega
      rw [hm] at hx
      have hsum2 := hb s m (j + 1 + 1)
      rw [show sumr (t.ld g) gs t.ss.length i s (m + 1) (j + 1) = t.ld g (ar t.ss.length (i + (j + 1 : Nat) * s)) + sumr (t.ld g) gs t.ss.length i s m (j + 1 + 1) from by rw [sumr, if_pos h4]] at hx
      (conv => whnf); (repeat' (first | (refine bT ?_; conv => whnf) | (refine bF ?_; conv => whnf) | (refine bN ?_) | (refine bD (fun hh => ?_) (fun hh => ?_) <;> first | (exfalso; omega) | (conv => whnf)) | (refine bEq (fun hh => ?_) (fun hh => ?_) <;> first | (exfalso; omega) | (conv => whnf)) | (refine bNe (fun hh => ?_) (fun hh => ?_) <;> first | (exfalso; omega) | (conv => whnf)) | (refine (g42 t g _ h hg hp.1 hp.2).callq rfl rfl (fun r (hr : r = _) => ?_); subst hr; conv => whnf) | (refine (g67 t _ h (by omega) (by omega)).callq rfl rfl (fun r (hr : r = _) => ?_); subst hr; conv => whnf) | (refine wIn (by omega) ?_; conv => whnf) | (refine nI (by omega) ?_; conv => whnf)))
      refine ⟨(j + 1, x + t.ld g (ar t.ss.length (i + (j + 1 : Nat) * s))), ?_, ⟨by simp only; omega, by simp only; omega, by simp only; rw [hm2]; omega⟩, by simp only; omega⟩
      have e1 := ar_step (n := t.ss.length) (by omega) i (j + 1 : Nat) s
      have e2 : ((j + 1 : Nat) : Int) + 1 = (j + 1 + 1 : Nat) := by omega
      rw [e2] at e1
      simp only [← e1]
      exact (meets_id (by (repeat' apply And.intro) <;> first | rfl | exact True.intro | (intro hh; cases hh)))
    · have h0 : sumr (t.ld g) gs t.ss.length i s (t.ss.length - 1 - j) (j + 1) = 0 := by
        cases hm : t.ss.length - 1 - j with
        | zero => rfl
        | succ m => rw [sumr, if_neg (by rw [h4]; simp)]
      rw [h0, Int.add_zero] at hx
      subst hx
      have k1 := key (-1) (.inl rfl)
      have k2 := key 1 (.inr rfl)
      have hdiv : (sside (t.ld g) gs t.ss.length i s).tdiv 2 = sside (t.ld g) gs t.ss.length i s / 2 := Int.tdiv_eq_ediv_of_nonneg hx0
      rcases hks with ⟨rfl, rfl⟩ | ⟨rfl, rfl⟩
      · conv => whnf
        refine nI (by decide) (wIn (by rw [hdiv]; omega) ?_)
        conv => whnf
        refine wIn (by rw [hdiv]; simp; omega) ?_
        (conv => whnf); (repeat' (first | (refine bT ?_; conv => whnf) | (refine bF ?_; conv => whnf) | (refine bN ?_) | (refine bD (fun hh => ?_) (fun hh => ?_) <;> first | (exfalso; omega) | (conv => whnf)) | (refine bEq (fun hh => ?_) (fun hh => ?_) <;> first | (exfalso; omega) | (conv => whnf)) | (refine bNe (fun hh => ?_) (fun hh => ?_) <;> first | (exfalso; omega) | (conv => whnf)) | (refine wIn (by omega) ?_; conv => whnf) | (refine nI (by omega) ?_; conv => whnf)))
        refine ⟨1, ?_, by omega, by omega⟩
        rw [hdiv]
        simp only [if_pos, Int.zero_add]
        exact (meets_id (by (repeat' apply And.intro) <;> first | rfl | exact True.intro | (intro hh; cases hh)))
      · conv => whnf
        refine nI (by decide) (wIn (by rw [hdiv]; omega) ?_)
        conv => whnf
        refine wIn (by rw [hdiv]; simp; omega) ?_
        (conv => whnf); (repeat' (first | (refine bT ?_; conv => whnf) | (refine bF ?_; conv => whnf) | (refine bN ?_) | (refine bD (fun hh => ?_) (fun hh => ?_) <;> first | (exfalso; omega) | (conv => whnf)) | (refine bEq (fun hh => ?_) (fun hh => ?_) <;> first | (exfalso; omega) | (conv => whnf)) | (refine bNe (fun hh => ?_) (fun hh => ?_) <;> first | (exfalso; omega) | (conv => whnf)) | (refine wIn (by omega) ?_; conv => whnf) | (refine nI (by omega) ?_; conv => whnf)))
        refine ⟨2, ?_, by omega, by omega⟩
        rw [hdiv]
        exact (meets_id (by (repeat' apply And.intro) <;> first | rfl | exact True.intro | (intro hh; cases hh)))
  · have : k = 2 := by omega
    subst this
    (conv => whnf); (repeat' (first | (refine bT ?_; conv => whnf) | (refine bF ?_; conv => whnf) | (refine bN ?_) | (refine bD (fun hh => ?_) (fun hh => ?_) <;> first | (exfalso; omega) | (conv => whnf)) | (refine bEq (fun hh => ?_) (fun hh => ?_) <;> first | (exfalso; omega) | (conv => whnf)) | (refine bNe (fun hh => ?_) (fun hh => ?_) <;> first | (exfalso; omega) | (conv => whnf)) | (refine wIn (by omega) ?_; conv => whnf) | (refine nI (by omega) ?_; conv => whnf)))
    all_goals rfl

def n1 (i : Nat) : List AV := [.int .i64 i]
def lst (n : Nat) (p : Nat → Bool) : List Nat := (List.range n).filter p
theorem lst_succ (n : Nat) (p : Nat → Bool) : lst (n + 1) p = if p n then lst n p ++ [n] else lst n p := by
  unfold lst; rw [List.range_succ, List.filter_append]; simp only [List.filter_cons, List.filter_nil]; split <;> simp
theorem lst_le (n : Nat) (p : Nat → Bool) : (lst n p).length ≤ n := by
  unfold lst; refine Nat.le_trans (List.length_filter_le _ _) ?_; simp
theorem lst_mem {n : Nat} {p : Nat → Bool} {i : Nat} : i ∈ lst n p ↔ i < n ∧ p i = true := by simp [lst]
theorem n1_flat : ∀ l : List Nat, AV.flatL ((l.map n1).flatten) = true
  | [] => rfl
  | i :: l => by simp only [List.map_cons, List.flatten_cons, n1, List.cons_append, List.nil_append, AV.flatL, AV.flat, Bool.true_and]; exact n1_flat l
/-- the ribs of which something holds -/
theorem g49_3 (n : Nat) (f : FuncId) (c1 c2 c3 : List AV) (p : Nat → Bool) (hn : n ≤ 1000) (h : ∀ i : Nat, i < n → FnV Tryz.prog (.fn f [.ipt c1, .ipt c2, .ipt c3]) [.int .i64 i] (· = .bool (p i))) :
    FnO Tryz.prog 44 [.int .i64 n, .fn f [.ipt c1, .ipt c2, .ipt c3]] (fun r rows => r = .row 3 ∧ rows = [(3, .row false 3 1 ((lst n p).map n1))]) := by
  refine fnO 4 ok44 (by simp) ?_
  conv => whnf
  refine loop_i (α := Nat) (fun k => [(8, .int .i64 k), (7, .int .i64 n), (5, .row 3), (1, .fn f [.ipt c1, .ipt c2, .ipt c3])]) (fun k => [.fresh, .fresh, .fresh, .row false 3 1 ((lst k p).map n1)]) (fun k => k ≤ n) (fun k => n - k) 0 (meets_nil 3 (by (repeat' apply And.intro) <;> first | rfl | exact True.intro | (intro hh; cases hh))) (by omega) ?_
  intro k hk
  conv => whnf
  refine bD (fun h3 => ?_) (fun h3 => ?_)
  · have hlt : k < n := by omega
    have hv := h k hlt
    have hs := lst_succ k p
    have hlen := lst_le k p
    conv => whnf
    refine hv.vcallq rfl rfl rfl rfl (fun r (hr : r = _) => ?_); subst hr
    conv => whnf
    refine bS (fun h4 => ?_) (fun h4 => ?_)
    · rw [if_pos h4] at hs
      conv => whnf
      refine apI (by simp [AV.one]) (by simp; omega) ?_
      (conv => whnf); (repeat' (first | (refine bT ?_; conv => whnf) | (refine bF ?_; conv => whnf) | (refine bN ?_) | (refine bD (fun hh => ?_) (fun hh => ?_) <;> first | (exfalso; omega) | (conv => whnf)) | (refine bEq (fun hh => ?_) (fun hh => ?_) <;> first | (exfalso; omega) | (conv => whnf)) | (refine bNe (fun hh => ?_) (fun hh => ?_) <;> first | (exfalso; omega) | (conv => whnf)) | (refine wIn (by omega) ?_; conv => whnf) | (refine nI (by omega) ?_; conv => whnf)))
      refine ⟨k + 1, ?_, by omega, by omega⟩
      have e : (lst (k + 1) p).map n1 = (lst k p).map n1 ++ [[.int .i64 k]] := by rw [hs]; simp [n1]
      rw [e]
      simp only [Int.natCast_add, Int.natCast_one]
      exact (meets_ren 3 1 (by (repeat' apply And.intro) <;> first | rfl | exact True.intro | (intro hh; cases hh)))
    · rw [if_neg (by rw [h4]; simp)] at hs
      (conv => whnf); (repeat' (first | (refine bT ?_; conv => whnf) | (refine bF ?_; conv => whnf) | (refine bN ?_) | (refine bD (fun hh => ?_) (fun hh => ?_) <;> first | (exfalso; omega) | (conv => whnf)) | (refine bEq (fun hh => ?_) (fun hh => ?_) <;> first | (exfalso; omega) | (conv => whnf)) | (refine bNe (fun hh => ?_) (fun hh => ?_) <;> first | (exfalso; omega) | (conv => whnf)) | (refine wIn (by omega) ?_; conv => whnf) | (refine nI (by omega) ?_; conv => whnf)))
      refine ⟨k + 1, ?_, by omega, by omega⟩
      rw [hs]
      simp only [Int.natCast_add, Int.natCast_one]
      exact (meets_id (by (repeat' apply And.intro) <;> first | rfl | exact True.intro | (intro hh; cases hh)))
  · have : k = n := by omega
    subst this
    (conv => whnf); (repeat' (first | (refine bT ?_; conv => whnf) | (refine bF ?_; conv => whnf) | (refine bN ?_) | (refine bD (fun hh => ?_) (fun hh => ?_) <;> first | (exfalso; omega) | (conv => whnf)) | (refine bEq (fun hh => ?_) (fun hh => ?_) <;> first | (exfalso; omega) | (conv => whnf)) | (refine bNe (fun hh => ?_) (fun hh => ?_) <;> first | (exfalso; omega) | (conv => whnf)) | (refine wIn (by omega) ?_; conv => whnf) | (refine nI (by omega) ?_; conv => whnf)))
    all_goals exact ⟨rfl, rfl⟩
/-- the ribs of which something holds -/
theorem g49_2 (n : Nat) (f : FuncId) (c1 c2 : List AV) (p : Nat → Bool) (hn : n ≤ 1000) (h : ∀ i : Nat, i < n → FnV Tryz.prog (.fn f [.ipt c1, .ipt c2]) [.int .i64 i] (· = .bool (p i))) :
    FnO Tryz.prog 44 [.int .i64 n, .fn f [.ipt c1, .ipt c2]] (fun r rows => r = .row 3 ∧ rows = [(3, .row false 3 1 ((lst n p).map n1))]) := by
  refine fnO 4 ok44 (by simp) ?_
  conv => whnf
  refine loop_i (α := Nat) (fun k => [(8, .int .i64 k), (7, .int .i64 n), (5, .row 3), (1, .fn f [.ipt c1, .ipt c2])]) (fun k => [.fresh, .fresh, .fresh, .row false 3 1 ((lst k p).map n1)]) (fun k => k ≤ n) (fun k => n - k) 0 (meets_nil 3 (by (repeat' apply And.intro) <;> first | rfl | exact True.intro | (intro hh; cases hh))) (by omega) ?_
  intro k hk
  conv => whnf
  refine bD (fun h3 => ?_) (fun h3 => ?_)
  · have hlt : k < n := by omega
    have hv := h k hlt
    have hs := lst_succ k p
    have hlen := lst_le k p
    conv => whnf
    refine hv.vcallq rfl rfl rfl rfl (fun r (hr : r = _) => ?_); subst hr
    conv => whnf
    refine bS (fun h4 => ?_) (fun h4 => ?_)
    · rw [if_pos h4] at hs
      conv => whnf
      refine apI (by simp [AV.one]) (by simp; omega) ?_
      (conv => whnf); (repeat' (first | (refine bT ?_; conv => whnf) | (refine bF ?_; conv => whnf) | (refine bN ?_) | (refine bD (fun hh => ?_) (fun hh => ?_) <;> first | (exfalso; omega) | (conv => whnf)) | (refine bEq (fun hh => ?_) (fun hh => ?_) <;> first | (exfalso; omega) | (conv => whnf)) | (refine bNe (fun hh => ?_) (fun hh => ?_) <;> first | (exfalso; omega) | (conv => whnf)) | (refine wIn (by omega) ?_; conv => whnf) | (refine nI (by omega) ?_; conv => whnf)))
      refine ⟨k + 1, ?_, by omega, by omega⟩
      have e : (lst (k + 1) p).map n1 = (lst k p).map n1 ++ [[.int .i64 k]] := by rw [hs]; simp [n1]
      rw [e]
      simp only [Int.natCast_add, Int.natCast_one]
      exact (meets_ren 3 1 (by (repeat' apply And.intro) <;> first | rfl | exact True.intro | (intro hh; cases hh)))
    · rw [if_neg (by rw [h4]; simp)] at hs
      (conv => whnf); (repeat' (first | (refine bT ?_; conv => whnf) | (refine bF ?_; conv => whnf) | (refine bN ?_) | (refine bD (fun hh => ?_) (fun hh => ?_) <;> first | (exfalso; omega) | (conv => whnf)) | (refine bEq (fun hh => ?_) (fun hh => ?_) <;> first | (exfalso; omega) | (conv => whnf)) | (refine bNe (fun hh => ?_) (fun hh => ?_) <;> first | (exfalso; omega) | (conv => whnf)) | (refine wIn (by omega) ?_; conv => whnf) | (refine nI (by omega) ?_; conv => whnf)))
      refine ⟨k + 1, ?_, by omega, by omega⟩
      rw [hs]
      simp only [Int.natCast_add, Int.natCast_one]
      exact (meets_id (by (repeat' apply And.intro) <;> first | rfl | exact True.intro | (intro hh; cases hh)))
  · have : k = n := by omega
    subst this
    (conv => whnf); (repeat' (first | (refine bT ?_; conv => whnf) | (refine bF ?_; conv => whnf) | (refine bN ?_) | (refine bD (fun hh => ?_) (fun hh => ?_) <;> first | (exfalso; omega) | (conv => whnf)) | (refine bEq (fun hh => ?_) (fun hh => ?_) <;> first | (exfalso; omega) | (conv => whnf)) | (refine bNe (fun hh => ?_) (fun hh => ?_) <;> first | (exfalso; omega) | (conv => whnf)) | (refine wIn (by omega) ?_; conv => whnf) | (refine nI (by omega) ?_; conv => whnf)))
    all_goals exact ⟨rfl, rfl⟩
theorem g93 (t : Tr) (g : Gu) (gs : List Bool) (i : Nat) (h : t.ok) (hg : g.ok t.ss.length) (hgs : gs.length = t.ss.length) (h1 : i < t.ss.length) : FnA Tryz.prog 82 [.int .i64 i, .ipt [.isl (gs.map b1)], .ipt t.cells, .ipt g.av] (· = .bool (t.cond g gs i)) := by
  have hl := h.2.1
  have hL : (gs.map b1).length = gs.length := by simp
  have hL2 : (t.ss.map i1).length = t.ss.length := by simp
  have hld := fun i => ld_bd h hg i
  have hb := fun s k j => sumr_bd hld (by omega) gs t.ss.length i s k j
  refine fnA 2 ok82 (by simp) ?_
  conv => whnf
  refine iaI (by omega) (by omega) (getD_mapD b1 gs _ false (by omega)) ?_
  simp only [Int.toNat_natCast]
  conv => whnf
  cases hi : gs.getD i false with
  | true =>
    (conv => whnf); (repeat' (first | (refine bT ?_; conv => whnf) | (refine bF ?_; conv => whnf) | (refine bN ?_) | (refine bD (fun hh => ?_) (fun hh => ?_) <;> first | (exfalso; omega) | (conv => whnf)) | (refine bEq (fun hh => ?_) (fun hh => ?_) <;> first | (exfalso; omega) | (conv => whnf)) | (refine bNe (fun hh => ?_) (fun hh => ?_) <;> first | (exfalso; omega) | (conv => whnf)) | (refine wIn (by omega) ?_; conv => whnf) | (refine nI (by omega) ?_; conv => whnf)))
    all_goals (unfold Tr.cond; rw [hi]; simp)
  | false =>
    (conv => whnf); (repeat' (first | (refine bT ?_; conv => whnf) | (refine bF ?_; conv => whnf) | (refine bN ?_) | (refine bD (fun hh => ?_) (fun hh => ?_) <;> first | (exfalso; omega) | (conv => whnf)) | (refine bEq (fun hh => ?_) (fun hh => ?_) <;> first | (exfalso; omega) | (conv => whnf)) | (refine bNe (fun hh => ?_) (fun hh => ?_) <;> first | (exfalso; omega) | (conv => whnf)) | (refine wIn (by omega) ?_; conv => whnf) | (refine nI (by omega) ?_; conv => whnf)))
    refine iaI (by omega) (by omega) (getD_mapD i1 t.ss _ 0 (by omega)) ?_
    simp only [Int.toNat_natCast]
    have hk : 0 ≤ hand (t.ld g) gs t.ss.length i ∧ hand (t.ld g) gs t.ss.length i ≤ 400000 := by
      have h2 := hb (-1) (t.ss.length - 1) 1
      have h3 := hb 1 (t.ss.length - 1) 1
      unfold hand sside
      omega
    have hl2 := hld i
    (conv => whnf); (repeat' (first | (refine bT ?_; conv => whnf) | (refine bF ?_; conv => whnf) | (refine bN ?_) | (refine bD (fun hh => ?_) (fun hh => ?_) <;> first | (exfalso; omega) | (conv => whnf)) | (refine bEq (fun hh => ?_) (fun hh => ?_) <;> first | (exfalso; omega) | (conv => whnf)) | (refine bNe (fun hh => ?_) (fun hh => ?_) <;> first | (exfalso; omega) | (conv => whnf)) | (refine (g42 t g _ h hg (by omega) (by omega)).callq rfl rfl (fun r (hr : r = _) => ?_); subst hr; conv => whnf) | (refine (g94 t g gs i h hg hgs h1 hi).callq rfl rfl (fun r (hr : r = _) => ?_); subst hr; conv => whnf) | (refine wIn (by omega) ?_; conv => whnf) | (refine nI (by omega) ?_; conv => whnf)))
    all_goals (unfold Tr.cond; rw [hi]; simp)

def Tr.go (t : Tr) (g : Gu) (gs : List Bool) : List Nat := lst t.ss.length (t.cond g gs)
/-- those that are gone behind a round -/
def Tr.stp (t : Tr) (g : Gu) (gs : List Bool) : List Bool := (List.range t.ss.length).map fun i => gs.getD i false || t.cond g gs i
def Tr.G (t : Tr) (g : Gu) : Nat → List Bool
  | 0 => List.replicate t.ss.length false
  | r + 1 => t.stp g (t.G g r)
theorem G_len (t : Tr) (g : Gu) : ∀ r, (t.G g r).length = t.ss.length
  | 0 => by simp [Tr.G]
  | r + 1 => by simp [Tr.G, Tr.stp]
theorem stp_get {t : Tr} {g : Gu} {gs : List Bool} {i : Nat} (h : i < t.ss.length) : (t.stp g gs).getD i false = (gs.getD i false || t.cond g gs i) := by
  simp [Tr.stp, List.getD_eq_getElem?_getD, h]
/-- how many rounds there are in which some go -/
def Tr.K (t : Tr) (g : Gu) : Nat := ((List.range (t.ss.length + 1)).find? fun r => (t.go g (t.G g r)).isEmpty).getD 0
theorem cp_le {p q : Nat → Bool} : ∀ {l : List Nat}, (∀ x ∈ l, p x = true → q x = true) → l.countP p ≤ l.countP q := fun h => List.countP_mono_left h
theorem cp_lt {p q : Nat → Bool} : ∀ {l : List Nat}, (∀ x ∈ l, p x = true → q x = true) → ∀ x ∈ l, p x = false → q x = true → l.countP p < l.countP q
  | [], _, x, hx, _, _ => by cases hx
  | y :: l, h, x, hx, hp, hq => by
    have h' : ∀ x ∈ l, p x = true → q x = true := fun x hx => h x (by simp [hx])
    rcases List.mem_cons.1 hx with rfl | hx
    · rw [List.countP_cons_of_neg (by rw [hp]; simp), List.countP_cons_of_pos hq]
      have := cp_le h'; omega
    · have ih := cp_lt h' x hx hp hq
      by_cases hy : p y = true
      · rw [List.countP_cons_of_pos hy, List.countP_cons_of_pos (h y (by simp) hy)]; omega
      · rw [List.countP_cons_of_neg hy]
        by_cases hy2 : q y = true
        · rw [List.countP_cons_of_pos hy2]; omega
        · rw [List.countP_cons_of_neg hy2]; omega
theorem go_mem {t : Tr} {g : Gu} {gs : List Bool} {i : Nat} : i ∈ t.go g gs ↔ i < t.ss.length ∧ t.cond g gs i = true := lst_mem
theorem cond_new {t : Tr} {g : Gu} {gs : List Bool} {i : Nat} (h : t.cond g gs i = true) : gs.getD i false = false := by
  unfold Tr.cond at h; simp only [Bool.and_eq_true, Bool.not_eq_true'] at h; exact h.1
theorem cnt_le (t : Tr) (g : Gu) : ∀ k, (∀ r < k, t.go g (t.G g r) ≠ []) → k ≤ (List.range t.ss.length).countP fun i => (t.G g k).getD i false
  | 0, _ => by omega
  | k + 1, h => by
    have ih := cnt_le t g k fun r hr => h r (by omega)
    have hne := h k (by omega)
    obtain ⟨i, hi⟩ := List.exists_mem_of_ne_nil _ hne
    rw [go_mem] at hi
    have := cp_lt (l := List.range t.ss.length) (p := fun i => (t.G g k).getD i false) (q := fun i => (t.G g (k + 1)).getD i false) (fun x hx hp => by
      have hx' : x < t.ss.length := by simpa using hx
      show (t.stp g (t.G g k)).getD x false = true
      rw [stp_get hx']; rw [hp]; rfl) i (by simpa using hi.1) (cond_new hi.2) (by
      show (t.stp g (t.G g k)).getD i false = true
      rw [stp_get hi.1, hi.2]; simp)
    omega
theorem K_ok (t : Tr) (g : Gu) : (∀ r < t.K g, t.go g (t.G g r) ≠ []) ∧ t.go g (t.G g (t.K g)) = [] ∧ t.K g ≤ t.ss.length := by
  cases hf : (List.range (t.ss.length + 1)).find? fun r => (t.go g (t.G g r)).isEmpty with
  | some k =>
    have hk : t.K g = k := by unfold Tr.K; rw [hf]; rfl
    rw [List.find?_range_eq_some] at hf
    rw [hk]
    refine ⟨fun r hr e => ?_, by simpa using hf.1, by have := hf.2.1; simp at this; omega⟩
    have := hf.2.2 r hr
    rw [e] at this; simp at this
  | none =>
    rw [List.find?_eq_none] at hf
    have hne : ∀ r, r ≤ t.ss.length → t.go g (t.G g r) ≠ [] := fun r hr e => by
      have := hf r (by simp; omega)
      rw [e] at this; simp at this
    have h1 := cnt_le t g t.ss.length fun r hr => hne r (by omega)
    obtain ⟨i, hi⟩ := List.exists_mem_of_ne_nil _ (hne t.ss.length (by omega))
    rw [go_mem] at hi
    have h2 : (List.range t.ss.length).countP (fun i => (t.G g t.ss.length).getD i false) < (List.range t.ss.length).length := by
      rw [List.countP_eq_length_filter]
      refine Nat.lt_of_le_of_ne (List.length_filter_le _ _) fun e => ?_
      have := List.length_filter_eq_length_iff.1 e i (by simpa using hi.1)
      rw [cond_new hi.2] at this; cases this
    rw [List.length_range] at h2; omega
/-- some ribs are set down as gone -/
def setAll (gs : List Bool) (l : List Nat) : List Bool := l.foldl (fun a i => a.set i true) gs
theorem setAll_len : ∀ (l : List Nat) (gs : List Bool), (setAll gs l).length = gs.length
  | [], gs => rfl
  | i :: l, gs => by show (setAll (gs.set i true) l).length = _; rw [setAll_len l]; simp
theorem setAll_get : ∀ (l : List Nat) (gs : List Bool) (i : Nat), i < gs.length → (setAll gs l).getD i false = (gs.getD i false || l.contains i)
  | [], gs, i, h => by simp [setAll]
  | j :: l, gs, i, h => by
    show (setAll (gs.set j true) l).getD i false = _
    rw [setAll_get l _ i (by simpa using h)]
    simp only [List.getD_eq_getElem?_getD, List.getElem?_set, List.contains_cons]
    by_cases e : j = i
    · subst e; simp [h]
    · have e' : (i == j) = false := by simpa using Ne.symm e
      simp [e, e']
theorem setAll_take (gs : List Bool) (l : List Nat) {k : Nat} (h : k < l.length) : setAll gs (l.take (k + 1)) = (setAll gs (l.take k)).set l[k] true := by
  unfold setAll; rw [List.take_succ_eq_append_getElem h, List.foldl_append]; rfl
theorem setAll_go {t : Tr} {g : Gu} {gs : List Bool} (h : gs.length = t.ss.length) : setAll gs (t.go g gs) = t.stp g gs := by
  refine List.ext_getElem (by rw [setAll_len, h]; simp [Tr.stp]) fun i h1 h2 => ?_
  have hi : i < t.ss.length := by rw [setAll_len] at h1; omega
  have e1 := setAll_get (t.go g gs) gs i (by omega)
  have e2 := stp_get (t := t) (g := g) (gs := gs) hi
  rw [List.getD_eq_getElem?_getD, List.getElem?_eq_getElem h1] at e1
  rw [List.getD_eq_getElem?_getD, List.getElem?_eq_getElem h2] at e2
  simp only [Option.getD_some] at e1 e2
  rw [e1, e2]
  congr 1
  rw [Bool.eq_iff_iff]
  simp only [List.contains_eq_mem, decide_eq_true_eq, go_mem]
  exact ⟨fun h => h.2, fun h => ⟨hi, h⟩⟩
/-- what is yielded -/
def Tr.ys (t : Tr) (g : Gu) : List (List AV) := (List.range (t.K g)).map fun r => [.isl ((t.go g (t.G g r)).map n1)]
theorem ys_get {t : Tr} {g : Gu} {r : Nat} (h : r < t.K g) : (t.ys g)[r]? = some [.isl ((t.go g (t.G g r)).map n1)] := by simp [Tr.ys, h]

theorem i92 (t : Tr) (g : Gu) (h : t.ok) (hg : g.ok t.ss.length) : ItA Tryz.prog 81 [.ipt t.cells, .ipt g.av] (t.ys g) := by
  have hl := h.2.1
  have hL : (t.ss.map i1).length = t.ss.length := by simp
  obtain ⟨hK1, hK2, hK3⟩ := K_ok t g
  have hylen : (t.ys g).length = t.K g := by simp [Tr.ys]
  refine itA 6 ok81 (by simp) ?_
  conv => whnf
  refine mkI (by omega) (by omega) (by omega) ?_
  conv => whnf
  refine loop_y (α := Nat) (fun r => [(4, .own 1 0), (2, .ipt g.av), (1, .ipt t.cells), (0, .yld)]) (fun r => [.row false 4 1 ((t.G g r).map b1), .box false [.row 0], .fresh, .fresh, .fresh, .fresh]) (fun r => ⟨[], r, false⟩) (fun r => r ≤ t.K g) (fun r => t.K g - r) 0 ?_ (by omega) ?_
  · have e : (t.G g 0).map b1 = List.replicate ((t.ss.map i1).length : Int).toNat [.bool false] := by simp [Tr.G, b1]
    rw [e]; exact (meets_id (by (repeat' apply And.intro) <;> first | rfl | exact True.intro | (intro hh; cases hh)))
  intro r hr
  have hG := G_len t g r
  have hGm : ((t.G g r).map b1).length = (t.G g r).length := by simp
  conv => whnf
  have hc : FnO Tryz.prog 44 [.int .i64 ((t.G g r).map b1).length, .fn 82 [.ipt [.isl ((t.G g r).map b1)], .ipt t.cells, .ipt g.av]] (fun r' rows => r' = .row 3 ∧ rows = [(3, .row false 3 1 ((t.go g (t.G g r)).map n1))]) := by
    have := g49_3 ((t.G g r).map b1).length 82 [.isl ((t.G g r).map b1)] t.cells g.av (t.cond g (t.G g r)) (by omega) (fun i hi => fnV_of bd82 (g93 t g (t.G g r) i h hg hG (by omega)))
    rwa [show lst ((t.G g r).map b1).length (t.cond g (t.G g r)) = t.go g (t.G g r) from by rw [hGm, hG]; rfl] at this
  refine hc.callmq rfl (fun r' rows (hr : r' = _ ∧ rows = _) => ?_); obtain ⟨hr1, hr2⟩ := hr; subst hr1; subst hr2
  refine ⟨rfl, by simp [flatRB, n1_flat], rfl, ?_⟩
  have hgl : ((t.go g (t.G g r)).map n1).length = (t.go g (t.G g r)).length := by simp
  have hgle : (t.go g (t.G g r)).length ≤ t.ss.length := lst_le _ _
  conv => whnf
  refine bEq (fun h3 => ?_) (fun h3 => ?_)
  · have he : t.go g (t.G g r) = [] := List.eq_nil_of_length_eq_zero (by omega)
    have hrK : r = t.K g := by
      refine Nat.le_antisymm hr (Nat.le_of_not_lt fun hlt => hK1 r hlt he)
    (conv => whnf); (repeat' (first | (refine bT ?_; conv => whnf) | (refine bF ?_; conv => whnf) | (refine bN ?_) | (refine bD (fun hh => ?_) (fun hh => ?_) <;> first | (exfalso; omega) | (conv => whnf)) | (refine bEq (fun hh => ?_) (fun hh => ?_) <;> first | (exfalso; omega) | (conv => whnf)) | (refine bNe (fun hh => ?_) (fun hh => ?_) <;> first | (exfalso; omega) | (conv => whnf)) | (refine wIn (by omega) ?_; conv => whnf) | (refine nI (by omega) ?_; conv => whnf)))
    all_goals exact .inr (by rw [hylen]; exact hrK)
  · have hlt : r < t.K g := by
      refine Nat.lt_of_le_of_ne hr fun e => ?_
      rw [e, hK2] at h3; simp at h3
    have hst := setAll_go (t := t) (g := g) (gs := t.G g r) hG
    conv => whnf
    refine bF ?_
    conv => whnf
    refine bF ?_
    conv => whnf
    refine yZ rfl rfl rfl (by exact ys_get hlt) ?_ ?_
    · (conv => whnf); (repeat' (first | (refine bT ?_; conv => whnf) | (refine bF ?_; conv => whnf) | (refine bN ?_) | (refine bD (fun hh => ?_) (fun hh => ?_) <;> first | (exfalso; omega) | (conv => whnf)) | (refine bEq (fun hh => ?_) (fun hh => ?_) <;> first | (exfalso; omega) | (conv => whnf)) | (refine bNe (fun hh => ?_) (fun hh => ?_) <;> first | (exfalso; omega) | (conv => whnf)) | (refine wIn (by omega) ?_; conv => whnf) | (refine nI (by omega) ?_; conv => whnf)))
      refine loop_y (α := Nat) (fun k => [(27, .int .i64 k), (26, .int .i64 ((t.go g (t.G g r)).map n1).length), (25, .row 2), (4, .own 1 0), (2, .ipt g.av), (1, .ipt t.cells), (0, .yld)]) (fun k => [.row false 4 1 ((setAll (t.G g r) ((t.go g (t.G g r)).take k)).map b1), .box false [.row 0], .row true 3 1 ((t.go g (t.G g r)).map n1), .fresh, .fresh, .fresh]) (fun k => ⟨[], r + 1, false⟩) (fun k => k ≤ (t.go g (t.G g r)).length) (fun k => (t.go g (t.G g r)).length - k) 0 ?_ (by omega) ?_
      · rw [List.take_zero]; exact (meets_id (by (repeat' apply And.intro) <;> first | rfl | exact True.intro | (intro hh; cases hh)))
      intro k hk
      have hsl := setAll_len ((t.go g (t.G g r)).take k) (t.G g r)
      have hsl2 : ((setAll (t.G g r) ((t.go g (t.G g r)).take k)).map b1).length = (t.G g r).length := by rw [List.length_map, hsl]
      conv => whnf
      refine bD (fun h4 => ?_) (fun h4 => ?_)
      · have hk2 : k < (t.go g (t.G g r)).length := by omega
        have hmem := go_mem.1 (List.getElem_mem hk2)
        conv => whnf
        refine nI ⟨by omega, by omega⟩ ?_
        conv => whnf
        refine iaI (by omega) (by omega) (getD_map n1 (t.go g (t.G g r)) k hk2) ?_
        conv => whnf
        refine nI ⟨by omega, by omega⟩ ?_
        conv => whnf
        refine iaI (by omega) (by omega) (getD_mapD b1 _ _ false (by simp; omega)) ?_
        (conv => whnf); (repeat' (first | (refine bT ?_; conv => whnf) | (refine bF ?_; conv => whnf) | (refine bN ?_) | (refine bD (fun hh => ?_) (fun hh => ?_) <;> first | (exfalso; omega) | (conv => whnf)) | (refine bEq (fun hh => ?_) (fun hh => ?_) <;> first | (exfalso; omega) | (conv => whnf)) | (refine bNe (fun hh => ?_) (fun hh => ?_) <;> first | (exfalso; omega) | (conv => whnf)) | (refine wIn (by omega) ?_; conv => whnf) | (refine nI (by omega) ?_; conv => whnf)))
        refine ⟨k + 1, ?_, by omega, by omega⟩
        have e : (setAll (t.G g r) ((t.go g (t.G g r)).take (k + 1))).map b1 = ((setAll (t.G g r) ((t.go g (t.G g r)).take k)).map b1).set (t.go g (t.G g r))[k] [.bool true] := by
          rw [setAll_take _ _ hk2, List.map_set]; rfl
        rw [e]
        simp only [Int.natCast_add, Int.natCast_one]
        exact (meets_id (by (repeat' apply And.intro) <;> first | rfl | exact True.intro | (intro hh; cases hh)))
      · have : k = (t.go g (t.G g r)).length := by omega
        subst this
        conv => whnf
        refine ⟨r + 1, ?_, by omega, by omega⟩
        rw [List.take_length]
        rw [show t.G g (r + 1) = t.stp g (t.G g r) from rfl, ← hst]
        exact (meets_id (by (repeat' apply And.intro) <;> first | rfl | exact True.intro | (intro hh; cases hh)))
    · (conv => whnf); (repeat' (first | (refine bT ?_; conv => whnf) | (refine bF ?_; conv => whnf) | (refine bN ?_) | (refine bD (fun hh => ?_) (fun hh => ?_) <;> first | (exfalso; omega) | (conv => whnf)) | (refine bEq (fun hh => ?_) (fun hh => ?_) <;> first | (exfalso; omega) | (conv => whnf)) | (refine bNe (fun hh => ?_) (fun hh => ?_) <;> first | (exfalso; omega) | (conv => whnf)) | (refine wIn (by omega) ?_; conv => whnf) | (refine nI (by omega) ?_; conv => whnf)))
      all_goals exact .inl rfl

theorem g123 (a : Int) : FnA Tryz.prog 113 [.int .i64 a] (· = .bool false) := by
  refine fnA 0 ok113 (by simp) ?_
  (conv => whnf); (repeat' (first | (refine bT ?_; conv => whnf) | (refine bF ?_; conv => whnf) | (refine bN ?_) | (refine bD (fun hh => ?_) (fun hh => ?_) <;> first | (exfalso; omega) | (conv => whnf)) | (refine bEq (fun hh => ?_) (fun hh => ?_) <;> first | (exfalso; omega) | (conv => whnf)) | (refine bNe (fun hh => ?_) (fun hh => ?_) <;> first | (exfalso; omega) | (conv => whnf)) | (refine wIn (by omega) ?_; conv => whnf) | (refine nI (by omega) ?_; conv => whnf)))
  all_goals simp
theorem g108 (a b : Int) : FnA Tryz.prog 102 [.int .i64 a, .int .i64 b] (· = .bool (decide (a < b))) := by
  refine fnA 0 ok102 (by simp) ?_
  (conv => whnf); (repeat' (first | (refine bT ?_; conv => whnf) | (refine bF ?_; conv => whnf) | (refine bN ?_) | (refine bD (fun hh => ?_) (fun hh => ?_) <;> first | (exfalso; omega) | (conv => whnf)) | (refine bEq (fun hh => ?_) (fun hh => ?_) <;> first | (exfalso; omega) | (conv => whnf)) | (refine bNe (fun hh => ?_) (fun hh => ?_) <;> first | (exfalso; omega) | (conv => whnf)) | (refine (g123 a).callq rfl rfl (fun r (hr : r = _) => ?_); subst hr; conv => whnf) | (refine (g123 b).callq rfl rfl (fun r (hr : r = _) => ?_); subst hr; conv => whnf) | (refine wIn (by omega) ?_; conv => whnf) | (refine nI (by omega) ?_; conv => whnf)))
  all_goals rfl
theorem wEq {k : IntKind} {x y : Int} {K : Int → Prop} (h : k.wrap x = y) (hk : K y) : WrE k x K := ⟨by rw [h]; exact hk⟩
theorem g112 (n : Nat) (h : n ≤ 12) : FnA Tryz.prog 106 [.int .u64 n] (fun r => ∃ k : Nat, k ≤ 64 ∧ r = .int .i64 k) := by
  have : n = 0 ∨ n = 1 ∨ n = 2 ∨ n = 3 ∨ n = 4 ∨ n = 5 ∨ n = 6 ∨ n = 7 ∨ n = 8 ∨ n = 9 ∨ n = 10 ∨ n = 11 ∨ n = 12 := by omega
  refine fnA 0 ok106 (by simp) ?_
  rcases this with rfl | rfl | rfl | rfl | rfl | rfl | rfl | rfl | rfl | rfl | rfl | rfl | rfl
  · (conv => whnf); (repeat' (first | (refine bT ?_; conv => whnf) | (refine bF ?_; conv => whnf) | (refine bN ?_) | (refine bD (fun hh => ?_) (fun hh => ?_) <;> first | (exfalso; omega) | (conv => whnf)) | (refine bEq (fun hh => ?_) (fun hh => ?_) <;> first | (exfalso; omega) | (conv => whnf)) | (refine bNe (fun hh => ?_) (fun hh => ?_) <;> first | (exfalso; omega) | (conv => whnf)) | (refine wEq (y := 0) (by decide) ?_; conv => whnf) | (refine sdI (c := 0) (by decide) (by decide) (by decide) ?_; conv => whnf) | (refine wEq (y := 0) (by decide) ?_; conv => whnf) | (refine wIn (by omega) ?_; conv => whnf) | (refine nI (by omega) ?_; conv => whnf)))
    exact ⟨0, by decide, rfl⟩
  · (conv => whnf); (repeat' (first | (refine bT ?_; conv => whnf) | (refine bF ?_; conv => whnf) | (refine bN ?_) | (refine bD (fun hh => ?_) (fun hh => ?_) <;> first | (exfalso; omega) | (conv => whnf)) | (refine bEq (fun hh => ?_) (fun hh => ?_) <;> first | (exfalso; omega) | (conv => whnf)) | (refine bNe (fun hh => ?_) (fun hh => ?_) <;> first | (exfalso; omega) | (conv => whnf)) | (refine wEq (y := 1) (by decide) ?_; conv => whnf) | (refine sdI (c := 1) (by decide) (by decide) (by decide) ?_; conv => whnf) | (refine wEq (y := 1) (by decide) ?_; conv => whnf) | (refine wIn (by omega) ?_; conv => whnf) | (refine nI (by omega) ?_; conv => whnf)))
    exact ⟨1, by decide, rfl⟩
  · (conv => whnf); (repeat' (first | (refine bT ?_; conv => whnf) | (refine bF ?_; conv => whnf) | (refine bN ?_) | (refine bD (fun hh => ?_) (fun hh => ?_) <;> first | (exfalso; omega) | (conv => whnf)) | (refine bEq (fun hh => ?_) (fun hh => ?_) <;> first | (exfalso; omega) | (conv => whnf)) | (refine bNe (fun hh => ?_) (fun hh => ?_) <;> first | (exfalso; omega) | (conv => whnf)) | (refine wEq (y := 2) (by decide) ?_; conv => whnf) | (refine sdI (c := 2) (by decide) (by decide) (by decide) ?_; conv => whnf) | (refine wEq (y := 2) (by decide) ?_; conv => whnf) | (refine wIn (by omega) ?_; conv => whnf) | (refine nI (by omega) ?_; conv => whnf)))
    exact ⟨2, by decide, rfl⟩
  · (conv => whnf); (repeat' (first | (refine bT ?_; conv => whnf) | (refine bF ?_; conv => whnf) | (refine bN ?_) | (refine bD (fun hh => ?_) (fun hh => ?_) <;> first | (exfalso; omega) | (conv => whnf)) | (refine bEq (fun hh => ?_) (fun hh => ?_) <;> first | (exfalso; omega) | (conv => whnf)) | (refine bNe (fun hh => ?_) (fun hh => ?_) <;> first | (exfalso; omega) | (conv => whnf)) | (refine wEq (y := 3) (by decide) ?_; conv => whnf) | (refine sdI (c := 2) (by decide) (by decide) (by decide) ?_; conv => whnf) | (refine wEq (y := 2) (by decide) ?_; conv => whnf) | (refine wIn (by omega) ?_; conv => whnf) | (refine nI (by omega) ?_; conv => whnf)))
    exact ⟨2, by decide, rfl⟩
  · (conv => whnf); (repeat' (first | (refine bT ?_; conv => whnf) | (refine bF ?_; conv => whnf) | (refine bN ?_) | (refine bD (fun hh => ?_) (fun hh => ?_) <;> first | (exfalso; omega) | (conv => whnf)) | (refine bEq (fun hh => ?_) (fun hh => ?_) <;> first | (exfalso; omega) | (conv => whnf)) | (refine bNe (fun hh => ?_) (fun hh => ?_) <;> first | (exfalso; omega) | (conv => whnf)) | (refine wEq (y := 4) (by decide) ?_; conv => whnf) | (refine sdI (c := 3) (by decide) (by decide) (by decide) ?_; conv => whnf) | (refine wEq (y := 3) (by decide) ?_; conv => whnf) | (refine wIn (by omega) ?_; conv => whnf) | (refine nI (by omega) ?_; conv => whnf)))
    exact ⟨3, by decide, rfl⟩
  · (conv => whnf); (repeat' (first | (refine bT ?_; conv => whnf) | (refine bF ?_; conv => whnf) | (refine bN ?_) | (refine bD (fun hh => ?_) (fun hh => ?_) <;> first | (exfalso; omega) | (conv => whnf)) | (refine bEq (fun hh => ?_) (fun hh => ?_) <;> first | (exfalso; omega) | (conv => whnf)) | (refine bNe (fun hh => ?_) (fun hh => ?_) <;> first | (exfalso; omega) | (conv => whnf)) | (refine wEq (y := 5) (by decide) ?_; conv => whnf) | (refine sdI (c := 3) (by decide) (by decide) (by decide) ?_; conv => whnf) | (refine wEq (y := 3) (by decide) ?_; conv => whnf) | (refine wIn (by omega) ?_; conv => whnf) | (refine nI (by omega) ?_; conv => whnf)))
    exact ⟨3, by decide, rfl⟩
  · (conv => whnf); (repeat' (first | (refine bT ?_; conv => whnf) | (refine bF ?_; conv => whnf) | (refine bN ?_) | (refine bD (fun hh => ?_) (fun hh => ?_) <;> first | (exfalso; omega) | (conv => whnf)) | (refine bEq (fun hh => ?_) (fun hh => ?_) <;> first | (exfalso; omega) | (conv => whnf)) | (refine bNe (fun hh => ?_) (fun hh => ?_) <;> first | (exfalso; omega) | (conv => whnf)) | (refine wEq (y := 6) (by decide) ?_; conv => whnf) | (refine sdI (c := 3) (by decide) (by decide) (by decide) ?_; conv => whnf) | (refine wEq (y := 3) (by decide) ?_; conv => whnf) | (refine wIn (by omega) ?_; conv => whnf) | (refine nI (by omega) ?_; conv => whnf)))
    exact ⟨3, by decide, rfl⟩
  · (conv => whnf); (repeat' (first | (refine bT ?_; conv => whnf) | (refine bF ?_; conv => whnf) | (refine bN ?_) | (refine bD (fun hh => ?_) (fun hh => ?_) <;> first | (exfalso; omega) | (conv => whnf)) | (refine bEq (fun hh => ?_) (fun hh => ?_) <;> first | (exfalso; omega) | (conv => whnf)) | (refine bNe (fun hh => ?_) (fun hh => ?_) <;> first | (exfalso; omega) | (conv => whnf)) | (refine wEq (y := 7) (by decide) ?_; conv => whnf) | (refine sdI (c := 3) (by decide) (by decide) (by decide) ?_; conv => whnf) | (refine wEq (y := 3) (by decide) ?_; conv => whnf) | (refine wIn (by omega) ?_; conv => whnf) | (refine nI (by omega) ?_; conv => whnf)))
    exact ⟨3, by decide, rfl⟩
  · (conv => whnf); (repeat' (first | (refine bT ?_; conv => whnf) | (refine bF ?_; conv => whnf) | (refine bN ?_) | (refine bD (fun hh => ?_) (fun hh => ?_) <;> first | (exfalso; omega) | (conv => whnf)) | (refine bEq (fun hh => ?_) (fun hh => ?_) <;> first | (exfalso; omega) | (conv => whnf)) | (refine bNe (fun hh => ?_) (fun hh => ?_) <;> first | (exfalso; omega) | (conv => whnf)) | (refine wEq (y := 8) (by decide) ?_; conv => whnf) | (refine sdI (c := 4) (by decide) (by decide) (by decide) ?_; conv => whnf) | (refine wEq (y := 4) (by decide) ?_; conv => whnf) | (refine wIn (by omega) ?_; conv => whnf) | (refine nI (by omega) ?_; conv => whnf)))
    exact ⟨4, by decide, rfl⟩
  · (conv => whnf); (repeat' (first | (refine bT ?_; conv => whnf) | (refine bF ?_; conv => whnf) | (refine bN ?_) | (refine bD (fun hh => ?_) (fun hh => ?_) <;> first | (exfalso; omega) | (conv => whnf)) | (refine bEq (fun hh => ?_) (fun hh => ?_) <;> first | (exfalso; omega) | (conv => whnf)) | (refine bNe (fun hh => ?_) (fun hh => ?_) <;> first | (exfalso; omega) | (conv => whnf)) | (refine wEq (y := 9) (by decide) ?_; conv => whnf) | (refine sdI (c := 4) (by decide) (by decide) (by decide) ?_; conv => whnf) | (refine wEq (y := 4) (by decide) ?_; conv => whnf) | (refine wIn (by omega) ?_; conv => whnf) | (refine nI (by omega) ?_; conv => whnf)))
    exact ⟨4, by decide, rfl⟩
  · (conv => whnf); (repeat' (first | (refine bT ?_; conv => whnf) | (refine bF ?_; conv => whnf) | (refine bN ?_) | (refine bD (fun hh => ?_) (fun hh => ?_) <;> first | (exfalso; omega) | (conv => whnf)) | (refine bEq (fun hh => ?_) (fun hh => ?_) <;> first | (exfalso; omega) | (conv => whnf)) | (refine bNe (fun hh => ?_) (fun hh => ?_) <;> first | (exfalso; omega) | (conv => whnf)) | (refine wEq (y := 10) (by decide) ?_; conv => whnf) | (refine sdI (c := 4) (by decide) (by decide) (by decide) ?_; conv => whnf) | (refine wEq (y := 4) (by decide) ?_; conv => whnf) | (refine wIn (by omega) ?_; conv => whnf) | (refine nI (by omega) ?_; conv => whnf)))
    exact ⟨4, by decide, rfl⟩
  · (conv => whnf); (repeat' (first | (refine bT ?_; conv => whnf) | (refine bF ?_; conv => whnf) | (refine bN ?_) | (refine bD (fun hh => ?_) (fun hh => ?_) <;> first | (exfalso; omega) | (conv => whnf)) | (refine bEq (fun hh => ?_) (fun hh => ?_) <;> first | (exfalso; omega) | (conv => whnf)) | (refine bNe (fun hh => ?_) (fun hh => ?_) <;> first | (exfalso; omega) | (conv => whnf)) | (refine wEq (y := 11) (by decide) ?_; conv => whnf) | (refine sdI (c := 4) (by decide) (by decide) (by decide) ?_; conv => whnf) | (refine wEq (y := 4) (by decide) ?_; conv => whnf) | (refine wIn (by omega) ?_; conv => whnf) | (refine nI (by omega) ?_; conv => whnf)))
    exact ⟨4, by decide, rfl⟩
  · (conv => whnf); (repeat' (first | (refine bT ?_; conv => whnf) | (refine bF ?_; conv => whnf) | (refine bN ?_) | (refine bD (fun hh => ?_) (fun hh => ?_) <;> first | (exfalso; omega) | (conv => whnf)) | (refine bEq (fun hh => ?_) (fun hh => ?_) <;> first | (exfalso; omega) | (conv => whnf)) | (refine bNe (fun hh => ?_) (fun hh => ?_) <;> first | (exfalso; omega) | (conv => whnf)) | (refine wEq (y := 12) (by decide) ?_; conv => whnf) | (refine sdI (c := 4) (by decide) (by decide) (by decide) ?_; conv => whnf) | (refine wEq (y := 4) (by decide) ?_; conv => whnf) | (refine wIn (by omega) ?_; conv => whnf) | (refine nI (by omega) ?_; conv => whnf)))
    exact ⟨4, by decide, rfl⟩
theorem g96 (n : Nat) (h : n ≤ 12) : FnA Tryz.prog 85 [.int .u64 n] (fun r => ∃ k : Nat, k ≤ 64 ∧ r = .int .i64 k) := by
  refine fnA 0 ok85 (by simp) ?_
  (conv => whnf); (repeat' (first | (refine bT ?_; conv => whnf) | (refine bF ?_; conv => whnf) | (refine bN ?_) | (refine bD (fun hh => ?_) (fun hh => ?_) <;> first | (exfalso; omega) | (conv => whnf)) | (refine bEq (fun hh => ?_) (fun hh => ?_) <;> first | (exfalso; omega) | (conv => whnf)) | (refine bNe (fun hh => ?_) (fun hh => ?_) <;> first | (exfalso; omega) | (conv => whnf)) | (refine wIn (by omega) ?_; conv => whnf) | (refine nI (by omega) ?_; conv => whnf)))
  refine (g112 n h).callq rfl rfl (fun r ⟨k, hk, hr⟩ => ?_); subst hr
  (conv => whnf); (repeat' (first | (refine bT ?_; conv => whnf) | (refine bF ?_; conv => whnf) | (refine bN ?_) | (refine bD (fun hh => ?_) (fun hh => ?_) <;> first | (exfalso; omega) | (conv => whnf)) | (refine bEq (fun hh => ?_) (fun hh => ?_) <;> first | (exfalso; omega) | (conv => whnf)) | (refine bNe (fun hh => ?_) (fun hh => ?_) <;> first | (exfalso; omega) | (conv => whnf)) | (refine wIn (by omega) ?_; conv => whnf) | (refine nI (by omega) ?_; conv => whnf)))
  all_goals exact ⟨k, hk, rfl⟩
/-- all but the j-th of the first i + 1 are in order, and those behind it are not less -/
def InvJ (i j : Nat) (l : List Nat) : Prop := (∀ p q, p < q → q ≤ i → p ≠ j → q ≠ j → l.getD p 0 ≤ l.getD q 0) ∧ ∀ q, j < q → q ≤ i → l.getD j 0 ≤ l.getD q 0
def Srt (i : Nat) (l : List Nat) : Prop := ∀ p q, p < q → q < i → l.getD p 0 ≤ l.getD q 0
def swp (l : List Nat) (j k : Nat) : List Nat := (l.set j (l.getD k 0)).set k (l.getD j 0)
theorem swp_get {l : List Nat} {j k : Nat} (hj : j < l.length) (hk : k < l.length) (q : Nat) : (swp l j k).getD q 0 = if q = k then l.getD j 0 else if q = j then l.getD k 0 else l.getD q 0 := by
  unfold swp
  simp only [List.getD_eq_getElem?_getD, List.getElem?_set, List.length_set]
  by_cases e : k = q
  · subst e; simp [hk]
  · rw [if_neg e, if_neg (Ne.symm e)]
    by_cases e2 : j = q
    · subst e2; simp [hj]
    · rw [if_neg e2, if_neg (Ne.symm e2)]
theorem swp_perm {l : List Nat} {j k : Nat} (hj : j < l.length) (hk : k < l.length) : (swp l j k).Perm l := by
  unfold swp
  have := (List.set_set_perm hj hk : (((l.set j l[k]).set k l[j]).Perm l))
  rwa [List.getD_eq_getElem?_getD, List.getD_eq_getElem?_getD, List.getElem?_eq_getElem hj, List.getElem?_eq_getElem hk]
theorem swp_len (l : List Nat) (j k : Nat) : (swp l j k).length = l.length := by simp [swp]
theorem InvJ.step {i k : Nat} {l : List Nat} (h : InvJ i (k + 1) l) (hi : i < l.length) (hk : k + 1 ≤ i) (hl : l.getD (k + 1) 0 < l.getD k 0) : InvJ i k (swp l (k + 1) k) := by
  have hg := swp_get (l := l) (j := k + 1) (k := k) (by omega) (by omega)
  obtain ⟨h1, h2⟩ := h
  refine ⟨fun p q hp hq e1 e2 => ?_, fun q hq1 hq2 => ?_⟩
  · rw [hg p, hg q, if_neg e1, if_neg e2]
    by_cases a : p = k + 1
    · have b : q ≠ k + 1 := by omega
      rw [if_pos a, if_neg b]
      exact h1 k q (by omega) hq (by omega) b
    · rw [if_neg a]
      by_cases b : q = k + 1
      · rw [if_pos b]; exact h1 p k (by omega) (by omega) a (by omega)
      · rw [if_neg b]; exact h1 p q hp hq a b
  · rw [hg k, hg q, if_pos rfl, if_neg (by omega)]
    by_cases b : q = k + 1
    · rw [if_pos b]; omega
    · rw [if_neg b]; exact h2 q (by omega) hq2
theorem InvJ.done {i j : Nat} {l : List Nat} (h : InvJ i j l) (hj : j ≤ i) (he : j = 0 ∨ l.getD (j - 1) 0 ≤ l.getD j 0) : Srt (i + 1) l := by
  intro p q hp hq
  by_cases a : p = j
  · subst a; exact h.2 q hp (by omega)
  · by_cases b : q = j
    · subst b
      have hle : l.getD (q - 1) 0 ≤ l.getD q 0 := by
        rcases he with he | he
        · omega
        · exact he
      by_cases c : p = q - 1
      · subst c; exact hle
      · exact Nat.le_trans (h.1 p (q - 1) (by omega) (by omega) a (by omega)) hle
    · exact h.1 p q hp (by omega) a b
theorem Srt.inv {i : Nat} {l : List Nat} (h : Srt i l) : InvJ i i l := ⟨fun p q h1 h2 _ h4 => h p q h1 (by omega), fun q h1 h2 => by omega⟩
def srtA (l : List Nat) (r : AV) (outs : List Res) : Prop := r = .tup [] ∧ ∃ l' : List Nat, l'.Perm l ∧ Srt l.length l' ∧ outs = [.row false 3 1 (l'.map n1)]
theorem g102 (l : List Nat) (hn : l.length ≤ 1000) : FnW Tryz.prog 96 [.row 0, .int .i64 0, .int .i64 l.length] [.row false 3 1 (l.map n1)] (srtA l) := by
  refine fnW 0 [] ok96 (by simp) rfl rfl ?_
  conv => whnf
  refine wIn (by omega) ?_
  conv => whnf
  refine loop_i (α := Nat × List Nat) (fun x => [(6, .int .i64 x.1), (2, .int .i64 l.length), (1, .int .i64 0), (0, .row 0)]) (fun x => [.row false 3 1 (x.2.map n1)]) (fun x => 1 ≤ x.1 ∧ x.2.Perm l ∧ Srt x.1 x.2 ∧ (x.1 ≤ l.length ∨ x.1 = 1)) (fun x => l.length - x.1) (1, l) (meets_id (by (repeat' apply And.intro) <;> first | rfl | exact True.intro | (intro hh; cases hh))) ⟨by simp, List.Perm.refl _, fun p q h1 h2 => by simp only at h2; omega, .inr rfl⟩ ?_
  rintro ⟨i, m⟩ ⟨h1, hP, hS, hC⟩
  simp only at h1 hP hS hC ⊢
  have hml := hP.length_eq
  conv => whnf
  refine bD (fun h3 => ?_) (fun h3 => ?_)
  · conv => whnf
    have hi : i < m.length := by omega
    refine loop_i (α := Nat × List Nat) (fun x => [(7, .int .i64 x.1), (6, .int .i64 i), (2, .int .i64 l.length), (1, .int .i64 0), (0, .row 0)]) (fun x => [.row false 3 1 (x.2.map n1)]) (fun x => x.1 ≤ i ∧ x.2.Perm l ∧ InvJ i x.1 x.2) (fun x => x.1) (i, m) (meets_id (by (repeat' apply And.intro) <;> first | rfl | exact True.intro | (intro hh; cases hh))) ⟨by simp, hP, hS.inv⟩ ?_
    rintro ⟨j, a⟩ ⟨hj, hQ, hI⟩
    simp only at hj hQ hI ⊢
    have hal := hQ.length_eq
    have hamp : (a.map n1).length = a.length := by simp
    conv => whnf
    refine bD (fun h4 => ?_) (fun h4 => ?_)
    · obtain ⟨k, rfl⟩ : ∃ k, j = k + 1 := ⟨j - 1, by omega⟩
      have e1 : (a.map n1).getD ((k + 1 : Nat) : Int).toNat [] = [.int .i64 (a.getD (k + 1) 0)] := by
        rw [Int.toNat_natCast, getD_mapD n1 a (k + 1) 0 (by omega)]; rfl
      have e2 : (a.map n1).getD (((((k + 1 : Nat) : Int) - 1).toNat : Nat) : Int).toNat [] = [.int .i64 (a.getD k 0)] := by
        rw [show (((((k + 1 : Nat) : Int) - 1).toNat : Nat) : Int).toNat = k from by omega, getD_mapD n1 a k 0 (by omega)]; rfl
      have tk : (((k + 1 : Nat) : Int) - 1).toNat = k := by omega
      have tk1 : ((k + 1 : Nat) : Int).toNat = k + 1 := by omega
      have hset : ((a.map n1).set ((k + 1 : Nat) : Int).toNat [AV.int IntKind.i64 (a.getD k 0 : Nat)]).length = a.length := by simp
      have e3 : ((a.map n1).set ((k + 1 : Nat) : Int).toNat [AV.int IntKind.i64 (a.getD k 0 : Nat)]).getD (((((k + 1 : Nat) : Int) - 1).toNat : Nat) : Int).toNat [] = [.int .i64 (a.getD k 0)] := by
        rw [show (((((k + 1 : Nat) : Int) - 1).toNat : Nat) : Int).toNat = k from by omega]
        rw [List.getD_eq_getElem?_getD, List.getElem?_set_ne (by omega), ← List.getD_eq_getElem?_getD, getD_mapD n1 a k 0 (by omega)]; rfl
      have hsw : ((a.map n1).set ((k + 1 : Nat) : Int).toNat [AV.int IntKind.i64 (a.getD k 0 : Nat)]).set (((k + 1 : Nat) : Int) - 1).toNat [AV.int IntKind.i64 (a.getD (k + 1) 0 : Nat)] = (swp a (k + 1) k).map n1 := by
        unfold swp; rw [tk, tk1, List.map_set, List.map_set]; rfl
      have hpm : (swp a (k + 1) k).Perm l := (swp_perm (by omega) (by omega)).trans hQ
      (conv => whnf); (repeat' (first | (refine bT ?_; conv => whnf) | (refine bF ?_; conv => whnf) | (refine bN ?_) | (refine bD (fun hh => ?_) (fun hh => ?_) <;> first | (exfalso; omega) | (conv => whnf)) | (refine bEq (fun hh => ?_) (fun hh => ?_) <;> first | (exfalso; omega) | (conv => whnf)) | (refine bNe (fun hh => ?_) (fun hh => ?_) <;> first | (exfalso; omega) | (conv => whnf)) | (refine iaI (by omega) (by omega) e1 ?_; conv => whnf) | (refine iaI (by omega) (by omega) e2 ?_; conv => whnf) | (refine iaI (by omega) (by omega) e3 ?_; conv => whnf) | (refine (g108 (a.getD (k + 1) 0) (a.getD k 0)).callq rfl rfl (fun r (hr : r = _) => ?_); subst hr; conv => whnf) | (refine wIn (by omega) ?_; conv => whnf) | (refine nI (by omega) ?_; conv => whnf)))
      · refine ⟨(k, swp a (k + 1) k), ?_, ⟨by simp only; omega, hpm, hI.step (by omega) (by omega) (by omega)⟩, by simp only; omega⟩
        rw [hsw]
        have e5 : ((k + 1 : Nat) : Int) - 1 = k := by omega
        rw [e5]
        exact (meets_id (by (repeat' apply And.intro) <;> first | rfl | exact True.intro | (intro hh; cases hh)))
      · refine ⟨(i + 1, a), ?_, ⟨by simp only; omega, hQ, hI.done hj (.inr (by simp only [Nat.add_sub_cancel]; omega)), .inl (by simp only; omega)⟩, by simp only; omega⟩
        exact (meets_id (by (repeat' apply And.intro) <;> first | rfl | exact True.intro | (intro hh; cases hh)))
    · have hj0 : j = 0 := by omega
      subst hj0
      (conv => whnf); (repeat' (first | (refine bT ?_; conv => whnf) | (refine bF ?_; conv => whnf) | (refine bN ?_) | (refine bD (fun hh => ?_) (fun hh => ?_) <;> first | (exfalso; omega) | (conv => whnf)) | (refine bEq (fun hh => ?_) (fun hh => ?_) <;> first | (exfalso; omega) | (conv => whnf)) | (refine bNe (fun hh => ?_) (fun hh => ?_) <;> first | (exfalso; omega) | (conv => whnf)) | (refine wIn (by omega) ?_; conv => whnf) | (refine nI (by omega) ?_; conv => whnf)))
      refine ⟨(i + 1, a), ?_, ⟨by simp only; omega, hQ, hI.done hj (.inl rfl), .inl (by simp only; omega)⟩, by simp only; omega⟩
      exact (meets_id (by (repeat' apply And.intro) <;> first | rfl | exact True.intro | (intro hh; cases hh)))
  · (conv => whnf); (repeat' (first | (refine bT ?_; conv => whnf) | (refine bF ?_; conv => whnf) | (refine bN ?_) | (refine bD (fun hh => ?_) (fun hh => ?_) <;> first | (exfalso; omega) | (conv => whnf)) | (refine bEq (fun hh => ?_) (fun hh => ?_) <;> first | (exfalso; omega) | (conv => whnf)) | (refine bNe (fun hh => ?_) (fun hh => ?_) <;> first | (exfalso; omega) | (conv => whnf)) | (refine wIn (by omega) ?_; conv => whnf) | (refine nI (by omega) ?_; conv => whnf)))
    all_goals exact ⟨rfl, m, hP, fun p q h1 h2 => hS p q h1 (by omega), rfl⟩

theorem g95 (l : List Nat) (b : Int) (hn : l.length ≤ 12) : FnW Tryz.prog 84 [.row 0, .int .i64 0, .int .i64 l.length, .int .i64 b] [.row false 3 1 (l.map n1)] (srtA l) := by
  refine fnW 0 [] ok84 (by simp) rfl rfl ?_
  conv => whnf
  refine loop_i (α := Unit) (fun x => [(2, .int .i64 l.length), (1, .int .i64 0), (0, .row 0)]) (fun x => [.row false 3 1 (l.map n1)]) (fun x => True) (fun x => 0) () (meets_id (by (repeat' apply And.intro) <;> first | rfl | exact True.intro | (intro hh; cases hh))) trivial ?_
  intro _ _
  have hc := g102 l (by omega)
  (conv => whnf); (repeat' (first | (refine bT ?_; conv => whnf) | (refine bF ?_; conv => whnf) | (refine bN ?_) | (refine bD (fun hh => ?_) (fun hh => ?_) <;> first | (exfalso; omega) | (conv => whnf)) | (refine bEq (fun hh => ?_) (fun hh => ?_) <;> first | (exfalso; omega) | (conv => whnf)) | (refine bNe (fun hh => ?_) (fun hh => ?_) <;> first | (exfalso; omega) | (conv => whnf)) | (refine wIn (by omega) ?_; conv => whnf) | (refine nI (by omega) ?_; conv => whnf)))
  refine hc.callwq [0] rfl rfl ⟨rfl, trivial⟩ rfl rfl rfl rfl (fun r outs hr => ?_)
  obtain ⟨hr1, l', hp, hs, ho⟩ := hr
  subst hr1; subst ho
  refine ⟨⟨rfl, rfl, rfl, rfl⟩, ?_⟩
  (conv => whnf); (repeat' (first | (refine bT ?_; conv => whnf) | (refine bF ?_; conv => whnf) | (refine bN ?_) | (refine bD (fun hh => ?_) (fun hh => ?_) <;> first | (exfalso; omega) | (conv => whnf)) | (refine bEq (fun hh => ?_) (fun hh => ?_) <;> first | (exfalso; omega) | (conv => whnf)) | (refine bNe (fun hh => ?_) (fun hh => ?_) <;> first | (exfalso; omega) | (conv => whnf)) | (refine wIn (by omega) ?_; conv => whnf) | (refine nI (by omega) ?_; conv => whnf)))
  all_goals exact ⟨rfl, l', hp, hs, rfl⟩
theorem g69 (l : List Nat) (hn : l.length ≤ 12) : FnW Tryz.prog 67 [.row 0] [.row false 3 1 (l.map n1)] (srtA l) := by
  refine fnW 0 [] ok67 (by simp) rfl rfl ?_
  have hL : (l.map n1).length = l.length := by simp
  have hw : IntKind.u64.wrap ((l.map n1).length : Int) = (l.length : Nat) := by
    rw [hL]
    have : l.length = 0 ∨ l.length = 1 ∨ l.length = 2 ∨ l.length = 3 ∨ l.length = 4 ∨ l.length = 5 ∨ l.length = 6 ∨ l.length = 7 ∨ l.length = 8 ∨ l.length = 9 ∨ l.length = 10 ∨ l.length = 11 ∨ l.length = 12 := by omega
    rcases this with h | h | h | h | h | h | h | h | h | h | h | h | h <;> rw [h] <;> decide
  (conv => whnf); (repeat' (first | (refine bT ?_; conv => whnf) | (refine bF ?_; conv => whnf) | (refine bN ?_) | (refine bD (fun hh => ?_) (fun hh => ?_) <;> first | (exfalso; omega) | (conv => whnf)) | (refine bEq (fun hh => ?_) (fun hh => ?_) <;> first | (exfalso; omega) | (conv => whnf)) | (refine bNe (fun hh => ?_) (fun hh => ?_) <;> first | (exfalso; omega) | (conv => whnf)) | (refine wEq hw ?_; conv => whnf) | (refine wIn (by omega) ?_; conv => whnf) | (refine nI (by omega) ?_; conv => whnf)))
  refine (g96 l.length hn).callq rfl rfl (fun r ⟨b, hb, hr⟩ => ?_); subst hr
  (conv => whnf); (repeat' (first | (refine bT ?_; conv => whnf) | (refine bF ?_; conv => whnf) | (refine bN ?_) | (refine bD (fun hh => ?_) (fun hh => ?_) <;> first | (exfalso; omega) | (conv => whnf)) | (refine bEq (fun hh => ?_) (fun hh => ?_) <;> first | (exfalso; omega) | (conv => whnf)) | (refine bNe (fun hh => ?_) (fun hh => ?_) <;> first | (exfalso; omega) | (conv => whnf)) | (refine wIn (by omega) ?_; conv => whnf) | (refine nI (by omega) ?_; conv => whnf)))
  have hc := g95 l b hn
  rw [← hL] at hc
  refine hc.callwq [0] rfl rfl ⟨rfl, trivial⟩ rfl rfl rfl rfl (fun r outs hr => ?_)
  obtain ⟨hr1, l', hp, hs, ho⟩ := hr
  subst hr1; subst ho
  refine ⟨⟨rfl, rfl, rfl, rfl⟩, ?_⟩
  (conv => whnf); (repeat' (first | (refine bT ?_; conv => whnf) | (refine bF ?_; conv => whnf) | (refine bN ?_) | (refine bD (fun hh => ?_) (fun hh => ?_) <;> first | (exfalso; omega) | (conv => whnf)) | (refine bEq (fun hh => ?_) (fun hh => ?_) <;> first | (exfalso; omega) | (conv => whnf)) | (refine bNe (fun hh => ?_) (fun hh => ?_) <;> first | (exfalso; omega) | (conv => whnf)) | (refine wIn (by omega) ?_; conv => whnf) | (refine nI (by omega) ?_; conv => whnf)))
  all_goals exact ⟨rfl, l', hp, hs, rfl⟩
theorem g68 (t : Tr) (g : Gu) : FnA Tryz.prog 66 [.agg t.cells, .agg g.av] (· = .fn 81 [.ipt t.cells, .ipt g.av]) := by
  refine fnA 2 ok66 (by simp) ?_
  (conv => whnf); (repeat' (first | (refine bT ?_; conv => whnf) | (refine bF ?_; conv => whnf) | (refine bN ?_) | (refine bD (fun hh => ?_) (fun hh => ?_) <;> first | (exfalso; omega) | (conv => whnf)) | (refine bEq (fun hh => ?_) (fun hh => ?_) <;> first | (exfalso; omega) | (conv => whnf)) | (refine bNe (fun hh => ?_) (fun hh => ?_) <;> first | (exfalso; omega) | (conv => whnf)) | (refine wIn (by omega) ?_; conv => whnf) | (refine nI (by omega) ?_; conv => whnf)))
  all_goals rfl

def Tr.acc (t : Tr) (g : Gu) : Nat → List Nat
  | 0 => []
  | k + 1 => t.acc g k ++ t.go g (t.G g k)
theorem acc_mem (t : Tr) (g : Gu) : ∀ k i, i ∈ t.acc g k ↔ i < t.ss.length ∧ (t.G g k).getD i false = true
  | 0, i => by
    simp only [Tr.acc, Tr.G, List.not_mem_nil, false_iff]
    rintro ⟨h, h2⟩
    rw [List.getD_eq_getElem?_getD, List.getElem?_replicate, if_pos h] at h2; simp at h2
  | k + 1, i => by
    simp only [Tr.acc, List.mem_append, acc_mem t g k i, go_mem]
    show _ ↔ _ ∧ (t.stp g (t.G g k)).getD i false = true
    by_cases h : i < t.ss.length
    · rw [stp_get h]; simp [h]
    · simp [h]
theorem go_nodup (t : Tr) (g : Gu) (gs : List Bool) : (t.go g gs).Nodup := List.nodup_range.filter _
theorem acc_nodup (t : Tr) (g : Gu) : ∀ k, (t.acc g k).Nodup
  | 0 => List.nodup_nil
  | k + 1 => by
    unfold Tr.acc
    rw [List.nodup_append]
    refine ⟨acc_nodup t g k, go_nodup t g _, fun a ha b hb e => ?_⟩
    subst e
    have h1 := (acc_mem t g k a).1 ha
    have h2 := go_mem.1 hb
    rw [cond_new h2.2] at h1; exact absurd h1.2 (by simp)
/-- all that are gone at the end -/
def Tr.gone (t : Tr) (g : Gu) : List Nat := lst t.ss.length fun i => (t.G g (t.K g)).getD i false
theorem lst_nodup (n : Nat) (p : Nat → Bool) : (lst n p).Nodup := List.nodup_range.filter _
theorem acc_perm (t : Tr) (g : Gu) (k : Nat) : (t.acc g k).Perm (lst t.ss.length fun i => (t.G g k).getD i false) := by
  rw [List.perm_ext_iff_of_nodup (acc_nodup t g k) (lst_nodup _ _)]
  intro a; rw [acc_mem, lst_mem]
theorem acc_le (t : Tr) (g : Gu) (k : Nat) : (t.acc g k).length ≤ t.ss.length := by rw [(acc_perm t g k).length_eq]; exact lst_le _ _
theorem lst_sorted (n : Nat) (p : Nat → Bool) : (lst n p).Pairwise (· ≤ ·) := (List.pairwise_le_range).sublist List.filter_sublist
theorem srt_lst {l l' : List Nat} {n : Nat} {p : Nat → Bool} (h1 : l'.Perm l) (h2 : Srt l.length l') (h3 : l.Perm (lst n p)) : l' = lst n p := by
  refine List.Perm.eq_of_pairwise (le := fun a b => a ≤ b) (fun a b _ _ h1 h2 => Nat.le_antisymm h1 h2) ?_ (lst_sorted n p) (h1.trans h3)
  rw [List.pairwise_iff_getElem]
  intro i j hi hj hij
  have := h2 i j hij (by rw [← h1.length_eq]; exact hj)
  rwa [List.getD_eq_getElem?_getD, List.getD_eq_getElem?_getD, List.getElem?_eq_getElem hi, List.getElem?_eq_getElem hj] at this
theorem g43 (t : Tr) (g : Gu) (h : t.ok) (hg : g.ok t.ss.length) : FnO Tryz.prog 37 [.agg t.cells, .agg g.av] (fun r rows => r = .row 4 ∧ rows = [(4, .row false 3 1 ((t.gone g).map n1))]) := by
  have hl := h.2.1
  have hylen : (t.ys g).length = t.K g := by simp [Tr.ys]
  refine fnO 5 ok37 (by simp) ?_
  (conv => whnf); (repeat' (first | (refine bT ?_; conv => whnf) | (refine bF ?_; conv => whnf) | (refine bN ?_) | (refine bD (fun hh => ?_) (fun hh => ?_) <;> first | (exfalso; omega) | (conv => whnf)) | (refine bEq (fun hh => ?_) (fun hh => ?_) <;> first | (exfalso; omega) | (conv => whnf)) | (refine bNe (fun hh => ?_) (fun hh => ?_) <;> first | (exfalso; omega) | (conv => whnf)) | (refine (g68 t g).callzq rfl rfl (fun r (hr : r = _) => ?_); subst hr; conv => whnf) | (refine wIn (by omega) ?_; conv => whnf) | (refine nI (by omega) ?_; conv => whnf)))
  refine rng_i (α := Nat) (t.ys g) [0, 1, 2] [(5, .own 2 0), (3, .own 1 0), (2, .own 0 0)] (fun k => [.box false t.cells, .box false g.av, .box false [.row 4], .fresh, .row false 3 1 ((t.acc g k).map n1)])
    (fun k k' => k' = k) 0 rfl rfl rfl bd81 (i92 t g h hg) rfl (meets_nil 4 (by (repeat' apply And.intro) <;> first | rfl | exact True.intro | (intro hh; cases hh))) rfl rfl (fun v hv => by obtain ⟨q, _, rfl⟩ := List.mem_map.1 hv; rfl) ?_ ?_
  · rintro k v k' hv rfl
    have hk : k' < t.K g := by rw [← hylen]; exact (List.getElem?_eq_some_iff.1 hv).1
    rw [ys_get hk] at hv
    obtain rfl := Option.some.inj hv
    have hle := acc_le t g k'
    have hle2 : (t.go g (t.G g k')).length ≤ t.ss.length := lst_le _ _
    (conv => whnf); (repeat' (first | (refine bT ?_; conv => whnf) | (refine bF ?_; conv => whnf) | (refine bN ?_) | (refine bD (fun hh => ?_) (fun hh => ?_) <;> first | (exfalso; omega) | (conv => whnf)) | (refine bEq (fun hh => ?_) (fun hh => ?_) <;> first | (exfalso; omega) | (conv => whnf)) | (refine bNe (fun hh => ?_) (fun hh => ?_) <;> first | (exfalso; omega) | (conv => whnf)) | (refine wIn (by omega) ?_; conv => whnf) | (refine nI (by omega) ?_; conv => whnf)))
    refine apI (by simp [AV.one, n1]) (by simp; omega) ?_
    (conv => whnf); (repeat' (first | (refine bT ?_; conv => whnf) | (refine bF ?_; conv => whnf) | (refine bN ?_) | (refine bD (fun hh => ?_) (fun hh => ?_) <;> first | (exfalso; omega) | (conv => whnf)) | (refine bEq (fun hh => ?_) (fun hh => ?_) <;> first | (exfalso; omega) | (conv => whnf)) | (refine bNe (fun hh => ?_) (fun hh => ?_) <;> first | (exfalso; omega) | (conv => whnf)) | (refine wIn (by omega) ?_; conv => whnf) | (refine nI (by omega) ?_; conv => whnf)))
    refine ⟨k' + 1, ?_, rfl⟩
    have e : (t.acc g (k' + 1)).map n1 = (t.acc g k').map n1 ++ (t.go g (t.G g k')).map n1 := by simp [Tr.acc]
    rw [e]
    exact (meets_ren 4 3 (by (repeat' apply And.intro) <;> first | rfl | exact True.intro | (intro hh; cases hh)))
  · rintro k rfl
    rw [hylen]
    have hle := acc_le t g (t.K g)
    (conv => whnf); (repeat' (first | (refine bT ?_; conv => whnf) | (refine bF ?_; conv => whnf) | (refine bN ?_) | (refine bD (fun hh => ?_) (fun hh => ?_) <;> first | (exfalso; omega) | (conv => whnf)) | (refine bEq (fun hh => ?_) (fun hh => ?_) <;> first | (exfalso; omega) | (conv => whnf)) | (refine bNe (fun hh => ?_) (fun hh => ?_) <;> first | (exfalso; omega) | (conv => whnf)) | (refine wIn (by omega) ?_; conv => whnf) | (refine nI (by omega) ?_; conv => whnf)))
    have hc := g69 (t.acc g (t.K g)) (by omega)
    refine hc.callwq [4] rfl rfl ⟨rfl, trivial⟩ rfl rfl rfl rfl (fun r outs hr => ?_)
    obtain ⟨hr1, l', hp, hs, ho⟩ := hr
    subst hr1; subst ho
    have := srt_lst hp hs (acc_perm t g (t.K g))
    subst this
    refine ⟨⟨rfl, rfl, rfl, rfl⟩, ?_⟩
    (conv => whnf); (repeat' (first | (refine bT ?_; conv => whnf) | (refine bF ?_; conv => whnf) | (refine bN ?_) | (refine bD (fun hh => ?_) (fun hh => ?_) <;> first | (exfalso; omega) | (conv => whnf)) | (refine bEq (fun hh => ?_) (fun hh => ?_) <;> first | (exfalso; omega) | (conv => whnf)) | (refine bNe (fun hh => ?_) (fun hh => ?_) <;> first | (exfalso; omega) | (conv => whnf)) | (refine wIn (by omega) ?_; conv => whnf) | (refine nI (by omega) ?_; conv => whnf)))
    all_goals exact ⟨rfl, rfl⟩

def Tr.tw (t : Tr) (g : Gu) (i : Nat) : Bool := decide (t.ss.getD i 0 < t.ld g i)
def Tr.weak (t : Tr) (g : Gu) : List Nat := lst t.ss.length (t.tw g)
theorem g53 (t : Tr) (g : Gu) (i : Nat) (h : t.ok) (hg : g.ok t.ss.length) (h1 : i < t.ss.length) : FnA Tryz.prog 48 [.agg t.cells, .agg g.av, .int .i64 i] (· = .bool (t.tw g i)) := by
  have hL2 : (t.ss.map i1).length = t.ss.length := by simp
  refine fnA 2 ok48 (by simp) ?_
  (conv => whnf); (repeat' (first | (refine bT ?_; conv => whnf) | (refine bF ?_; conv => whnf) | (refine bN ?_) | (refine bD (fun hh => ?_) (fun hh => ?_) <;> first | (exfalso; omega) | (conv => whnf)) | (refine bEq (fun hh => ?_) (fun hh => ?_) <;> first | (exfalso; omega) | (conv => whnf)) | (refine bNe (fun hh => ?_) (fun hh => ?_) <;> first | (exfalso; omega) | (conv => whnf)) | (refine wIn (by omega) ?_; conv => whnf) | (refine nI (by omega) ?_; conv => whnf)))
  refine iaI (by omega) (by omega) (getD_mapD i1 t.ss _ 0 (by omega)) ?_
  simp only [Int.toNat_natCast]
  (conv => whnf); (repeat' (first | (refine bT ?_; conv => whnf) | (refine bF ?_; conv => whnf) | (refine bN ?_) | (refine bD (fun hh => ?_) (fun hh => ?_) <;> first | (exfalso; omega) | (conv => whnf)) | (refine bEq (fun hh => ?_) (fun hh => ?_) <;> first | (exfalso; omega) | (conv => whnf)) | (refine bNe (fun hh => ?_) (fun hh => ?_) <;> first | (exfalso; omega) | (conv => whnf)) | (refine (g42 t g _ h hg (by omega) (by omega)).callq rfl rfl (fun r (hr : r = _) => ?_); subst hr; conv => whnf) | (refine wIn (by omega) ?_; conv => whnf) | (refine nI (by omega) ?_; conv => whnf)))
  all_goals rfl
theorem g72 (t : Tr) (g : Gu) (i : Nat) (h : t.ok) (hg : g.ok t.ss.length) (h1 : i < t.ss.length) : FnA Tryz.prog 71 [.int .i64 i, .ipt t.cells, .ipt g.av] (· = .bool (t.tw g i)) := by
  refine fnA 0 ok71 (by simp) ?_
  (conv => whnf); (repeat' (first | (refine bT ?_; conv => whnf) | (refine bF ?_; conv => whnf) | (refine bN ?_) | (refine bD (fun hh => ?_) (fun hh => ?_) <;> first | (exfalso; omega) | (conv => whnf)) | (refine bEq (fun hh => ?_) (fun hh => ?_) <;> first | (exfalso; omega) | (conv => whnf)) | (refine bNe (fun hh => ?_) (fun hh => ?_) <;> first | (exfalso; omega) | (conv => whnf)) | (refine (g53 t g i h hg h1).callq rfl rfl (fun r (hr : r = _) => ?_); subst hr; conv => whnf) | (refine wIn (by omega) ?_; conv => whnf) | (refine nI (by omega) ?_; conv => whnf)))
  all_goals rfl
theorem g45 (t : Tr) (g : Gu) (h : t.ok) (hg : g.ok t.ss.length) : FnO Tryz.prog 43 [.agg t.cells, .agg g.av] (fun r rows => r = .row 2 ∧ rows = [(2, .row false 3 1 ((t.weak g).map n1))]) := by
  have hl := h.2.1
  have hL2 : (t.ss.map i1).length = t.ss.length := by simp
  refine fnO 3 ok43 (by simp) ?_
  (conv => whnf); (repeat' (first | (refine bT ?_; conv => whnf) | (refine bF ?_; conv => whnf) | (refine bN ?_) | (refine bD (fun hh => ?_) (fun hh => ?_) <;> first | (exfalso; omega) | (conv => whnf)) | (refine bEq (fun hh => ?_) (fun hh => ?_) <;> first | (exfalso; omega) | (conv => whnf)) | (refine bNe (fun hh => ?_) (fun hh => ?_) <;> first | (exfalso; omega) | (conv => whnf)) | (refine wIn (by omega) ?_; conv => whnf) | (refine nI (by omega) ?_; conv => whnf)))
  have hc : FnO Tryz.prog 44 [.int .i64 (t.ss.map i1).length, .fn 71 [.ipt t.cells, .ipt g.av]] (fun r' rows => r' = .row 3 ∧ rows = [(3, .row false 3 1 ((t.weak g).map n1))]) := by
    have := g49_2 (t.ss.map i1).length 71 t.cells g.av (t.tw g) (by omega) (fun i hi => fnV_of bd71 (g72 t g i h hg (by omega)))
    rwa [show lst (t.ss.map i1).length (t.tw g) = t.weak g from by rw [hL2]; rfl] at this
  refine hc.callmq rfl (fun r' rows (hr : r' = _ ∧ rows = _) => ?_); obtain ⟨hr1, hr2⟩ := hr; subst hr1; subst hr2
  refine ⟨rfl, by simp [flatRB, n1_flat], rfl, ?_⟩
  (conv => whnf); (repeat' (first | (refine bT ?_; conv => whnf) | (refine bF ?_; conv => whnf) | (refine bN ?_) | (refine bD (fun hh => ?_) (fun hh => ?_) <;> first | (exfalso; omega) | (conv => whnf)) | (refine bEq (fun hh => ?_) (fun hh => ?_) <;> first | (exfalso; omega) | (conv => whnf)) | (refine bNe (fun hh => ?_) (fun hh => ?_) <;> first | (exfalso; omega) | (conv => whnf)) | (refine wIn (by omega) ?_; conv => whnf) | (refine nI (by omega) ?_; conv => whnf)))
  all_goals exact ⟨rfl, rfl⟩
theorem g71 (t : Tr) (g : Gu) (h : t.ok) (hg : g.ok t.ss.length) : FnA Tryz.prog 70 [.agg g.av, .ipt t.cells] (· = .bool (t.weak g).isEmpty) := by
  refine fnA 2 ok70 (by simp) ?_
  (conv => whnf); (repeat' (first | (refine bT ?_; conv => whnf) | (refine bF ?_; conv => whnf) | (refine bN ?_) | (refine bD (fun hh => ?_) (fun hh => ?_) <;> first | (exfalso; omega) | (conv => whnf)) | (refine bEq (fun hh => ?_) (fun hh => ?_) <;> first | (exfalso; omega) | (conv => whnf)) | (refine bNe (fun hh => ?_) (fun hh => ?_) <;> first | (exfalso; omega) | (conv => whnf)) | (refine wIn (by omega) ?_; conv => whnf) | (refine nI (by omega) ?_; conv => whnf)))
  refine (g45 t g h hg).callmq rfl (fun r' rows (hr : r' = _ ∧ rows = _) => ?_); obtain ⟨hr1, hr2⟩ := hr; subst hr1; subst hr2
  refine ⟨rfl, by simp [flatRB, n1_flat], rfl, ?_⟩
  (conv => whnf); (repeat' (first | (refine bT ?_; conv => whnf) | (refine bF ?_; conv => whnf) | (refine bN ?_) | (refine bD (fun hh => ?_) (fun hh => ?_) <;> first | (exfalso; omega) | (conv => whnf)) | (refine bEq (fun hh => ?_) (fun hh => ?_) <;> first | (exfalso; omega) | (conv => whnf)) | (refine bNe (fun hh => ?_) (fun hh => ?_) <;> first | (exfalso; omega) | (conv => whnf)) | (refine wIn (by omega) ?_; conv => whnf) | (refine nI (by omega) ?_; conv => whnf)))
  all_goals (congr 1; cases t.weak g <;> simp <;> omega)
theorem gtake_all {α : Type} {l : List α} {p : α → Bool} {k : Nat} (hk : k < l.length) (h : ∀ g ∈ l.take k, p g = true) (h2 : p l[k] = true) : ∀ g ∈ l.take (k + 1), p g = true := by
  intro g hg
  rw [List.take_succ_eq_append_getElem hk, List.mem_append] at hg
  rcases hg with hg | hg
  · exact h g hg
  · simp at hg; rw [hg]; exact h2
theorem all_false {α : Type} {l : List α} {p : α → Bool} {k : Nat} (hk : k < l.length) (h2 : p l[k] = false) : l.all p = false := by
  rw [Bool.eq_false_iff]; intro h; rw [List.all_eq_true] at h
  have := h _ (List.getElem_mem hk); rw [h2] at this; cases this
theorem g70 (l : List Gu) (f : FuncId) (c : List AV) (p : Gu → Bool) (hn : l.length ≤ 1000) (h : ∀ g ∈ l, FnV Tryz.prog (.fn f [.ipt c]) [.agg g.av] (· = .bool (p g))) :
    FnA Tryz.prog 69 [.isl (l.map Gu.av), .fn f [.ipt c]] (· = .bool (l.all p)) := by
  have hL : (l.map Gu.av).length = l.length := by simp
  refine fnA 1 ok69 (by simp) ?_
  conv => whnf
  refine loop_i (α := Nat) (fun k => [(9, .int .i64 k), (8, .int .i64 (l.map Gu.av).length), (7, .isl (l.map Gu.av)), (1, .fn f [.ipt c])]) (fun _ => [.fresh]) (fun k => k ≤ l.length ∧ ∀ g ∈ l.take k, p g = true) (fun k => l.length - k) 0 (meets_id (by (repeat' apply And.intro) <;> first | rfl | exact True.intro | (intro hh; cases hh))) ⟨by omega, by simp⟩ ?_
  rintro k ⟨hk, hp⟩
  conv => whnf
  refine bD (fun h3 => ?_) (fun h3 => ?_)
  · have hlt : k < l.length := by omega
    have hv := h l[k] (List.getElem_mem hlt)
    (conv => whnf); (repeat' (first | (refine bT ?_; conv => whnf) | (refine bF ?_; conv => whnf) | (refine bN ?_) | (refine bD (fun hh => ?_) (fun hh => ?_) <;> first | (exfalso; omega) | (conv => whnf)) | (refine bEq (fun hh => ?_) (fun hh => ?_) <;> first | (exfalso; omega) | (conv => whnf)) | (refine bNe (fun hh => ?_) (fun hh => ?_) <;> first | (exfalso; omega) | (conv => whnf)) | (refine iaI (by omega) (by omega) (getD_map Gu.av l k hlt) ?_; conv => whnf) | (refine wIn (by omega) ?_; conv => whnf) | (refine nI (by omega) ?_; conv => whnf)))
    refine hv.vcallq rfl rfl rfl rfl (fun r (hr : r = _) => ?_); subst hr
    conv => whnf
    refine bS (fun h4 => ?_) (fun h4 => ?_)
    · (conv => whnf); (repeat' (first | (refine bT ?_; conv => whnf) | (refine bF ?_; conv => whnf) | (refine bN ?_) | (refine bD (fun hh => ?_) (fun hh => ?_) <;> first | (exfalso; omega) | (conv => whnf)) | (refine bEq (fun hh => ?_) (fun hh => ?_) <;> first | (exfalso; omega) | (conv => whnf)) | (refine bNe (fun hh => ?_) (fun hh => ?_) <;> first | (exfalso; omega) | (conv => whnf)) | (refine wIn (by omega) ?_; conv => whnf) | (refine nI (by omega) ?_; conv => whnf)))
      all_goals (congr 1; exact (all_false hlt (by simpa using h4)).symm)
    · (conv => whnf); (repeat' (first | (refine bT ?_; conv => whnf) | (refine bF ?_; conv => whnf) | (refine bN ?_) | (refine bD (fun hh => ?_) (fun hh => ?_) <;> first | (exfalso; omega) | (conv => whnf)) | (refine bEq (fun hh => ?_) (fun hh => ?_) <;> first | (exfalso; omega) | (conv => whnf)) | (refine bNe (fun hh => ?_) (fun hh => ?_) <;> first | (exfalso; omega) | (conv => whnf)) | (refine wIn (by omega) ?_; conv => whnf) | (refine nI (by omega) ?_; conv => whnf)))
      refine ⟨k + 1, ?_, ⟨by omega, gtake_all hlt hp (by simpa using h4)⟩, by omega⟩
      simp only [Int.natCast_add, Int.natCast_one]
      exact (meets_id (by (repeat' apply And.intro) <;> first | rfl | exact True.intro | (intro hh; cases hh)))
  · have : k = l.length := by omega
    subst this
    (conv => whnf); (repeat' (first | (refine bT ?_; conv => whnf) | (refine bF ?_; conv => whnf) | (refine bN ?_) | (refine bD (fun hh => ?_) (fun hh => ?_) <;> first | (exfalso; omega) | (conv => whnf)) | (refine bEq (fun hh => ?_) (fun hh => ?_) <;> first | (exfalso; omega) | (conv => whnf)) | (refine bNe (fun hh => ?_) (fun hh => ?_) <;> first | (exfalso; omega) | (conv => whnf)) | (refine wIn (by omega) ?_; conv => whnf) | (refine nI (by omega) ?_; conv => whnf)))
    all_goals (rw [List.take_length] at hp; congr 1; exact (List.all_eq_true.2 hp).symm)
theorem g44 (t : Tr) (l : List Gu) (h : t.ok) (hn : l.length ≤ 1000) (hl : ∀ g ∈ l, g.ok t.ss.length) : FnA Tryz.prog 41 [.agg t.cells, .isl (l.map Gu.av)] (· = .bool (l.all fun g => (t.weak g).isEmpty)) := by
  refine fnA 1 ok41 (by simp) ?_
  have hc := g70 l 70 t.cells (fun g => (t.weak g).isEmpty) hn (fun g hg => fnV_of bd70 (g71 t g h (hl g hg)))
  (conv => whnf); (repeat' (first | (refine bT ?_; conv => whnf) | (refine bF ?_; conv => whnf) | (refine bN ?_) | (refine bD (fun hh => ?_) (fun hh => ?_) <;> first | (exfalso; omega) | (conv => whnf)) | (refine bEq (fun hh => ?_) (fun hh => ?_) <;> first | (exfalso; omega) | (conv => whnf)) | (refine bNe (fun hh => ?_) (fun hh => ?_) <;> first | (exfalso; omega) | (conv => whnf)) | (refine (hc).lendq rfl (fun r (hr : r = _) => ?_); subst hr; refine ⟨rfl, ?_⟩; conv => whnf) | (refine wIn (by omega) ?_; conv => whnf) | (refine nI (by omega) ?_; conv => whnf)))
  all_goals rfl
/-- whether some gust of a class is too strong for a rib -/
theorem g52 (t : Tr) (g : Gu) (i : Nat) (h : t.ok) (hg : g.ok t.ss.length) (h1 : i < t.ss.length) : FnA Tryz.prog 47 [.agg g.av, .ipt t.cells, .ipt [.int .i64 i]] (· = .bool (t.tw g i)) := by
  refine fnA 1 ok47 (by simp) ?_
  (conv => whnf); (repeat' (first | (refine bT ?_; conv => whnf) | (refine bF ?_; conv => whnf) | (refine bN ?_) | (refine bD (fun hh => ?_) (fun hh => ?_) <;> first | (exfalso; omega) | (conv => whnf)) | (refine bEq (fun hh => ?_) (fun hh => ?_) <;> first | (exfalso; omega) | (conv => whnf)) | (refine bNe (fun hh => ?_) (fun hh => ?_) <;> first | (exfalso; omega) | (conv => whnf)) | (refine (g53 t g i h hg h1).callq rfl rfl (fun r (hr : r = _) => ?_); subst hr; conv => whnf) | (refine wIn (by omega) ?_; conv => whnf) | (refine nI (by omega) ?_; conv => whnf)))
  all_goals rfl
theorem g73 (l : List Gu) (f : FuncId) (c1 c2 : List AV) (p : Gu → Bool) (hn : l.length ≤ 1000) (h : ∀ g ∈ l, FnV Tryz.prog (.fn f [.ipt c1, .ipt c2]) [.agg g.av] (· = .bool (p g))) :
    FnA Tryz.prog 72 [.isl (l.map Gu.av), .fn f [.ipt c1, .ipt c2]] (fun r => ∃ k : Int, r = .int .i64 k ∧ -1 ≤ k ∧ k ≤ 1000 ∧ decide (0 ≤ k) = l.any p) := by
  have hL : (l.map Gu.av).length = l.length := by simp
  refine fnA 0 ok72 (by simp) ?_
  conv => whnf
  refine loop_i (α := Nat) (fun k => [(8, .int .i64 k), (7, .int .i64 (l.map Gu.av).length), (1, .fn f [.ipt c1, .ipt c2]), (0, .isl (l.map Gu.av))]) (fun _ => []) (fun k => k ≤ l.length ∧ ∀ g ∈ l.take k, (!p g) = true) (fun k => l.length - k) 0 (meets_id (by (repeat' apply And.intro) <;> first | rfl | exact True.intro | (intro hh; cases hh))) ⟨by omega, by simp⟩ ?_
  rintro k ⟨hk, hp⟩
  conv => whnf
  refine bD (fun h3 => ?_) (fun h3 => ?_)
  · have hlt : k < l.length := by omega
    have hv := h l[k] (List.getElem_mem hlt)
    (conv => whnf); (repeat' (first | (refine bT ?_; conv => whnf) | (refine bF ?_; conv => whnf) | (refine bN ?_) | (refine bD (fun hh => ?_) (fun hh => ?_) <;> first | (exfalso; omega) | (conv => whnf)) | (refine bEq (fun hh => ?_) (fun hh => ?_) <;> first | (exfalso; omega) | (conv => whnf)) | (refine bNe (fun hh => ?_) (fun hh => ?_) <;> first | (exfalso; omega) | (conv => whnf)) | (refine iaI (by omega) (by omega) (getD_map Gu.av l k hlt) ?_; conv => whnf) | (refine wIn (by omega) ?_; conv => whnf) | (refine nI (by omega) ?_; conv => whnf)))
    refine hv.vcallq rfl rfl rfl rfl (fun r (hr : r = _) => ?_); subst hr
    conv => whnf
    refine bS (fun h4 => ?_) (fun h4 => ?_)
    · (conv => whnf); (repeat' (first | (refine bT ?_; conv => whnf) | (refine bF ?_; conv => whnf) | (refine bN ?_) | (refine bD (fun hh => ?_) (fun hh => ?_) <;> first | (exfalso; omega) | (conv => whnf)) | (refine bEq (fun hh => ?_) (fun hh => ?_) <;> first | (exfalso; omega) | (conv => whnf)) | (refine bNe (fun hh => ?_) (fun hh => ?_) <;> first | (exfalso; omega) | (conv => whnf)) | (refine wIn (by omega) ?_; conv => whnf) | (refine nI (by omega) ?_; conv => whnf)))
      all_goals exact ⟨k, rfl, by omega, by omega, by rw [List.any_eq_true.2 ⟨_, List.getElem_mem hlt, h4⟩]; simp⟩
    · (conv => whnf); (repeat' (first | (refine bT ?_; conv => whnf) | (refine bF ?_; conv => whnf) | (refine bN ?_) | (refine bD (fun hh => ?_) (fun hh => ?_) <;> first | (exfalso; omega) | (conv => whnf)) | (refine bEq (fun hh => ?_) (fun hh => ?_) <;> first | (exfalso; omega) | (conv => whnf)) | (refine bNe (fun hh => ?_) (fun hh => ?_) <;> first | (exfalso; omega) | (conv => whnf)) | (refine wIn (by omega) ?_; conv => whnf) | (refine nI (by omega) ?_; conv => whnf)))
      refine ⟨k + 1, ?_, ⟨by omega, gtake_all hlt hp (by rw [h4]; rfl)⟩, by omega⟩
      simp only [Int.natCast_add, Int.natCast_one]
      exact (meets_id (by (repeat' apply And.intro) <;> first | rfl | exact True.intro | (intro hh; cases hh)))
  · have : k = l.length := by omega
    subst this
    rw [List.take_length] at hp
    (conv => whnf); (repeat' (first | (refine bT ?_; conv => whnf) | (refine bF ?_; conv => whnf) | (refine bN ?_) | (refine bD (fun hh => ?_) (fun hh => ?_) <;> first | (exfalso; omega) | (conv => whnf)) | (refine bEq (fun hh => ?_) (fun hh => ?_) <;> first | (exfalso; omega) | (conv => whnf)) | (refine bNe (fun hh => ?_) (fun hh => ?_) <;> first | (exfalso; omega) | (conv => whnf)) | (refine wIn (by omega) ?_; conv => whnf) | (refine nI (by omega) ?_; conv => whnf)))
    all_goals exact ⟨-1, rfl, by omega, by omega, by
      have : l.any p = false := by
        rw [List.any_eq_false]; intro x hx; have := hp x hx; simpa using this
      rw [this]; rfl⟩
theorem g51 (l : List Gu) (f : FuncId) (c1 c2 : List AV) (p : Gu → Bool) (hn : l.length ≤ 1000) (h : ∀ g ∈ l, FnV Tryz.prog (.fn f [.ipt c1, .ipt c2]) [.agg g.av] (· = .bool (p g))) :
    FnA Tryz.prog 46 [.isl (l.map Gu.av), .fn f [.ipt c1, .ipt c2]] (· = .bool (l.any p)) := by
  refine fnA 0 ok46 (by simp) ?_
  (conv => whnf); (repeat' (first | (refine bT ?_; conv => whnf) | (refine bF ?_; conv => whnf) | (refine bN ?_) | (refine bD (fun hh => ?_) (fun hh => ?_) <;> first | (exfalso; omega) | (conv => whnf)) | (refine bEq (fun hh => ?_) (fun hh => ?_) <;> first | (exfalso; omega) | (conv => whnf)) | (refine bNe (fun hh => ?_) (fun hh => ?_) <;> first | (exfalso; omega) | (conv => whnf)) | (refine wIn (by omega) ?_; conv => whnf) | (refine nI (by omega) ?_; conv => whnf)))
  refine (g73 l f c1 c2 p hn h).callq rfl rfl (fun r ⟨k, hr, h1, h2, h3⟩ => ?_); subst hr
  (conv => whnf); (repeat' (first | (refine bT ?_; conv => whnf) | (refine bF ?_; conv => whnf) | (refine bN ?_) | (refine bD (fun hh => ?_) (fun hh => ?_) <;> first | (exfalso; omega) | (conv => whnf)) | (refine bEq (fun hh => ?_) (fun hh => ?_) <;> first | (exfalso; omega) | (conv => whnf)) | (refine bNe (fun hh => ?_) (fun hh => ?_) <;> first | (exfalso; omega) | (conv => whnf)) | (refine wIn (by omega) ?_; conv => whnf) | (refine nI (by omega) ?_; conv => whnf)))
  all_goals (congr 1)
theorem g50 (t : Tr) (l : List Gu) (i : Nat) (h : t.ok) (hn : l.length ≤ 1000) (hl : ∀ g ∈ l, g.ok t.ss.length) (h1 : i < t.ss.length) : FnA Tryz.prog 45 [.int .i64 i, .ipt [.isl (l.map Gu.av)], .ipt t.cells] (· = .bool (l.any fun g => t.tw g i)) := by
  refine fnA 1 ok45 (by simp) ?_
  have hc := g51 l 47 t.cells [.int .i64 i] (fun g => t.tw g i) hn (fun g hg => fnV_of bd47 (g52 t g i h (hl g hg) h1))
  (conv => whnf); (repeat' (first | (refine bT ?_; conv => whnf) | (refine bF ?_; conv => whnf) | (refine bN ?_) | (refine bD (fun hh => ?_) (fun hh => ?_) <;> first | (exfalso; omega) | (conv => whnf)) | (refine bEq (fun hh => ?_) (fun hh => ?_) <;> first | (exfalso; omega) | (conv => whnf)) | (refine bNe (fun hh => ?_) (fun hh => ?_) <;> first | (exfalso; omega) | (conv => whnf)) | (refine (hc).lendq rfl (fun r (hr : r = _) => ?_); subst hr; refine ⟨rfl, ?_⟩; conv => whnf) | (refine wIn (by omega) ?_; conv => whnf) | (refine nI (by omega) ?_; conv => whnf)))
  all_goals rfl

def s2 (p : Int × Int) : List AV := [.int .i64 p.1, .int .i64 p.2]
structure Dm where
  f : Frm
  rs : List (Int × Int)
  sh : List Int
def Dm.cells (d : Dm) : List AV := [.isl (d.f.ss.map Sec.av), .int .i64 d.f.lo, .int .i64 d.f.hi, .int .i64 d.f.en, .int .i64 d.f.ed, .int .i64 d.f.rod, .int .i64 d.f.cs, .isl (d.rs.map s2), .isl (d.sh.map i1)]
def okRib (p : Int × Int) : Prop := (0 ≤ p.1 ∧ p.1 ≤ p.2) ∧ p.2 ≤ 99999
instance (p : Int × Int) : Decidable (okRib p) := by unfold okRib; infer_instance
def okSh (x : Int) : Prop := 0 ≤ x ∧ x ≤ 99
instance (x : Int) : Decidable (okSh x) := by unfold okSh; infer_instance
def Dm.okB (d : Dm) : Bool := decide d.f.ok && (decide (3 ≤ d.rs.length) && decide (d.rs.length ≤ 10)) && (d.rs.all fun p => decide (okRib p)) && decide (d.sh.length = d.rs.length) && d.sh.all fun x => decide (okSh x)
instance (g : Gu) (n : Nat) : Decidable (g.ok n) := by unfold Gu.ok; infer_instance
def okGu (n : Nat) (g : Gu) : Bool := decide (g.ok n)

theorem g86 (n lo hi : Int) : FnA Tryz.prog 51 [.int .i64 n, .int .i64 lo, .int .i64 hi] (· = .bool (decide (lo ≤ n ∧ n ≤ hi))) := by
  refine fnA 2 ok51 (by simp) ?_
  (conv => whnf); (repeat' (first | (refine bT ?_; conv => whnf) | (refine bF ?_; conv => whnf) | (refine bN ?_) | (refine bD (fun hh => ?_) (fun hh => ?_) <;> first | (exfalso; omega) | (conv => whnf)) | (refine bEq (fun hh => ?_) (fun hh => ?_) <;> first | (exfalso; omega) | (conv => whnf)) | (refine bNe (fun hh => ?_) (fun hh => ?_) <;> first | (exfalso; omega) | (conv => whnf)) | (refine wIn (by omega) ?_; conv => whnf) | (refine nI (by omega) ?_; conv => whnf)))
  all_goals first | rfl | exact congrArg AV.bool (decide_eq_decide.2 (by omega)) | exact congrArg AV.bool (decide_eq_true (by omega)).symm | exact congrArg AV.bool (decide_eq_false (by omega)).symm
theorem g88 (p : Int × Int) : FnA Tryz.prog 53 [.agg (s2 p)] (· = .bool (decide (okRib p))) := by
  refine fnA 2 ok53 (by simp) ?_
  unfold okRib
  (conv => whnf); (repeat' (first | (refine bT ?_; conv => whnf) | (refine bF ?_; conv => whnf) | (refine bN ?_) | (refine bD (fun hh => ?_) (fun hh => ?_) <;> first | (exfalso; omega) | (conv => whnf)) | (refine bEq (fun hh => ?_) (fun hh => ?_) <;> first | (exfalso; omega) | (conv => whnf)) | (refine bNe (fun hh => ?_) (fun hh => ?_) <;> first | (exfalso; omega) | (conv => whnf)) | (refine (g86 _ _ _).callq rfl rfl (fun r (hr : r = _) => ?_); subst hr; conv => whnf) | (refine wIn (by omega) ?_; conv => whnf) | (refine nI (by omega) ?_; conv => whnf)))
  all_goals first | rfl | exact congrArg AV.bool (decide_eq_decide.2 (by omega)) | exact congrArg AV.bool (decide_eq_true (by omega)).symm | exact congrArg AV.bool (decide_eq_false (by omega)).symm
theorem g90 (x : Int) : FnA Tryz.prog 55 [.int .i64 x] (· = .bool (decide (okSh x))) := by
  refine fnA 2 ok55 (by simp) ?_
  unfold okSh
  (conv => whnf); (repeat' (first | (refine bT ?_; conv => whnf) | (refine bF ?_; conv => whnf) | (refine bN ?_) | (refine bD (fun hh => ?_) (fun hh => ?_) <;> first | (exfalso; omega) | (conv => whnf)) | (refine bEq (fun hh => ?_) (fun hh => ?_) <;> first | (exfalso; omega) | (conv => whnf)) | (refine bNe (fun hh => ?_) (fun hh => ?_) <;> first | (exfalso; omega) | (conv => whnf)) | (refine (g86 _ _ _).callq rfl rfl (fun r (hr : r = _) => ?_); subst hr; conv => whnf) | (refine wIn (by omega) ?_; conv => whnf) | (refine nI (by omega) ?_; conv => whnf)))
  all_goals first | rfl | exact congrArg AV.bool (decide_eq_decide.2 (by omega)) | exact congrArg AV.bool (decide_eq_true (by omega)).symm | exact congrArg AV.bool (decide_eq_false (by omega)).symm
theorem g91 (d : Dm) (g : Gu) (hn : d.rs.length ≤ 1000) : FnA Tryz.prog 79 [.agg g.av, .ipt d.cells] (· = .bool (okGu d.rs.length g)) := by
  have hL : (d.rs.map s2).length = d.rs.length := by simp
  refine fnA 2 ok79 (by simp) ?_
  unfold okGu Gu.ok
  (conv => whnf); (repeat' (first | (refine bT ?_; conv => whnf) | (refine bF ?_; conv => whnf) | (refine bN ?_) | (refine bD (fun hh => ?_) (fun hh => ?_) <;> first | (exfalso; omega) | (conv => whnf)) | (refine bEq (fun hh => ?_) (fun hh => ?_) <;> first | (exfalso; omega) | (conv => whnf)) | (refine bNe (fun hh => ?_) (fun hh => ?_) <;> first | (exfalso; omega) | (conv => whnf)) | (refine (g86 _ _ _).callq rfl rfl (fun r (hr : r = _) => ?_); subst hr; conv => whnf) | (refine wIn (by omega) ?_; conv => whnf) | (refine nI (by omega) ?_; conv => whnf)))
  all_goals first | rfl | exact congrArg AV.bool (decide_eq_decide.2 (by omega)) | exact congrArg AV.bool (decide_eq_true (by omega)).symm | exact congrArg AV.bool (decide_eq_false (by omega)).symm
theorem g87 (l : List (Int × Int)) (hn : l.length ≤ 1000) : FnA Tryz.prog 52 [.isl (l.map s2), .fn 53 []] (· = .bool (l.all fun p => decide (okRib p))) := by
  have hL : (l.map s2).length = l.length := by simp
  refine fnA 1 ok52 (by simp) ?_
  conv => whnf
  refine loop_i (α := Nat) (fun k => [(9, .int .i64 k), (8, .int .i64 (l.map s2).length), (7, .isl (l.map s2)), (1, .fn 53 [])]) (fun _ => [.fresh]) (fun k => k ≤ l.length ∧ ∀ g ∈ l.take k, decide (okRib g) = true) (fun k => l.length - k) 0 (meets_id (by (repeat' apply And.intro) <;> first | rfl | exact True.intro | (intro hh; cases hh))) ⟨by omega, by simp⟩ ?_
  rintro k ⟨hk, hp⟩
  conv => whnf
  refine bD (fun h3 => ?_) (fun h3 => ?_)
  · have hlt : k < l.length := by omega
    have hv : FnV Tryz.prog (.fn 53 []) [.agg (s2 l[k])] (· = .bool (decide (okRib l[k]))) := fnV_of bd53 (g88 l[k])
    (conv => whnf); (repeat' (first | (refine bT ?_; conv => whnf) | (refine bF ?_; conv => whnf) | (refine bN ?_) | (refine bD (fun hh => ?_) (fun hh => ?_) <;> first | (exfalso; omega) | (conv => whnf)) | (refine bEq (fun hh => ?_) (fun hh => ?_) <;> first | (exfalso; omega) | (conv => whnf)) | (refine bNe (fun hh => ?_) (fun hh => ?_) <;> first | (exfalso; omega) | (conv => whnf)) | (refine iaI (by omega) (by omega) (getD_map s2 l k hlt) ?_; conv => whnf) | (refine wIn (by omega) ?_; conv => whnf) | (refine nI (by omega) ?_; conv => whnf)))
    refine hv.vcallq rfl rfl rfl rfl (fun r (hr : r = _) => ?_); subst hr
    conv => whnf
    refine bS (fun h4 => ?_) (fun h4 => ?_)
    · (conv => whnf); (repeat' (first | (refine bT ?_; conv => whnf) | (refine bF ?_; conv => whnf) | (refine bN ?_) | (refine bD (fun hh => ?_) (fun hh => ?_) <;> first | (exfalso; omega) | (conv => whnf)) | (refine bEq (fun hh => ?_) (fun hh => ?_) <;> first | (exfalso; omega) | (conv => whnf)) | (refine bNe (fun hh => ?_) (fun hh => ?_) <;> first | (exfalso; omega) | (conv => whnf)) | (refine wIn (by omega) ?_; conv => whnf) | (refine nI (by omega) ?_; conv => whnf)))
      all_goals (congr 1; exact (all_false (p := fun p => decide (okRib p)) hlt (by simpa using h4)).symm)
    · (conv => whnf); (repeat' (first | (refine bT ?_; conv => whnf) | (refine bF ?_; conv => whnf) | (refine bN ?_) | (refine bD (fun hh => ?_) (fun hh => ?_) <;> first | (exfalso; omega) | (conv => whnf)) | (refine bEq (fun hh => ?_) (fun hh => ?_) <;> first | (exfalso; omega) | (conv => whnf)) | (refine bNe (fun hh => ?_) (fun hh => ?_) <;> first | (exfalso; omega) | (conv => whnf)) | (refine wIn (by omega) ?_; conv => whnf) | (refine nI (by omega) ?_; conv => whnf)))
      refine ⟨k + 1, ?_, ⟨by omega, gtake_all (p := fun p => decide (okRib p)) hlt hp (by simpa using h4)⟩, by omega⟩
      simp only [Int.natCast_add, Int.natCast_one]
      exact (meets_id (by (repeat' apply And.intro) <;> first | rfl | exact True.intro | (intro hh; cases hh)))
  · have : k = l.length := by omega
    subst this
    (conv => whnf); (repeat' (first | (refine bT ?_; conv => whnf) | (refine bF ?_; conv => whnf) | (refine bN ?_) | (refine bD (fun hh => ?_) (fun hh => ?_) <;> first | (exfalso; omega) | (conv => whnf)) | (refine bEq (fun hh => ?_) (fun hh => ?_) <;> first | (exfalso; omega) | (conv => whnf)) | (refine bNe (fun hh => ?_) (fun hh => ?_) <;> first | (exfalso; omega) | (conv => whnf)) | (refine wIn (by omega) ?_; conv => whnf) | (refine nI (by omega) ?_; conv => whnf)))
    all_goals (rw [List.take_length] at hp; congr 1; exact (List.all_eq_true.2 hp).symm)
theorem g89 (l : List Int) (hn : l.length ≤ 1000) : FnA Tryz.prog 54 [.isl (l.map i1), .fn 55 []] (· = .bool (l.all fun p => decide (okSh p))) := by
  have hL : (l.map i1).length = l.length := by simp
  refine fnA 1 ok54 (by simp) ?_
  conv => whnf
  refine loop_i (α := Nat) (fun k => [(9, .int .i64 k), (8, .int .i64 (l.map i1).length), (7, .isl (l.map i1)), (1, .fn 55 [])]) (fun _ => [.fresh]) (fun k => k ≤ l.length ∧ ∀ g ∈ l.take k, decide (okSh g) = true) (fun k => l.length - k) 0 (meets_id (by (repeat' apply And.intro) <;> first | rfl | exact True.intro | (intro hh; cases hh))) ⟨by omega, by simp⟩ ?_
  rintro k ⟨hk, hp⟩
  conv => whnf
  refine bD (fun h3 => ?_) (fun h3 => ?_)
  · have hlt : k < l.length := by omega
    have hv : FnV Tryz.prog (.fn 55 []) [.int .i64 l[k]] (· = .bool (decide (okSh l[k]))) := fnV_of bd55 (g90 l[k])
    (conv => whnf); (repeat' (first | (refine bT ?_; conv => whnf) | (refine bF ?_; conv => whnf) | (refine bN ?_) | (refine bD (fun hh => ?_) (fun hh => ?_) <;> first | (exfalso; omega) | (conv => whnf)) | (refine bEq (fun hh => ?_) (fun hh => ?_) <;> first | (exfalso; omega) | (conv => whnf)) | (refine bNe (fun hh => ?_) (fun hh => ?_) <;> first | (exfalso; omega) | (conv => whnf)) | (refine iaI (by omega) (by omega) (getD_map i1 l k hlt) ?_; conv => whnf) | (refine wIn (by omega) ?_; conv => whnf) | (refine nI (by omega) ?_; conv => whnf)))
    refine hv.vcallq rfl rfl rfl rfl (fun r (hr : r = _) => ?_); subst hr
    conv => whnf
    refine bS (fun h4 => ?_) (fun h4 => ?_)
    · (conv => whnf); (repeat' (first | (refine bT ?_; conv => whnf) | (refine bF ?_; conv => whnf) | (refine bN ?_) | (refine bD (fun hh => ?_) (fun hh => ?_) <;> first | (exfalso; omega) | (conv => whnf)) | (refine bEq (fun hh => ?_) (fun hh => ?_) <;> first | (exfalso; omega) | (conv => whnf)) | (refine bNe (fun hh => ?_) (fun hh => ?_) <;> first | (exfalso; omega) | (conv => whnf)) | (refine wIn (by omega) ?_; conv => whnf) | (refine nI (by omega) ?_; conv => whnf)))
      all_goals (congr 1; exact (all_false (p := fun p => decide (okSh p)) hlt (by simpa using h4)).symm)
    · (conv => whnf); (repeat' (first | (refine bT ?_; conv => whnf) | (refine bF ?_; conv => whnf) | (refine bN ?_) | (refine bD (fun hh => ?_) (fun hh => ?_) <;> first | (exfalso; omega) | (conv => whnf)) | (refine bEq (fun hh => ?_) (fun hh => ?_) <;> first | (exfalso; omega) | (conv => whnf)) | (refine bNe (fun hh => ?_) (fun hh => ?_) <;> first | (exfalso; omega) | (conv => whnf)) | (refine wIn (by omega) ?_; conv => whnf) | (refine nI (by omega) ?_; conv => whnf)))
      refine ⟨k + 1, ?_, ⟨by omega, gtake_all (p := fun p => decide (okSh p)) hlt hp (by simpa using h4)⟩, by omega⟩
      simp only [Int.natCast_add, Int.natCast_one]
      exact (meets_id (by (repeat' apply And.intro) <;> first | rfl | exact True.intro | (intro hh; cases hh)))
  · have : k = l.length := by omega
    subst this
    (conv => whnf); (repeat' (first | (refine bT ?_; conv => whnf) | (refine bF ?_; conv => whnf) | (refine bN ?_) | (refine bD (fun hh => ?_) (fun hh => ?_) <;> first | (exfalso; omega) | (conv => whnf)) | (refine bEq (fun hh => ?_) (fun hh => ?_) <;> first | (exfalso; omega) | (conv => whnf)) | (refine bNe (fun hh => ?_) (fun hh => ?_) <;> first | (exfalso; omega) | (conv => whnf)) | (refine wIn (by omega) ?_; conv => whnf) | (refine nI (by omega) ?_; conv => whnf)))
    all_goals (rw [List.take_length] at hp; congr 1; exact (List.all_eq_true.2 hp).symm)
theorem g64 (d : Dm) (hn : d.rs.length ≤ 1000) (hs : d.sh.length ≤ 1000) : FnA Tryz.prog 28 [.agg d.cells] (· = .bool d.okB) := by
  have hL : (d.rs.map s2).length = d.rs.length := by simp
  have hL2 : (d.sh.map i1).length = d.sh.length := by simp
  have c1 := g87 d.rs hn
  have c2 := g89 d.sh hs
  unfold Dm.okB
  generalize (d.rs.all fun p => decide (okRib p)) = B1 at c1 ⊢
  generalize (d.sh.all fun x => decide (okSh x)) = B2 at c2 ⊢
  refine fnA 1 ok28 (by simp) ?_
  by_cases hok : d.f.ok
  · have hk := k14 d.f
    rw [if_pos hok] at hk
    (conv => whnf); (repeat' (first | (refine bT ?_; conv => whnf) | (refine bF ?_; conv => whnf) | (refine bN ?_) | (refine bD (fun hh => ?_) (fun hh => ?_) <;> first | (exfalso; omega) | (conv => whnf)) | (refine bEq (fun hh => ?_) (fun hh => ?_) <;> first | (exfalso; omega) | (conv => whnf)) | (refine bNe (fun hh => ?_) (fun hh => ?_) <;> first | (exfalso; omega) | (conv => whnf)) | (refine (hk).callq rfl rfl (fun r (hr : r = _) => ?_); subst hr; conv => whnf) | (refine (g86 _ _ _).callq rfl rfl (fun r (hr : r = _) => ?_); subst hr; conv => whnf) | (refine (c1).callq rfl rfl (fun r (hr : r = _) => ?_); subst hr; conv => whnf) | (refine (c2).callq rfl rfl (fun r (hr : r = _) => ?_); subst hr; conv => whnf) | (refine wIn (by omega) ?_; conv => whnf) | (refine nI (by omega) ?_; conv => whnf) | (refine bS (fun hh => ?_) (fun hh => ?_) <;> (conv => whnf))))
    all_goals (clear c1 c2 hk; cases B1 <;> cases B2 <;> simp_all <;> omega)
  · have hk := k14 d.f
    rw [if_neg hok] at hk
    (conv => whnf); (repeat' (first | (refine bT ?_; conv => whnf) | (refine bF ?_; conv => whnf) | (refine bN ?_) | (refine bD (fun hh => ?_) (fun hh => ?_) <;> first | (exfalso; omega) | (conv => whnf)) | (refine bEq (fun hh => ?_) (fun hh => ?_) <;> first | (exfalso; omega) | (conv => whnf)) | (refine bNe (fun hh => ?_) (fun hh => ?_) <;> first | (exfalso; omega) | (conv => whnf)) | (refine (hk).callq rfl rfl (fun r (hr : r = _) => ?_); subst hr; conv => whnf) | (refine wIn (by omega) ?_; conv => whnf) | (refine nI (by omega) ?_; conv => whnf)))
    all_goals (simp [hok])

theorem okB_iff {d : Dm} : d.okB = true ↔ d.f.ok ∧ (3 ≤ d.rs.length ∧ d.rs.length ≤ 10) ∧ (∀ p ∈ d.rs, okRib p) ∧ d.sh.length = d.rs.length ∧ ∀ x ∈ d.sh, okSh x := by
  unfold Dm.okB
  simp only [Bool.and_eq_true, decide_eq_true_eq, List.all_eq_true, and_assoc]
def Dm.err (d : Dm) : Int := if d.okB then 0 else 50
theorem g39 (d : Dm) (hn : d.rs.length ≤ 1000) (hs : d.sh.length ≤ 1000) : FnA Tryz.prog 8 [.agg d.cells] (· = .int .i64 d.err) := by
  have hc := g64 d hn hs
  unfold Dm.err
  refine fnA 1 ok8 (by simp) ?_
  cases hb : d.okB <;> rw [hb] at hc
  · (conv => whnf); (repeat' (first | (refine bT ?_; conv => whnf) | (refine bF ?_; conv => whnf) | (refine bN ?_) | (refine bD (fun hh => ?_) (fun hh => ?_) <;> first | (exfalso; omega) | (conv => whnf)) | (refine bEq (fun hh => ?_) (fun hh => ?_) <;> first | (exfalso; omega) | (conv => whnf)) | (refine bNe (fun hh => ?_) (fun hh => ?_) <;> first | (exfalso; omega) | (conv => whnf)) | (refine (hc).callq rfl rfl (fun r (hr : r = _) => ?_); subst hr; conv => whnf) | (refine wIn (by omega) ?_; conv => whnf) | (refine nI (by omega) ?_; conv => whnf)))
    all_goals simp
  · (conv => whnf); (repeat' (first | (refine bT ?_; conv => whnf) | (refine bF ?_; conv => whnf) | (refine bN ?_) | (refine bD (fun hh => ?_) (fun hh => ?_) <;> first | (exfalso; omega) | (conv => whnf)) | (refine bEq (fun hh => ?_) (fun hh => ?_) <;> first | (exfalso; omega) | (conv => whnf)) | (refine bNe (fun hh => ?_) (fun hh => ?_) <;> first | (exfalso; omega) | (conv => whnf)) | (refine (hc).callq rfl rfl (fun r (hr : r = _) => ?_); subst hr; conv => whnf) | (refine wIn (by omega) ?_; conv => whnf) | (refine nI (by omega) ?_; conv => whnf)))
    all_goals simp
def okCl (n : Nat) (l : List Gu) : Bool := decide (l.length ≤ 20) && l.all (okGu n)
def Dm.errC (d : Dm) (l : List Gu) : Int := if d.okB then (if okCl d.rs.length l then 0 else 1) else 50
theorem g66 (d : Dm) (l : List Gu) (hn : d.rs.length ≤ 1000) (hs : d.sh.length ≤ 1000) : FnA Tryz.prog 63 [.agg d.cells, .isl (l.map Gu.av)] (· = .int .i64 (d.errC l)) := by
  have hL : (l.map Gu.av).length = l.length := by simp
  have hc := g39 d hn hs
  unfold Dm.err at hc
  unfold Dm.errC
  refine fnA 1 ok63 (by simp) ?_
  cases hb : d.okB <;> rw [hb] at hc
  · rw [if_neg (by simp)] at hc
    (conv => whnf); (repeat' (first | (refine bT ?_; conv => whnf) | (refine bF ?_; conv => whnf) | (refine bN ?_) | (refine bD (fun hh => ?_) (fun hh => ?_) <;> first | (exfalso; omega) | (conv => whnf)) | (refine bEq (fun hh => ?_) (fun hh => ?_) <;> first | (exfalso; omega) | (conv => whnf)) | (refine bNe (fun hh => ?_) (fun hh => ?_) <;> first | (exfalso; omega) | (conv => whnf)) | (refine (hc).callq rfl rfl (fun r (hr : r = _) => ?_); subst hr; conv => whnf) | (refine wIn (by omega) ?_; conv => whnf) | (refine nI (by omega) ?_; conv => whnf)))
    all_goals simp
  · rw [if_pos rfl] at hc
    by_cases h20 : l.length ≤ 20
    · have h70 := g70 l 79 d.cells (okGu d.rs.length) (by omega) (fun g hg => fnV_of bd79 (g91 d g hn))
      cases ha : l.all (okGu d.rs.length) <;> rw [ha] at h70
      · (conv => whnf); (repeat' (first | (refine bT ?_; conv => whnf) | (refine bF ?_; conv => whnf) | (refine bN ?_) | (refine bD (fun hh => ?_) (fun hh => ?_) <;> first | (exfalso; omega) | (conv => whnf)) | (refine bEq (fun hh => ?_) (fun hh => ?_) <;> first | (exfalso; omega) | (conv => whnf)) | (refine bNe (fun hh => ?_) (fun hh => ?_) <;> first | (exfalso; omega) | (conv => whnf)) | (refine (hc).callq rfl rfl (fun r (hr : r = _) => ?_); subst hr; conv => whnf) | (refine (h70).lendq rfl (fun r (hr : r = _) => ?_); subst hr; refine ⟨rfl, ?_⟩; conv => whnf) | (refine wIn (by omega) ?_; conv => whnf) | (refine nI (by omega) ?_; conv => whnf)))
        all_goals (unfold okCl; rw [ha]; simp)
      · (conv => whnf); (repeat' (first | (refine bT ?_; conv => whnf) | (refine bF ?_; conv => whnf) | (refine bN ?_) | (refine bD (fun hh => ?_) (fun hh => ?_) <;> first | (exfalso; omega) | (conv => whnf)) | (refine bEq (fun hh => ?_) (fun hh => ?_) <;> first | (exfalso; omega) | (conv => whnf)) | (refine bNe (fun hh => ?_) (fun hh => ?_) <;> first | (exfalso; omega) | (conv => whnf)) | (refine (hc).callq rfl rfl (fun r (hr : r = _) => ?_); subst hr; conv => whnf) | (refine (h70).lendq rfl (fun r (hr : r = _) => ?_); subst hr; refine ⟨rfl, ?_⟩; conv => whnf) | (refine wIn (by omega) ?_; conv => whnf) | (refine nI (by omega) ?_; conv => whnf)))
        all_goals (unfold okCl; rw [ha]; simp [h20])
    · (conv => whnf); (repeat' (first | (refine bT ?_; conv => whnf) | (refine bF ?_; conv => whnf) | (refine bN ?_) | (refine bD (fun hh => ?_) (fun hh => ?_) <;> first | (exfalso; omega) | (conv => whnf)) | (refine bEq (fun hh => ?_) (fun hh => ?_) <;> first | (exfalso; omega) | (conv => whnf)) | (refine bNe (fun hh => ?_) (fun hh => ?_) <;> first | (exfalso; omega) | (conv => whnf)) | (refine (hc).callq rfl rfl (fun r (hr : r = _) => ?_); subst hr; conv => whnf) | (refine wIn (by omega) ?_; conv => whnf) | (refine nI (by omega) ?_; conv => whnf)))
      all_goals (unfold okCl; simp [h20])
/-- the lift of a cosine -/
def lf (q : Int × Int) : Int := min (max 0 (100 * (q.2 + q.1)) / q.2) 200
theorem g65 (n e : Int) (hn : -100000000 ≤ n ∧ n ≤ 100000000) (he : 1 ≤ e ∧ e ≤ 100000000) : FnA Tryz.prog 60 [.agg [.int .i64 n, .int .i64 e]] (· = .int .i64 (lf (n, e))) := by
  have h0 : 0 ≤ max 0 (100 * (e + n)) := by omega
  have hd := Int.tdiv_eq_ediv_of_nonneg (b := e) h0
  have hq : 0 ≤ max 0 (100 * (e + n)) / e ∧ max 0 (100 * (e + n)) / e ≤ 20000000000 := by
    refine ⟨Int.ediv_nonneg h0 (by omega), ?_⟩
    refine Int.le_trans (Int.ediv_le_ediv (by omega) (show max 0 (100 * (e + n)) ≤ 20000000000 by omega)) ?_
    exact Int.ediv_le_self _ (by omega)
  have hr : -9223372036854775808 ≤ (max 0 (100 * (e + n))).tdiv e ∧ (max 0 (100 * (e + n))).tdiv e ≤ 9223372036854775807 := by rw [hd]; omega
  refine fnA 1 ok60 (by simp) ?_
  (conv => whnf); (repeat' (first | (refine bT ?_; conv => whnf) | (refine bF ?_; conv => whnf) | (refine bN ?_) | (refine bD (fun hh => ?_) (fun hh => ?_) <;> first | (exfalso; omega) | (conv => whnf)) | (refine bEq (fun hh => ?_) (fun hh => ?_) <;> first | (exfalso; omega) | (conv => whnf)) | (refine bNe (fun hh => ?_) (fun hh => ?_) <;> first | (exfalso; omega) | (conv => whnf)) | (refine wIn hr ?_; conv => whnf) | (refine wIn (by omega) ?_; conv => whnf) | (refine nI (by omega) ?_; conv => whnf)))
  all_goals (simp only [lf, if_true, Bool.false_eq_true, if_false]; rw [hd])
theorem lf_bd {q : Int × Int} (h : 1 ≤ q.2) : 0 ≤ lf q ∧ lf q ≤ 200 := by
  have : 0 ≤ max 0 (100 * (q.2 + q.1)) / q.2 := Int.ediv_nonneg (by omega) (by omega)
  unfold lf; omega
def rq (q : Int × Int) : Int × Int := (redN q.1 q.2, redD q.1 q.2)
/-- the section that comes first -/
def Frm.s0 (f : Frm) : Sec := f.ss.getD 0 default
def Frm.l0 (f : Frm) : Int := lf (rq (cosF f.s0 f.lo).1)
def Frm.l1 (f : Frm) : Int := lf (rq (cosF f.s0 f.lo).2)
theorem s0_ok {f : Frm} (h : f.ok) : f.s0.ok := by
  unfold Frm.s0
  have h1 := h.1
  rw [List.getD_eq_getElem?_getD, List.getElem?_eq_getElem (by omega)]
  exact h.2.2.1 _ (List.getElem_mem _)
theorem lo_bd {f : Frm} (h : f.ok) : 1 ≤ f.lo ∧ f.lo ≤ 6000 := by
  have := h.2.2.2.1; unfold okSpan at this; omega
theorem l01_bd {f : Frm} (h : f.ok) : (0 ≤ f.l0 ∧ f.l0 ≤ 200) ∧ 0 ≤ f.l1 ∧ f.l1 ≤ 200 := by
  have hb := cosF_bd (s0_ok h) (lo_bd h)
  exact ⟨lf_bd (red_bd hb.1.1 hb.1.2).2.1, lf_bd (red_bd hb.2.1 hb.2.2).2.1⟩
theorem g40 (f : Frm) (h : f.ok) : FnA Tryz.prog 31 [.agg f.cells] (· = .agg [.int .i64 f.l0, .int .i64 f.l1]) := by
  have hb := cosF_bd (s0_ok h) (lo_bd h)
  have b0 := red_bd hb.1.1 hb.1.2
  have b1 := red_bd hb.2.1 hb.2.2
  have hlo := lo_bd h
  have hs := h.2.2.2.1
  unfold okSpan at hs
  have h1 := h.1
  have hk := k18 f 0 f.lo (pos_zero h ⟨by simp, by omega⟩ ⟨by omega, by omega⟩)
  rw [dist_zero, if_neg (by omega)] at hk
  refine fnA 4 ok31 (by simp) ?_
  (conv => whnf); (repeat' (first | (refine bT ?_; conv => whnf) | (refine bF ?_; conv => whnf) | (refine bN ?_) | (refine bD (fun hh => ?_) (fun hh => ?_) <;> first | (exfalso; omega) | (conv => whnf)) | (refine bEq (fun hh => ?_) (fun hh => ?_) <;> first | (exfalso; omega) | (conv => whnf)) | (refine bNe (fun hh => ?_) (fun hh => ?_) <;> first | (exfalso; omega) | (conv => whnf)) | (refine (hk).callq rfl rfl (fun r (hr : r = _) => ?_); subst hr; conv => whnf) | (refine (g65 _ _ b0.1 b0.2).callq rfl rfl (fun r (hr : r = _) => ?_); subst hr; conv => whnf) | (refine (g65 _ _ b1.1 b1.2).callq rfl rfl (fun r (hr : r = _) => ?_); subst hr; conv => whnf) | (refine wIn (by omega) ?_; conv => whnf) | (refine nI (by omega) ?_; conv => whnf)))
  all_goals rfl

def Dm.best (d : Dm) : Tr := ⟨d.f.l0, d.rs.map (·.2), d.sh⟩
def Dm.worst (d : Dm) : Tr := ⟨d.f.l1, d.rs.map (·.1), d.sh⟩
theorem rib_mem {d : Dm} (h : d.okB = true) : ∀ p ∈ d.rs, okRib p := (okB_iff.1 h).2.2.1
theorem best_ok {d : Dm} (h : d.okB = true) : d.best.ok := by
  have h' := okB_iff.1 h
  have hl := l01_bd h'.1
  refine ⟨hl.1, by simp [Dm.best]; exact h'.2.1, by simp [Dm.best]; exact h'.2.2.2.1, h'.2.2.2.2, fun x hx => ?_⟩
  simp only [Dm.best, List.mem_map] at hx
  obtain ⟨p, hp, rfl⟩ := hx
  have := h'.2.2.1 p hp; unfold okRib at this; omega
theorem worst_ok {d : Dm} (h : d.okB = true) : d.worst.ok := by
  have h' := okB_iff.1 h
  have hl := l01_bd h'.1
  refine ⟨hl.2, by simp [Dm.worst]; exact h'.2.1, by simp [Dm.worst]; exact h'.2.2.2.1, h'.2.2.2.2, fun x hx => ?_⟩
  simp only [Dm.worst, List.mem_map] at hx
  obtain ⟨p, hp, rfl⟩ := hx
  have := h'.2.2.1 p hp; unfold okRib at this; omega
theorem g41e (d : Dm) (l : List Gu) (hn : d.rs.length ≤ 1000) (hs : d.sh.length ≤ 1000) (h : d.errC l ≠ 0) : FnA Tryz.prog 33 [.agg d.cells, .isl (l.map Gu.av)] (· = .tup [.agg [.int .i64 0, .isl [], .isl []], .agg [.int .i64 0, .isl [], .isl []], .int .i64 (d.errC l)]) := by
  have hc := g66 d l hn hs
  refine fnA 9 ok33 (by simp) ?_
  (conv => whnf); (repeat' (first | (refine bT ?_; conv => whnf) | (refine bF ?_; conv => whnf) | (refine bN ?_) | (refine bD (fun hh => ?_) (fun hh => ?_) <;> first | (exfalso; omega) | (conv => whnf)) | (refine bEq (fun hh => ?_) (fun hh => ?_) <;> first | (exfalso; omega) | (conv => whnf)) | (refine bNe (fun hh => ?_) (fun hh => ?_) <;> first | (exfalso; omega) | (conv => whnf)) | (refine (hc).callq rfl rfl (fun r (hr : r = _) => ?_); subst hr; conv => whnf) | (refine wIn (by omega) ?_; conv => whnf) | (refine nI (by omega) ?_; conv => whnf)))
  all_goals rfl
def rI (k : Nat) (l : List Int) : Nat × Res := (k, .row false 3 1 (l.map i1))
theorem take_mapsnoc {α β : Type} (f : α → β) (l : List α) (k : Nat) (h : k < l.length) : (l.take (k + 1)).map f = (l.take k).map f ++ [f l[k]] := by
  rw [List.take_succ_eq_append_getElem h, List.map_append]; rfl
theorem g41 (d : Dm) (l : List Gu) (hn : d.rs.length ≤ 1000) (hs : d.sh.length ≤ 1000) (h : d.errC l = 0) : FnO Tryz.prog 33 [.agg d.cells, .isl (l.map Gu.av)] (fun r rows => r = .tup [.agg [.int .i64 d.f.l0, .row 9, .isl (d.sh.map i1)], .agg [.int .i64 d.f.l1, .row 10, .isl (d.sh.map i1)], .int .i64 0] ∧ rows = [rI 9 d.best.ss, rI 10 d.worst.ss]) := by
  have hb : d.okB = true := by
    cases e : d.okB with
    | true => rfl
    | false => unfold Dm.errC at h; rw [e] at h; simp at h
  have h' := okB_iff.1 hb
  have hc := g66 d l hn hs
  rw [h] at hc
  have hL : (d.rs.map s2).length = d.rs.length := by simp
  refine fnO 11 ok33 (by simp) ?_
  (conv => whnf); (repeat' (first | (refine bT ?_; conv => whnf) | (refine bF ?_; conv => whnf) | (refine bN ?_) | (refine bD (fun hh => ?_) (fun hh => ?_) <;> first | (exfalso; omega) | (conv => whnf)) | (refine bEq (fun hh => ?_) (fun hh => ?_) <;> first | (exfalso; omega) | (conv => whnf)) | (refine bNe (fun hh => ?_) (fun hh => ?_) <;> first | (exfalso; omega) | (conv => whnf)) | (refine (hc).callq rfl rfl (fun r (hr : r = _) => ?_); subst hr; conv => whnf) | (refine (g40 d.f h'.1).callq rfl rfl (fun r (hr : r = _) => ?_); subst hr; conv => whnf) | (refine wIn (by omega) ?_; conv => whnf) | (refine nI (by omega) ?_; conv => whnf)))
  refine loop_i (α := Nat) (fun k => [(35, .int .i64 k), (34, .int .i64 (d.rs.map s2).length), (33, .isl (d.rs.map s2)), (5, .own 2 0), (4, .own 1 0)]) (fun k => [.fresh, .box false [.int .i64 d.f.l0, .row 9, .isl (d.sh.map i1)], .box false [.int .i64 d.f.l1, .row 10, .isl (d.sh.map i1)], .fresh, .fresh, .fresh, .fresh, .fresh, .fresh, .row false 3 1 (((d.rs.take k).map (·.2)).map i1), .row false 3 1 (((d.rs.take k).map (·.1)).map i1)]) (fun k => k ≤ d.rs.length) (fun k => d.rs.length - k) 0 (meets_as [(9, none), (10, none)] (by (repeat' apply And.intro) <;> first | rfl | exact True.intro | (intro hh; cases hh))) (by omega) ?_
  intro k hk
  conv => whnf
  refine bD (fun h3 => ?_) (fun h3 => ?_)
  · have hlt : k < d.rs.length := by omega
    have e1 := take_mapsnoc (·.2) d.rs k hlt
    have e2 := take_mapsnoc (·.1) d.rs k hlt
    have l1 : ((d.rs.take k).map (·.2)).length ≤ 1000 := by simp; omega
    have l2 : ((d.rs.take k).map (·.1)).length ≤ 1000 := by simp; omega
    (conv => whnf); (repeat' (first | (refine bT ?_; conv => whnf) | (refine bF ?_; conv => whnf) | (refine bN ?_) | (refine bD (fun hh => ?_) (fun hh => ?_) <;> first | (exfalso; omega) | (conv => whnf)) | (refine bEq (fun hh => ?_) (fun hh => ?_) <;> first | (exfalso; omega) | (conv => whnf)) | (refine bNe (fun hh => ?_) (fun hh => ?_) <;> first | (exfalso; omega) | (conv => whnf)) | (refine iaI (by omega) (by omega) (getD_map s2 d.rs k hlt) ?_; conv => whnf) | (refine wIn (by omega) ?_; conv => whnf) | (refine nI (by omega) ?_; conv => whnf)))
    refine apI (by simp [AV.one]) (by simp; omega) ?_
    (conv => whnf); (repeat' (first | (refine bT ?_; conv => whnf) | (refine bF ?_; conv => whnf) | (refine bN ?_) | (refine bD (fun hh => ?_) (fun hh => ?_) <;> first | (exfalso; omega) | (conv => whnf)) | (refine bEq (fun hh => ?_) (fun hh => ?_) <;> first | (exfalso; omega) | (conv => whnf)) | (refine bNe (fun hh => ?_) (fun hh => ?_) <;> first | (exfalso; omega) | (conv => whnf)) | (refine wIn (by omega) ?_; conv => whnf) | (refine nI (by omega) ?_; conv => whnf)))
    refine apI (by simp [AV.one]) (by simp; omega) ?_
    (conv => whnf); (repeat' (first | (refine bT ?_; conv => whnf) | (refine bF ?_; conv => whnf) | (refine bN ?_) | (refine bD (fun hh => ?_) (fun hh => ?_) <;> first | (exfalso; omega) | (conv => whnf)) | (refine bEq (fun hh => ?_) (fun hh => ?_) <;> first | (exfalso; omega) | (conv => whnf)) | (refine bNe (fun hh => ?_) (fun hh => ?_) <;> first | (exfalso; omega) | (conv => whnf)) | (refine wIn (by omega) ?_; conv => whnf) | (refine nI (by omega) ?_; conv => whnf)))
    refine ⟨k + 1, ?_, by omega, by omega⟩
    rw [e1, e2]
    simp only [Int.natCast_add, Int.natCast_one, List.map_append, List.map_cons, List.map_nil]
    exact (meets_as [(9, some 6), (10, some 8)] (by (repeat' apply And.intro) <;> first | rfl | exact True.intro | (intro hh; cases hh)))
  · have : k = d.rs.length := by omega
    subst this
    rw [List.take_length]
    (conv => whnf); (repeat' (first | (refine bT ?_; conv => whnf) | (refine bF ?_; conv => whnf) | (refine bN ?_) | (refine bD (fun hh => ?_) (fun hh => ?_) <;> first | (exfalso; omega) | (conv => whnf)) | (refine bEq (fun hh => ?_) (fun hh => ?_) <;> first | (exfalso; omega) | (conv => whnf)) | (refine bNe (fun hh => ?_) (fun hh => ?_) <;> first | (exfalso; omega) | (conv => whnf)) | (refine wIn (by omega) ?_; conv => whnf) | (refine nI (by omega) ?_; conv => whnf)))
    all_goals exact ⟨rfl, rfl⟩

theorem errC_ok {d : Dm} {l : List Gu} (h : d.errC l = 0) : d.okB = true ∧ okCl d.rs.length l = true := by
  unfold Dm.errC at h
  split at h
  · rename_i hb
    refine ⟨hb, ?_⟩
    split at h
    · assumption
    · cases h
  · cases h
theorem errC_zero {d : Dm} {l : List Gu} (h : d.okB = true) (h2 : okCl d.rs.length l = true) : d.errC l = 0 := by
  unfold Dm.errC; rw [if_pos h, if_pos h2]
theorem okCl_g {n : Nat} {l : List Gu} (h : okCl n l = true) : l.length ≤ 20 ∧ ∀ g ∈ l, g.ok n := by
  unfold okCl at h
  simp only [Bool.and_eq_true, decide_eq_true_eq, List.all_eq_true, okGu] at h
  exact h
theorem best_len (d : Dm) : d.best.ss.length = d.rs.length := by simp [Dm.best]
theorem worst_len (d : Dm) : d.worst.ss.length = d.rs.length := by simp [Dm.worst]
def Tr.stands (t : Tr) (l : List Gu) : Bool := l.all fun g => (t.weak g).isEmpty
def Dm.st (d : Dm) (l : List Gu) : Int := if d.worst.stands l then 1 else if d.best.stands l then 3 else 2

theorem g14 (d : Dm) (hn : d.rs.length ≤ 1000) (hs : d.sh.length ≤ 1000) (h : d.okB = true) : FnA Tryz.prog 10 [.agg d.cells] (· = .tup [.agg [.int .i64 d.f.l0, .int .i64 d.f.l1], .int .i64 0]) := by
  have hc := g39 d hn hs
  unfold Dm.err at hc
  rw [if_pos h] at hc
  refine fnA 2 ok10 (by simp) ?_
  (conv => whnf); (repeat' (first | (refine bT ?_; conv => whnf) | (refine bF ?_; conv => whnf) | (refine bN ?_) | (refine bD (fun hh => ?_) (fun hh => ?_) <;> first | (exfalso; omega) | (conv => whnf)) | (refine bEq (fun hh => ?_) (fun hh => ?_) <;> first | (exfalso; omega) | (conv => whnf)) | (refine bNe (fun hh => ?_) (fun hh => ?_) <;> first | (exfalso; omega) | (conv => whnf)) | (refine (hc).callq rfl rfl (fun r (hr : r = _) => ?_); subst hr; conv => whnf) | (refine (g40 d.f (okB_iff.1 h).1).callq rfl rfl (fun r (hr : r = _) => ?_); subst hr; conv => whnf) | (refine wIn (by omega) ?_; conv => whnf) | (refine nI (by omega) ?_; conv => whnf)))
  all_goals rfl
theorem g16 (d : Dm) (g : Gu) (hn : d.rs.length ≤ 1000) (hs : d.sh.length ≤ 1000) (h : d.errC [g] = 0) : FnO Tryz.prog 14 [.agg d.cells, .agg g.av] (fun r rows => r = .tup [.row 9, .row 10, .int .i64 0] ∧ rows = [(9, .row false 3 1 ((d.best.gone g).map n1)), (10, .row false 3 1 ((d.worst.gone g).map n1))]) := by
  obtain ⟨h1, h2⟩ := errC_ok h
  have hg := (okCl_g h2).2 g (by simp)
  refine fnO 11 ok14 (by simp) ?_
  (conv => whnf); (repeat' (first | (refine bT ?_; conv => whnf) | (refine bF ?_; conv => whnf) | (refine bN ?_) | (refine bD (fun hh => ?_) (fun hh => ?_) <;> first | (exfalso; omega) | (conv => whnf)) | (refine bEq (fun hh => ?_) (fun hh => ?_) <;> first | (exfalso; omega) | (conv => whnf)) | (refine bNe (fun hh => ?_) (fun hh => ?_) <;> first | (exfalso; omega) | (conv => whnf)) | (refine (g41 d [g] hn hs h).callzq rfl rfl (fun r rows (hr : r = _ ∧ rows = _) => ?_); obtain ⟨hr1, hr2⟩ := hr; subst hr1; subst hr2; refine ⟨rfl, ?_⟩; conv => whnf) | (refine (g43 d.best g (best_ok h1) (by rw [best_len]; exact hg)).callzq rfl rfl (fun r rows (hr : r = _ ∧ rows = _) => ?_); obtain ⟨hr1, hr2⟩ := hr; subst hr1; subst hr2; refine ⟨rfl, ?_⟩; conv => whnf) | (refine (g43 d.worst g (worst_ok h1) (by rw [worst_len]; exact hg)).callzq rfl rfl (fun r rows (hr : r = _ ∧ rows = _) => ?_); obtain ⟨hr1, hr2⟩ := hr; subst hr1; subst hr2; refine ⟨rfl, ?_⟩; conv => whnf) | (refine wIn (by omega) ?_; conv => whnf) | (refine nI (by omega) ?_; conv => whnf)))
  all_goals exact ⟨rfl, rfl⟩
theorem g17 (d : Dm) (l : List Gu) (hn : d.rs.length ≤ 1000) (hs : d.sh.length ≤ 1000) (h : d.errC l = 0) : FnA Tryz.prog 18 [.agg d.cells, .isl (l.map Gu.av)] (· = .tup [.int .i64 (d.st l), .int .i64 0]) := by
  obtain ⟨h1, h2⟩ := errC_ok h
  have hg := okCl_g h2
  have c1 := g44 d.worst l (worst_ok h1) (by omega) (by rw [worst_len]; exact hg.2)
  have c2 := g44 d.best l (best_ok h1) (by omega) (by rw [best_len]; exact hg.2)
  unfold Dm.st Tr.stands
  generalize (l.all fun g => (d.worst.weak g).isEmpty) = B1 at c1 ⊢
  generalize (l.all fun g => (d.best.weak g).isEmpty) = B2 at c2 ⊢
  refine fnA 7 ok18 (by simp) ?_
  cases B1
  · cases B2
    · (conv => whnf); (repeat' (first | (refine bT ?_; conv => whnf) | (refine bF ?_; conv => whnf) | (refine bN ?_) | (refine bD (fun hh => ?_) (fun hh => ?_) <;> first | (exfalso; omega) | (conv => whnf)) | (refine bEq (fun hh => ?_) (fun hh => ?_) <;> first | (exfalso; omega) | (conv => whnf)) | (refine bNe (fun hh => ?_) (fun hh => ?_) <;> first | (exfalso; omega) | (conv => whnf)) | (refine (g41 d l hn hs h).callzq rfl rfl (fun r rows (hr : r = _ ∧ rows = _) => ?_); obtain ⟨hr1, hr2⟩ := hr; subst hr1; subst hr2; refine ⟨rfl, ?_⟩; conv => whnf) | (refine (c1).lendq rfl (fun r (hr : r = _) => ?_); subst hr; refine ⟨rfl, ?_⟩; conv => whnf) | (refine (c2).lendq rfl (fun r (hr : r = _) => ?_); subst hr; refine ⟨rfl, ?_⟩; conv => whnf) | (refine wIn (by omega) ?_; conv => whnf) | (refine nI (by omega) ?_; conv => whnf)))
      all_goals rfl
    · (conv => whnf); (repeat' (first | (refine bT ?_; conv => whnf) | (refine bF ?_; conv => whnf) | (refine bN ?_) | (refine bD (fun hh => ?_) (fun hh => ?_) <;> first | (exfalso; omega) | (conv => whnf)) | (refine bEq (fun hh => ?_) (fun hh => ?_) <;> first | (exfalso; omega) | (conv => whnf)) | (refine bNe (fun hh => ?_) (fun hh => ?_) <;> first | (exfalso; omega) | (conv => whnf)) | (refine (g41 d l hn hs h).callzq rfl rfl (fun r rows (hr : r = _ ∧ rows = _) => ?_); obtain ⟨hr1, hr2⟩ := hr; subst hr1; subst hr2; refine ⟨rfl, ?_⟩; conv => whnf) | (refine (c1).lendq rfl (fun r (hr : r = _) => ?_); subst hr; refine ⟨rfl, ?_⟩; conv => whnf) | (refine (c2).lendq rfl (fun r (hr : r = _) => ?_); subst hr; refine ⟨rfl, ?_⟩; conv => whnf) | (refine wIn (by omega) ?_; conv => whnf) | (refine nI (by omega) ?_; conv => whnf)))
      all_goals rfl
  · (conv => whnf); (repeat' (first | (refine bT ?_; conv => whnf) | (refine bF ?_; conv => whnf) | (refine bN ?_) | (refine bD (fun hh => ?_) (fun hh => ?_) <;> first | (exfalso; omega) | (conv => whnf)) | (refine bEq (fun hh => ?_) (fun hh => ?_) <;> first | (exfalso; omega) | (conv => whnf)) | (refine bNe (fun hh => ?_) (fun hh => ?_) <;> first | (exfalso; omega) | (conv => whnf)) | (refine (g41 d l hn hs h).callzq rfl rfl (fun r rows (hr : r = _ ∧ rows = _) => ?_); obtain ⟨hr1, hr2⟩ := hr; subst hr1; subst hr2; refine ⟨rfl, ?_⟩; conv => whnf) | (refine (c1).lendq rfl (fun r (hr : r = _) => ?_); subst hr; refine ⟨rfl, ?_⟩; conv => whnf) | (refine wIn (by omega) ?_; conv => whnf) | (refine nI (by omega) ?_; conv => whnf)))
    all_goals rfl

def Dm.wk (d : Dm) (l : List Gu) : List Nat := lst d.rs.length fun i => l.any fun g => d.worst.tw g i
theorem g27 (d : Dm) (l : List Gu) (hn : d.rs.length ≤ 1000) (hs : d.sh.length ≤ 1000) (h : d.errC l = 0) : FnO Tryz.prog 24 [.agg d.cells, .isl (l.map Gu.av)] (fun r rows => r = .tup [.row 8, .int .i64 0] ∧ rows = [(8, .row false 3 1 ((d.wk l).map n1))]) := by
  obtain ⟨h1, h2⟩ := errC_ok h
  have hg := okCl_g h2
  have hL : (d.rs.map s2).length = d.rs.length := by simp
  refine fnO 9 ok24 (by simp) ?_
  (conv => whnf); (repeat' (first | (refine bT ?_; conv => whnf) | (refine bF ?_; conv => whnf) | (refine bN ?_) | (refine bD (fun hh => ?_) (fun hh => ?_) <;> first | (exfalso; omega) | (conv => whnf)) | (refine bEq (fun hh => ?_) (fun hh => ?_) <;> first | (exfalso; omega) | (conv => whnf)) | (refine bNe (fun hh => ?_) (fun hh => ?_) <;> first | (exfalso; omega) | (conv => whnf)) | (refine (g41 d l hn hs h).callzq rfl rfl (fun r rows (hr : r = _ ∧ rows = _) => ?_); obtain ⟨hr1, hr2⟩ := hr; subst hr1; subst hr2; refine ⟨rfl, ?_⟩; conv => whnf) | (refine wIn (by omega) ?_; conv => whnf) | (refine nI (by omega) ?_; conv => whnf)))
  have hc : FnO Tryz.prog 44 [.int .i64 (d.rs.map s2).length, .fn 45 [.ipt [.isl (l.map Gu.av)], .ipt d.worst.cells]] (fun r' rows => r' = .row 3 ∧ rows = [(3, .row false 3 1 ((d.wk l).map n1))]) := by
    have := g49_2 (d.rs.map s2).length 45 [.isl (l.map Gu.av)] d.worst.cells (fun i => l.any fun g => d.worst.tw g i) (by omega) (fun i hi => fnV_of bd45 (g50 d.worst l i (worst_ok h1) (by omega) (by rw [worst_len]; exact hg.2) (by rw [worst_len]; omega)))
    rwa [show lst (d.rs.map s2).length (fun i => l.any fun g => d.worst.tw g i) = d.wk l from by rw [hL]; rfl] at this
  refine hc.callmq rfl (fun r' rows (hr : r' = _ ∧ rows = _) => ?_); obtain ⟨hr1, hr2⟩ := hr; subst hr1; subst hr2
  refine ⟨rfl, by simp [flatRB, n1_flat], rfl, ?_⟩
  (conv => whnf); (repeat' (first | (refine bT ?_; conv => whnf) | (refine bF ?_; conv => whnf) | (refine bN ?_) | (refine bD (fun hh => ?_) (fun hh => ?_) <;> first | (exfalso; omega) | (conv => whnf)) | (refine bEq (fun hh => ?_) (fun hh => ?_) <;> first | (exfalso; omega) | (conv => whnf)) | (refine bNe (fun hh => ?_) (fun hh => ?_) <;> first | (exfalso; omega) | (conv => whnf)) | (refine wIn (by omega) ?_; conv => whnf) | (refine nI (by omega) ?_; conv => whnf)))
  all_goals exact ⟨rfl, rfl⟩
/-- the greatest force that is stood -/
def isMost (t : Tr) (a : Int) (F : Nat) : Prop := F ≤ 99 ∧ t.stands [⟨F, a⟩] = true ∧ ∀ F' : Nat, F < F' → F' ≤ 99 → t.stands [⟨F', a⟩] = false
theorem ss_nn {t : Tr} (h : t.ok) (i : Nat) : 0 ≤ t.ss.getD i 0 := by
  by_cases hi : i < t.ss.length
  · rw [List.getD_eq_getElem?_getD, List.getElem?_eq_getElem hi]; exact (h.2.2.2.2 _ (List.getElem_mem hi)).1
  · rw [List.getD_eq_getElem?_getD, List.getElem?_eq_none (by omega)]; simp
theorem ld_zero (t : Tr) (a : Int) (i : Int) : t.ld ⟨0, a⟩ i = 0 := by unfold Tr.ld; simp
theorem stands_zero {t : Tr} (h : t.ok) (a : Int) : t.stands [⟨0, a⟩] = true := by
  simp only [Tr.stands, List.all_cons, List.all_nil, Bool.and_true, List.isEmpty_iff]
  refine List.eq_nil_iff_forall_not_mem.2 fun i hi => ?_
  have := (lst_mem.1 hi).2
  unfold Tr.tw at this
  rw [ld_zero] at this
  have := ss_nn h i
  simp_all; omega
theorem g25 (d : Dm) (a : Int) (hn : d.rs.length ≤ 1000) (hs : d.sh.length ≤ 1000) (h : d.errC [⟨0, a⟩] = 0) : FnA Tryz.prog 22 [.agg d.cells, .int .i64 a] (fun r => ∃ F : Nat, isMost d.worst a F ∧ r = .tup [.int .i64 F, .int .i64 0]) := by
  obtain ⟨h1, h2⟩ := errC_ok h
  have hg := (okCl_g h2).2 ⟨0, a⟩ (by simp)
  refine fnA 9 ok22 (by simp) ?_
  (conv => whnf); (repeat' (first | (refine bT ?_; conv => whnf) | (refine bF ?_; conv => whnf) | (refine bN ?_) | (refine bD (fun hh => ?_) (fun hh => ?_) <;> first | (exfalso; omega) | (conv => whnf)) | (refine bEq (fun hh => ?_) (fun hh => ?_) <;> first | (exfalso; omega) | (conv => whnf)) | (refine bNe (fun hh => ?_) (fun hh => ?_) <;> first | (exfalso; omega) | (conv => whnf)) | (refine (g41 d [⟨0, a⟩] hn hs h).callzq rfl rfl (fun r rows (hr : r = _ ∧ rows = _) => ?_); obtain ⟨hr1, hr2⟩ := hr; subst hr1; subst hr2; refine ⟨rfl, ?_⟩; conv => whnf) | (refine wIn (by omega) ?_; conv => whnf) | (refine nI (by omega) ?_; conv => whnf)))
  refine loop_i (α := Nat) (fun k => [(9, .int .i64 k), (7, .own 7 0), (1, .int .i64 a)]) (fun k => [.fresh, .fresh, .fresh, .row false 3 1 (d.worst.ss.map i1), .fresh, .fresh, .fresh, .box false [.int .i64 d.f.l1, .row 3, .isl (d.sh.map i1)], .fresh]) (fun k => k ≤ 99 ∧ ∀ F' : Nat, k < F' → F' ≤ 99 → d.worst.stands [⟨F', a⟩] = false) (fun k => k) 99 (meets_id (by (repeat' apply And.intro) <;> first | rfl | exact True.intro | (intro hh; cases hh))) ⟨by omega, fun F' h3 h4 => by omega⟩ ?_
  rintro k ⟨hk, hp⟩
  have hgk : Gu.ok ⟨(k : Int), a⟩ d.rs.length := ⟨⟨by simp, by simp; omega⟩, hg.2⟩
  have hc := g44 d.worst [⟨k, a⟩] (worst_ok h1) (by simp) (by intro g hg'; simp at hg'; subst hg'; rw [worst_len]; exact hgk)
  change FnA Tryz.prog 41 _ (· = .bool (d.worst.stands [⟨k, a⟩])) at hc
  cases hb : d.worst.stands [⟨k, a⟩] <;> rw [hb] at hc
  · (conv => whnf); (repeat' (first | (refine bT ?_; conv => whnf) | (refine bF ?_; conv => whnf) | (refine bN ?_) | (refine bD (fun hh => ?_) (fun hh => ?_) <;> first | (exfalso; omega) | (conv => whnf)) | (refine bEq (fun hh => ?_) (fun hh => ?_) <;> first | (exfalso; omega) | (conv => whnf)) | (refine bNe (fun hh => ?_) (fun hh => ?_) <;> first | (exfalso; omega) | (conv => whnf)) | (refine (hc).lendq rfl (fun r (hr : r = _) => ?_); subst hr; refine ⟨rfl, ?_⟩; conv => whnf) | (refine wIn (by omega) ?_; conv => whnf) | (refine nI (by omega) ?_; conv => whnf)))
    obtain ⟨k, rfl⟩ : ∃ j, k = j + 1 := ⟨k - 1, by
      cases k with
      | zero => rw [show ((0 : Nat) : Int) = 0 from rfl, stands_zero (worst_ok h1)] at hb; cases hb
      | succ j => rfl⟩
    have e : ((k + 1 : Nat) : Int) - 1 = k := by omega
    refine ⟨k, ?_, ⟨by omega, fun F' h3 h4 => ?_⟩, by omega⟩
    · rw [e]; exact (meets_id (by (repeat' apply And.intro) <;> first | rfl | exact True.intro | (intro hh; cases hh)))
    · by_cases h5 : F' = k + 1
      · subst h5; exact hb
      · exact hp F' (by omega) h4
  · (conv => whnf); (repeat' (first | (refine bT ?_; conv => whnf) | (refine bF ?_; conv => whnf) | (refine bN ?_) | (refine bD (fun hh => ?_) (fun hh => ?_) <;> first | (exfalso; omega) | (conv => whnf)) | (refine bEq (fun hh => ?_) (fun hh => ?_) <;> first | (exfalso; omega) | (conv => whnf)) | (refine bNe (fun hh => ?_) (fun hh => ?_) <;> first | (exfalso; omega) | (conv => whnf)) | (refine (hc).lendq rfl (fun r (hr : r = _) => ?_); subst hr; refine ⟨rfl, ?_⟩; conv => whnf) | (refine wIn (by omega) ?_; conv => whnf) | (refine nI (by omega) ?_; conv => whnf)))
    all_goals exact ⟨k, ⟨hk, hb, hp⟩, rfl⟩

theorem stands1 (t : Tr) (g : Gu) : t.stands [g] = (t.weak g).isEmpty := by simp [Tr.stands]
theorem g18n (d : Dm) (l : List Gu) (hn : d.rs.length ≤ 1000) (hs : d.sh.length ≤ 1000) (h : d.errC l = 0) (hw : ∀ g ∈ l, (d.worst.weak g).isEmpty = true) : FnA Tryz.prog 20 [.agg d.cells, .isl (l.map Gu.av)] (· = .tup [.int .i64 0, .isl [], .int .i64 3]) := by
  obtain ⟨h1, h2⟩ := errC_ok h
  have hg := okCl_g h2
  have hL : (l.map Gu.av).length = l.length := by simp
  refine fnA 10 ok20 (by simp) ?_
  (conv => whnf); (repeat' (first | (refine bT ?_; conv => whnf) | (refine bF ?_; conv => whnf) | (refine bN ?_) | (refine bD (fun hh => ?_) (fun hh => ?_) <;> first | (exfalso; omega) | (conv => whnf)) | (refine bEq (fun hh => ?_) (fun hh => ?_) <;> first | (exfalso; omega) | (conv => whnf)) | (refine bNe (fun hh => ?_) (fun hh => ?_) <;> first | (exfalso; omega) | (conv => whnf)) | (refine (g41 d l hn hs h).callzq rfl rfl (fun r rows (hr : r = _ ∧ rows = _) => ?_); obtain ⟨hr1, hr2⟩ := hr; subst hr1; subst hr2; refine ⟨rfl, ?_⟩; conv => whnf) | (refine wIn (by omega) ?_; conv => whnf) | (refine nI (by omega) ?_; conv => whnf)))
  refine loop_i (α := Nat) (fun k => [(23, .int .i64 k), (22, .int .i64 (l.map Gu.av).length), (21, .isl (l.map Gu.av)), (8, .own 6 0)]) (fun k => [.fresh, .fresh, .row false 3 1 (d.worst.ss.map i1), .fresh, .fresh, .fresh, .box false [.int .i64 d.f.l1, .row 2, .isl (d.sh.map i1)], .fresh, .fresh, .fresh]) (fun k => k ≤ l.length) (fun k => l.length - k) 0 (meets_id (by (repeat' apply And.intro) <;> first | rfl | exact True.intro | (intro hh; cases hh))) (by omega) ?_
  intro k hk
  conv => whnf
  refine bD (fun h3 => ?_) (fun h3 => ?_)
  · have hlt : k < l.length := by omega
    have hc := g44 d.worst [l[k]] (worst_ok h1) (by simp) (by intro g hg'; simp at hg'; subst hg'; rw [worst_len]; exact hg.2 _ (List.getElem_mem hlt))
    rw [show ([l[k]].all fun g => (d.worst.weak g).isEmpty) = true from by simpa using hw _ (List.getElem_mem hlt)] at hc
    (conv => whnf); (repeat' (first | (refine bT ?_; conv => whnf) | (refine bF ?_; conv => whnf) | (refine bN ?_) | (refine bD (fun hh => ?_) (fun hh => ?_) <;> first | (exfalso; omega) | (conv => whnf)) | (refine bEq (fun hh => ?_) (fun hh => ?_) <;> first | (exfalso; omega) | (conv => whnf)) | (refine bNe (fun hh => ?_) (fun hh => ?_) <;> first | (exfalso; omega) | (conv => whnf)) | (refine iaI (by omega) (by omega) (getD_map Gu.av l k hlt) ?_; conv => whnf) | (refine (hc).lendq rfl (fun r (hr : r = _) => ?_); subst hr; refine ⟨rfl, ?_⟩; conv => whnf) | (refine wIn (by omega) ?_; conv => whnf) | (refine nI (by omega) ?_; conv => whnf)))
    refine ⟨k + 1, ?_, by omega, by omega⟩
    simp only [Int.natCast_add, Int.natCast_one]
    exact (meets_id (by (repeat' apply And.intro) <;> first | rfl | exact True.intro | (intro hh; cases hh)))
  · (conv => whnf); (repeat' (first | (refine bT ?_; conv => whnf) | (refine bF ?_; conv => whnf) | (refine bN ?_) | (refine bD (fun hh => ?_) (fun hh => ?_) <;> first | (exfalso; omega) | (conv => whnf)) | (refine bEq (fun hh => ?_) (fun hh => ?_) <;> first | (exfalso; omega) | (conv => whnf)) | (refine bNe (fun hh => ?_) (fun hh => ?_) <;> first | (exfalso; omega) | (conv => whnf)) | (refine wIn (by omega) ?_; conv => whnf) | (refine nI (by omega) ?_; conv => whnf)))
    all_goals rfl
theorem g18 (d : Dm) (l : List Gu) (j : Nat) (hj : j < l.length) (hn : d.rs.length ≤ 1000) (hs : d.sh.length ≤ 1000) (h : d.errC l = 0) (hw : ∀ k (hk : k < j), (d.worst.weak l[k]).isEmpty = true) (hwj : (d.worst.weak l[j]).isEmpty = false) : FnO Tryz.prog 20 [.agg d.cells, .isl (l.map Gu.av)] (fun r rows => r = .tup [.int .i64 j, .row 9, .int .i64 0] ∧ rows = [(9, .row false 3 1 ((d.worst.weak l[j]).map n1))]) := by
  obtain ⟨h1, h2⟩ := errC_ok h
  have hg := okCl_g h2
  have hL : (l.map Gu.av).length = l.length := by simp
  refine fnO 10 ok20 (by simp) ?_
  (conv => whnf); (repeat' (first | (refine bT ?_; conv => whnf) | (refine bF ?_; conv => whnf) | (refine bN ?_) | (refine bD (fun hh => ?_) (fun hh => ?_) <;> first | (exfalso; omega) | (conv => whnf)) | (refine bEq (fun hh => ?_) (fun hh => ?_) <;> first | (exfalso; omega) | (conv => whnf)) | (refine bNe (fun hh => ?_) (fun hh => ?_) <;> first | (exfalso; omega) | (conv => whnf)) | (refine (g41 d l hn hs h).callzq rfl rfl (fun r rows (hr : r = _ ∧ rows = _) => ?_); obtain ⟨hr1, hr2⟩ := hr; subst hr1; subst hr2; refine ⟨rfl, ?_⟩; conv => whnf) | (refine wIn (by omega) ?_; conv => whnf) | (refine nI (by omega) ?_; conv => whnf)))
  refine loop_i (α := Nat) (fun k => [(23, .int .i64 k), (22, .int .i64 (l.map Gu.av).length), (21, .isl (l.map Gu.av)), (8, .own 6 0)]) (fun k => [.fresh, .fresh, .row false 3 1 (d.worst.ss.map i1), .fresh, .fresh, .fresh, .box false [.int .i64 d.f.l1, .row 2, .isl (d.sh.map i1)], .fresh, .fresh, .fresh]) (fun k => k ≤ j) (fun k => j - k) 0 (meets_id (by (repeat' apply And.intro) <;> first | rfl | exact True.intro | (intro hh; cases hh))) (by omega) ?_
  intro k hk
  conv => whnf
  refine bD (fun h3 => ?_) (fun h3 => ?_)
  · have hlt : k < l.length := by omega
    have hgk : l[k].ok d.worst.ss.length := by rw [worst_len]; exact hg.2 _ (List.getElem_mem hlt)
    have hc := g44 d.worst [l[k]] (worst_ok h1) (by simp) (by intro g hg'; simp at hg'; subst hg'; exact hgk)
    by_cases hkj : k < j
    · rw [show ([l[k]].all fun g => (d.worst.weak g).isEmpty) = true from by simpa using hw k hkj] at hc
      (conv => whnf); (repeat' (first | (refine bT ?_; conv => whnf) | (refine bF ?_; conv => whnf) | (refine bN ?_) | (refine bD (fun hh => ?_) (fun hh => ?_) <;> first | (exfalso; omega) | (conv => whnf)) | (refine bEq (fun hh => ?_) (fun hh => ?_) <;> first | (exfalso; omega) | (conv => whnf)) | (refine bNe (fun hh => ?_) (fun hh => ?_) <;> first | (exfalso; omega) | (conv => whnf)) | (refine iaI (by omega) (by omega) (getD_map Gu.av l k hlt) ?_; conv => whnf) | (refine (hc).lendq rfl (fun r (hr : r = _) => ?_); subst hr; refine ⟨rfl, ?_⟩; conv => whnf) | (refine wIn (by omega) ?_; conv => whnf) | (refine nI (by omega) ?_; conv => whnf)))
      refine ⟨k + 1, ?_, by omega, by omega⟩
      simp only [Int.natCast_add, Int.natCast_one]
      exact (meets_id (by (repeat' apply And.intro) <;> first | rfl | exact True.intro | (intro hh; cases hh)))
    · have e : k = j := by omega
      subst e
      rw [show ([l[k]].all fun g => (d.worst.weak g).isEmpty) = false from by simpa using hwj] at hc
      (conv => whnf); (repeat' (first | (refine bT ?_; conv => whnf) | (refine bF ?_; conv => whnf) | (refine bN ?_) | (refine bD (fun hh => ?_) (fun hh => ?_) <;> first | (exfalso; omega) | (conv => whnf)) | (refine bEq (fun hh => ?_) (fun hh => ?_) <;> first | (exfalso; omega) | (conv => whnf)) | (refine bNe (fun hh => ?_) (fun hh => ?_) <;> first | (exfalso; omega) | (conv => whnf)) | (refine iaI (by omega) (by omega) (getD_map Gu.av l k hlt) ?_; conv => whnf) | (refine (hc).lendq rfl (fun r (hr : r = _) => ?_); subst hr; refine ⟨rfl, ?_⟩; conv => whnf) | (refine wIn (by omega) ?_; conv => whnf) | (refine nI (by omega) ?_; conv => whnf)))
      refine (g45 d.worst l[k] (worst_ok h1) hgk).callmq rfl (fun r' rows (hr : r' = _ ∧ rows = _) => ?_); obtain ⟨hr1, hr2⟩ := hr; subst hr1; subst hr2
      refine ⟨rfl, by simp [flatRB, n1_flat], rfl, ?_⟩
      (conv => whnf); (repeat' (first | (refine bT ?_; conv => whnf) | (refine bF ?_; conv => whnf) | (refine bN ?_) | (refine bD (fun hh => ?_) (fun hh => ?_) <;> first | (exfalso; omega) | (conv => whnf)) | (refine bEq (fun hh => ?_) (fun hh => ?_) <;> first | (exfalso; omega) | (conv => whnf)) | (refine bNe (fun hh => ?_) (fun hh => ?_) <;> first | (exfalso; omega) | (conv => whnf)) | (refine wIn (by omega) ?_; conv => whnf) | (refine nI (by omega) ?_; conv => whnf)))
      all_goals exact ⟨rfl, rfl⟩
  · exfalso; omega

theorem g34 (n lo hi : Int) : FnA Tryz.prog 30 [.int .i64 n, .int .i64 lo, .int .i64 hi] (· = .bool (decide (lo ≤ n ∧ n ≤ hi))) := by
  refine fnA 0 ok30 (by simp) ?_
  (conv => whnf); (repeat' (first | (refine bT ?_; conv => whnf) | (refine bF ?_; conv => whnf) | (refine bN ?_) | (refine bD (fun hh => ?_) (fun hh => ?_) <;> first | (exfalso; omega) | (conv => whnf)) | (refine bEq (fun hh => ?_) (fun hh => ?_) <;> first | (exfalso; omega) | (conv => whnf)) | (refine bNe (fun hh => ?_) (fun hh => ?_) <;> first | (exfalso; omega) | (conv => whnf)) | (refine (k50 n lo hi).callq rfl rfl (fun r (hr : r = _) => ?_); subst hr; conv => whnf) | (refine wIn (by omega) ?_; conv => whnf) | (refine nI (by omega) ?_; conv => whnf)))
  all_goals rfl
def Dm.far (d : Dm) : Prop := d.f.ss.length > 20 ∨ d.rs.length > 40 ∨ d.sh.length > 40
instance (d : Dm) : Decidable d.far := by unfold Dm.far; infer_instance
theorem g28 (d : Dm) : FnA Tryz.prog 5 [.agg d.cells] (· = .bool (decide d.far)) := by
  have hL0 : (d.f.ss.map Sec.av).length = d.f.ss.length := by simp
  have hL : (d.rs.map s2).length = d.rs.length := by simp
  have hL2 : (d.sh.map i1).length = d.sh.length := by simp
  unfold Dm.far
  refine fnA 1 ok5 (by simp) ?_
  (conv => whnf); (repeat' (first | (refine bT ?_; conv => whnf) | (refine bF ?_; conv => whnf) | (refine bN ?_) | (refine bD (fun hh => ?_) (fun hh => ?_) <;> first | (exfalso; omega) | (conv => whnf)) | (refine bEq (fun hh => ?_) (fun hh => ?_) <;> first | (exfalso; omega) | (conv => whnf)) | (refine bNe (fun hh => ?_) (fun hh => ?_) <;> first | (exfalso; omega) | (conv => whnf)) | (refine wIn (by omega) ?_; conv => whnf) | (refine nI (by omega) ?_; conv => whnf)))
  all_goals first | rfl | exact congrArg AV.bool (decide_eq_decide.2 (by omega)) | exact congrArg AV.bool (decide_eq_true (by omega)).symm | exact congrArg AV.bool (decide_eq_false (by omega)).symm
theorem g23 (d : Dm) (i : Int) (hn : d.rs.length ≤ 1000) : FnA Tryz.prog 80 [.agg d.cells, .int .i64 i] (· = .bool (decide (0 ≤ i ∧ i < d.rs.length))) := by
  have hL : (d.rs.map s2).length = d.rs.length := by simp
  refine fnA 1 ok80 (by simp) ?_
  (conv => whnf); (repeat' (first | (refine bT ?_; conv => whnf) | (refine bF ?_; conv => whnf) | (refine bN ?_) | (refine bD (fun hh => ?_) (fun hh => ?_) <;> first | (exfalso; omega) | (conv => whnf)) | (refine bEq (fun hh => ?_) (fun hh => ?_) <;> first | (exfalso; omega) | (conv => whnf)) | (refine bNe (fun hh => ?_) (fun hh => ?_) <;> first | (exfalso; omega) | (conv => whnf)) | (refine (g34 _ _ _).callq rfl rfl (fun r (hr : r = _) => ?_); subst hr; conv => whnf) | (refine wIn (by omega) ?_; conv => whnf) | (refine nI (by omega) ?_; conv => whnf)))
  all_goals first | rfl | exact congrArg AV.bool (decide_eq_decide.2 (by omega)) | exact congrArg AV.bool (decide_eq_true (by omega)).symm | exact congrArg AV.bool (decide_eq_false (by omega)).symm
theorem g29 (d : Dm) (hf : d.f.ss.length ≤ 1000) (hn : d.rs.length ≤ 1000) (hs : d.sh.length ≤ 1000) : FnA Tryz.prog 9 [.agg d.cells] (· = .int .i64 d.err) := by
  have hL : (d.rs.map s2).length = d.rs.length := by simp
  have hL2 : (d.sh.map i1).length = d.sh.length := by simp
  have hk := k15 d.f (by omega)
  by_cases hok : d.f.ok
  · rw [if_pos hok] at hk
    by_cases h2 : (3 ≤ d.rs.length ∧ d.rs.length ≤ 10) ∧ d.sh.length = d.rs.length
    · refine fnA 1 ok9 (by simp) ?_
      (conv => whnf); (repeat' (first | (refine bT ?_; conv => whnf) | (refine bF ?_; conv => whnf) | (refine bN ?_) | (refine bD (fun hh => ?_) (fun hh => ?_) <;> first | (exfalso; omega) | (conv => whnf)) | (refine bEq (fun hh => ?_) (fun hh => ?_) <;> first | (exfalso; omega) | (conv => whnf)) | (refine bNe (fun hh => ?_) (fun hh => ?_) <;> first | (exfalso; omega) | (conv => whnf)) | (refine (hk).callq rfl rfl (fun r (hr : r = _) => ?_); subst hr; conv => whnf) | (refine (g34 _ _ _).callq rfl rfl (fun r (hr : r = _) => ?_); subst hr; conv => whnf) | (refine wIn (by omega) ?_; conv => whnf) | (refine nI (by omega) ?_; conv => whnf)))
      refine loop_i (α := Nat) (fun k => [(3, .int .i64 k), (1, .own 0 0)]) (fun k => [.box false d.cells]) (fun k => k ≤ d.rs.length ∧ ∀ i, i < k → okRib (d.rs.getD i (0, 0)) ∧ okSh (d.sh.getD i 0)) (fun k => d.rs.length - k) 0 (meets_id (by (repeat' apply And.intro) <;> first | rfl | exact True.intro | (intro hh; cases hh))) ⟨by omega, fun i hi => by omega⟩ ?_
      rintro k ⟨hk1, hk2⟩
      conv => whnf
      refine bD (fun h3 => ?_) (fun h3 => ?_)
      · have hlt : k < d.rs.length := by omega
        have e1 := getD_mapD s2 d.rs k (0, 0) hlt
        have e2 := getD_mapD i1 d.sh k 0 (by omega)
        have ez : ∀ (h : ¬(okRib (d.rs.getD k (0, 0)) ∧ okSh (d.sh.getD k 0))), (50 : Int) = d.err := fun h => by
          unfold Dm.err
          rw [if_neg fun hb => ?_]
          have hb' := okB_iff.1 hb
          refine h ⟨?_, ?_⟩
          · rw [List.getD_eq_getElem?_getD, List.getElem?_eq_getElem hlt]; exact hb'.2.2.1 _ (List.getElem_mem hlt)
          · rw [List.getD_eq_getElem?_getD, List.getElem?_eq_getElem (by omega)]; exact hb'.2.2.2.2 _ (List.getElem_mem _)
        unfold okRib okSh at ez
        (conv => whnf); (repeat' (first | (refine bT ?_; conv => whnf) | (refine bF ?_; conv => whnf) | (refine bN ?_) | (refine bD (fun hh => ?_) (fun hh => ?_) <;> first | (exfalso; omega) | (conv => whnf)) | (refine bEq (fun hh => ?_) (fun hh => ?_) <;> first | (exfalso; omega) | (conv => whnf)) | (refine bNe (fun hh => ?_) (fun hh => ?_) <;> first | (exfalso; omega) | (conv => whnf)) | (refine iaI (by omega) (by omega) e1 ?_; conv => whnf) | (refine iaI (by omega) (by omega) e2 ?_; conv => whnf) | (refine (g34 _ _ _).callq rfl rfl (fun r (hr : r = _) => ?_); subst hr; conv => whnf) | (refine wIn (by omega) ?_; conv => whnf) | (refine nI (by omega) ?_; conv => whnf)))
        all_goals first
          | exact congrArg (AV.int .i64) (ez (by omega))
          | (refine ⟨k + 1, ?_, ⟨by omega, fun i hi => ?_⟩, by omega⟩
             · simp only [Int.natCast_add, Int.natCast_one]
               exact (meets_id (by (repeat' apply And.intro) <;> first | rfl | exact True.intro | (intro hh; cases hh)))
             · by_cases e : i = k
               · subst e; unfold okRib okSh; omega
               · exact hk2 i (by omega))
      · have : k = d.rs.length := by omega
        subst this
        have hb : d.okB = true := okB_iff.2 ⟨hok, h2.1, fun p hp => by
          obtain ⟨i, hi, rfl⟩ := List.mem_iff_getElem.1 hp
          have := (hk2 i hi).1
          rwa [List.getD_eq_getElem?_getD, List.getElem?_eq_getElem hi] at this, h2.2, fun x hx => by
          obtain ⟨i, hi, rfl⟩ := List.mem_iff_getElem.1 hx
          have := (hk2 i (by omega)).2
          rwa [List.getD_eq_getElem?_getD, List.getElem?_eq_getElem hi] at this⟩
        (conv => whnf); (repeat' (first | (refine bT ?_; conv => whnf) | (refine bF ?_; conv => whnf) | (refine bN ?_) | (refine bD (fun hh => ?_) (fun hh => ?_) <;> first | (exfalso; omega) | (conv => whnf)) | (refine bEq (fun hh => ?_) (fun hh => ?_) <;> first | (exfalso; omega) | (conv => whnf)) | (refine bNe (fun hh => ?_) (fun hh => ?_) <;> first | (exfalso; omega) | (conv => whnf)) | (refine wIn (by omega) ?_; conv => whnf) | (refine nI (by omega) ?_; conv => whnf)))
        all_goals (unfold Dm.err; rw [if_pos hb])
    · refine fnA 1 ok9 (by simp) ?_
      (conv => whnf); (repeat' (first | (refine bT ?_; conv => whnf) | (refine bF ?_; conv => whnf) | (refine bN ?_) | (refine bD (fun hh => ?_) (fun hh => ?_) <;> first | (exfalso; omega) | (conv => whnf)) | (refine bEq (fun hh => ?_) (fun hh => ?_) <;> first | (exfalso; omega) | (conv => whnf)) | (refine bNe (fun hh => ?_) (fun hh => ?_) <;> first | (exfalso; omega) | (conv => whnf)) | (refine (hk).callq rfl rfl (fun r (hr : r = _) => ?_); subst hr; conv => whnf) | (refine (g34 _ _ _).callq rfl rfl (fun r (hr : r = _) => ?_); subst hr; conv => whnf) | (refine wIn (by omega) ?_; conv => whnf) | (refine nI (by omega) ?_; conv => whnf)))
      all_goals (unfold Dm.err; rw [if_neg]; intro hb; have := okB_iff.1 hb; omega)
  · rw [if_neg hok] at hk
    refine fnA 1 ok9 (by simp) ?_
    (conv => whnf); (repeat' (first | (refine bT ?_; conv => whnf) | (refine bF ?_; conv => whnf) | (refine bN ?_) | (refine bD (fun hh => ?_) (fun hh => ?_) <;> first | (exfalso; omega) | (conv => whnf)) | (refine bEq (fun hh => ?_) (fun hh => ?_) <;> first | (exfalso; omega) | (conv => whnf)) | (refine bNe (fun hh => ?_) (fun hh => ?_) <;> first | (exfalso; omega) | (conv => whnf)) | (refine (hk).callq rfl rfl (fun r (hr : r = _) => ?_); subst hr; conv => whnf) | (refine wIn (by omega) ?_; conv => whnf) | (refine nI (by omega) ?_; conv => whnf)))
    all_goals (unfold Dm.err; rw [if_neg]; intro hb; exact hok (okB_iff.1 hb).1)
theorem g33 (d : Dm) (l : List Gu) (hn : d.rs.length ≤ 1000) (hl : l.length ≤ 1000000000000) : FnA Tryz.prog 65 [.agg d.cells, .isl (l.map Gu.av)] (· = .bool (okCl d.rs.length l)) := by
  have hL : (l.map Gu.av).length = l.length := by simp
  refine fnA 1 ok65 (by simp) ?_
  conv => whnf
  refine loop_i (α := Nat) (fun k => [(5, .int .i64 k), (2, .own 0 0), (1, .isl (l.map Gu.av))]) (fun k => [.box false d.cells]) (fun k => k ≤ l.length ∧ ∀ g ∈ l.take k, okGu d.rs.length g = true) (fun k => l.length - k) 0 (meets_id (by (repeat' apply And.intro) <;> first | rfl | exact True.intro | (intro hh; cases hh))) ⟨by omega, by simp⟩ ?_
  rintro k ⟨hk1, hk2⟩
  conv => whnf
  refine bD (fun h3 => ?_) (fun h3 => ?_)
  · have hlt : k < l.length := by omega
    have ez : ∀ (h : ¬(l[k].ok d.rs.length)), okCl d.rs.length l = false := fun h => by
      unfold okCl
      rw [all_false (p := okGu d.rs.length) hlt (decide_eq_false h), Bool.and_false]
    unfold Gu.ok at ez
    (conv => whnf); (repeat' (first | (refine bT ?_; conv => whnf) | (refine bF ?_; conv => whnf) | (refine bN ?_) | (refine bD (fun hh => ?_) (fun hh => ?_) <;> first | (exfalso; omega) | (conv => whnf)) | (refine bEq (fun hh => ?_) (fun hh => ?_) <;> first | (exfalso; omega) | (conv => whnf)) | (refine bNe (fun hh => ?_) (fun hh => ?_) <;> first | (exfalso; omega) | (conv => whnf)) | (refine iaI (by omega) (by omega) (getD_map Gu.av l k hlt) ?_; conv => whnf) | (refine (g34 _ _ _).callq rfl rfl (fun r (hr : r = _) => ?_); subst hr; conv => whnf) | (refine (g23 d _ hn).callq rfl rfl (fun r (hr : r = _) => ?_); subst hr; conv => whnf) | (refine wIn (by omega) ?_; conv => whnf) | (refine nI (by omega) ?_; conv => whnf)))
    all_goals first
      | exact congrArg AV.bool (ez (by omega)).symm
      | (refine ⟨k + 1, ?_, ⟨by omega, gtake_all (p := okGu d.rs.length) hlt hk2 (decide_eq_true (by unfold Gu.ok; omega))⟩, by omega⟩
         simp only [Int.natCast_add, Int.natCast_one]
         exact (meets_id (by (repeat' apply And.intro) <;> first | rfl | exact True.intro | (intro hh; cases hh))))
  · have : k = l.length := by omega
    subst this
    rw [List.take_length] at hk2
    have e : okCl d.rs.length l = decide (((l.map Gu.av).length : Int) ≤ 20) := by
      unfold okCl; rw [List.all_eq_true.2 hk2, Bool.and_true, hL]; exact decide_eq_decide.2 (by omega)
    rw [e]
    (conv => whnf); (repeat' (first | (refine bT ?_; conv => whnf) | (refine bF ?_; conv => whnf) | (refine bN ?_) | (refine bD (fun hh => ?_) (fun hh => ?_) <;> first | (exfalso; omega) | (conv => whnf)) | (refine bEq (fun hh => ?_) (fun hh => ?_) <;> first | (exfalso; omega) | (conv => whnf)) | (refine bNe (fun hh => ?_) (fun hh => ?_) <;> first | (exfalso; omega) | (conv => whnf)) | (refine wIn (by omega) ?_; conv => whnf) | (refine nI (by omega) ?_; conv => whnf)))
    all_goals first | rfl | exact congrArg AV.bool (decide_eq_decide.2 (by omega)) | exact congrArg AV.bool (decide_eq_true (by omega)).symm | exact congrArg AV.bool (decide_eq_false (by omega)).symm
/-- a dome is valid, and not far too big -/
def Dm.rdy (d : Dm) (l : List Gu) : Bool := d.okB && okCl d.rs.length l
theorem rdy_iff {d : Dm} {l : List Gu} : d.rdy l = true ↔ d.errC l = 0 := by
  unfold Dm.rdy Dm.errC
  cases d.okB <;> cases okCl d.rs.length l <;> simp
theorem okB_far {d : Dm} (h : d.far) : d.okB = false := by
  rw [Bool.eq_false_iff]; intro hb
  have h' := okB_iff.1 hb
  have := h'.1.2.1
  unfold Dm.far at h; omega

theorem g37 (l m : List Nat) (hl : l.length ≤ 1000000000000) : FnA Tryz.prog 17 [.isl (l.map n1), .isl (m.map n1)] (· = .bool (decide (l = m))) := by
  have hL : (l.map n1).length = l.length := by simp
  have hM : (m.map n1).length = m.length := by simp
  by_cases hlm : l.length = m.length
  · refine fnA 0 ok17 (by simp) ?_
    (conv => whnf); (repeat' (first | (refine bT ?_; conv => whnf) | (refine bF ?_; conv => whnf) | (refine bN ?_) | (refine bD (fun hh => ?_) (fun hh => ?_) <;> first | (exfalso; omega) | (conv => whnf)) | (refine bEq (fun hh => ?_) (fun hh => ?_) <;> first | (exfalso; omega) | (conv => whnf)) | (refine bNe (fun hh => ?_) (fun hh => ?_) <;> first | (exfalso; omega) | (conv => whnf)) | (refine wIn (by omega) ?_; conv => whnf) | (refine nI (by omega) ?_; conv => whnf)))
    refine loop_i (α := Nat) (fun k => [(5, .int .i64 k), (1, .isl (m.map n1)), (0, .isl (l.map n1))]) (fun k => []) (fun k => k ≤ l.length ∧ ∀ i (h1 : i < l.length) (h2 : i < m.length), i < k → l[i] = m[i]) (fun k => l.length - k) 0 (meets_id (by (repeat' apply And.intro) <;> first | rfl | exact True.intro | (intro hh; cases hh))) ⟨by omega, fun i _ _ h => by omega⟩ ?_
    rintro k ⟨hk1, hk2⟩
    conv => whnf
    refine bD (fun h3 => ?_) (fun h3 => ?_)
    · have hlt : k < l.length := by omega
      have hlt2 : k < m.length := by omega
      (conv => whnf); (repeat' (first | (refine bT ?_; conv => whnf) | (refine bF ?_; conv => whnf) | (refine bN ?_) | (refine bD (fun hh => ?_) (fun hh => ?_) <;> first | (exfalso; omega) | (conv => whnf)) | (refine bEq (fun hh => ?_) (fun hh => ?_) <;> first | (exfalso; omega) | (conv => whnf)) | (refine bNe (fun hh => ?_) (fun hh => ?_) <;> first | (exfalso; omega) | (conv => whnf)) | (refine iaI (by omega) (by omega) (getD_map n1 l k hlt) ?_; conv => whnf) | (refine iaI (by omega) (by omega) (getD_map n1 m k hlt2) ?_; conv => whnf) | (refine wIn (by omega) ?_; conv => whnf) | (refine nI (by omega) ?_; conv => whnf)))
      · skip
        refine ⟨k + 1, ?_, ⟨by omega, fun i h1 h2 h3 => ?_⟩, by omega⟩
        · simp only [Int.natCast_add, Int.natCast_one]
          exact (meets_id (by (repeat' apply And.intro) <;> first | rfl | exact True.intro | (intro hh; cases hh)))
        · by_cases e : i = k
          · subst e; omega
          · exact hk2 i h1 h2 (by omega)
      · skip
        refine congrArg AV.bool (decide_eq_false fun e => ?_).symm
        subst e; omega
    · have : k = l.length := by omega
      subst this
      have e : l = m := List.ext_getElem hlm fun i h1 h2 => hk2 i h1 h2 h1
      (conv => whnf); (repeat' (first | (refine bT ?_; conv => whnf) | (refine bF ?_; conv => whnf) | (refine bN ?_) | (refine bD (fun hh => ?_) (fun hh => ?_) <;> first | (exfalso; omega) | (conv => whnf)) | (refine bEq (fun hh => ?_) (fun hh => ?_) <;> first | (exfalso; omega) | (conv => whnf)) | (refine bNe (fun hh => ?_) (fun hh => ?_) <;> first | (exfalso; omega) | (conv => whnf)) | (refine wIn (by omega) ?_; conv => whnf) | (refine nI (by omega) ?_; conv => whnf)))
      all_goals (rw [decide_eq_true e])
  · refine fnA 0 ok17 (by simp) ?_
    (conv => whnf); (repeat' (first | (refine bT ?_; conv => whnf) | (refine bF ?_; conv => whnf) | (refine bN ?_) | (refine bD (fun hh => ?_) (fun hh => ?_) <;> first | (exfalso; omega) | (conv => whnf)) | (refine bEq (fun hh => ?_) (fun hh => ?_) <;> first | (exfalso; omega) | (conv => whnf)) | (refine bNe (fun hh => ?_) (fun hh => ?_) <;> first | (exfalso; omega) | (conv => whnf)) | (refine wIn (by omega) ?_; conv => whnf) | (refine nI (by omega) ?_; conv => whnf)))
    all_goals (refine congrArg AV.bool (decide_eq_false fun e => ?_).symm; subst e; exact hlm rfl)

def exF : Frm := ⟨[⟨50, 52, 60, 60, 0, 1, 1⟩, ⟨40, 40, 45, 46, 5, 1, 2⟩], 20, 100, 1, 20, 300, 351⟩
def exD : Dm := ⟨exF, [(100, 110), (60, 60), (50, 55), (40, 40), (50, 50), (60, 60)], [10, 6, 3, 1, 3, 6]⟩
theorem g56 : FnA Tryz.prog 49 [] (· = .agg exF.cells) := by
  refine fnA 2 ok49 (by simp) ?_
  (conv => whnf); (repeat' (first | (refine bT ?_; conv => whnf) | (refine bF ?_; conv => whnf) | (refine bN ?_) | (refine bD (fun hh => ?_) (fun hh => ?_) <;> first | (exfalso; omega) | (conv => whnf)) | (refine bEq (fun hh => ?_) (fun hh => ?_) <;> first | (exfalso; omega) | (conv => whnf)) | (refine bNe (fun hh => ?_) (fun hh => ?_) <;> first | (exfalso; omega) | (conv => whnf)) | (refine wIn (by omega) ?_; conv => whnf) | (refine nI (by omega) ?_; conv => whnf)))
  all_goals rfl
theorem g36 : FnA Tryz.prog 26 [] (· = .agg exD.cells) := by
  refine fnA 4 ok26 (by simp) ?_
  (conv => whnf); (repeat' (first | (refine bT ?_; conv => whnf) | (refine bF ?_; conv => whnf) | (refine bN ?_) | (refine bD (fun hh => ?_) (fun hh => ?_) <;> first | (exfalso; omega) | (conv => whnf)) | (refine bEq (fun hh => ?_) (fun hh => ?_) <;> first | (exfalso; omega) | (conv => whnf)) | (refine bNe (fun hh => ?_) (fun hh => ?_) <;> first | (exfalso; omega) | (conv => whnf)) | (refine (g56).callzq rfl rfl (fun r (hr : r = _) => ?_); subst hr; conv => whnf) | (refine wIn (by omega) ?_; conv => whnf) | (refine nI (by omega) ?_; conv => whnf)))
  all_goals rfl
theorem ex_l0 : exD.f.l0 = 65 := by decide +kernel
theorem ex_l1 : exD.f.l1 = 76 := by decide +kernel
theorem ex_ok : exD.okB = true := by decide +kernel
theorem ex_gone : exD.worst.gone ⟨14, 0⟩ = [0, 1, 2, 3, 4, 5] := by decide +kernel
theorem ex_wk : exD.wk [⟨12, 0⟩, ⟨14, 0⟩] = [0, 1, 5] := by decide +kernel
theorem ex_m1 : exD.worst.stands [⟨13, 0⟩] = true := by decide +kernel
theorem ex_m2 : exD.worst.stands [⟨14, 0⟩] = false := by decide +kernel
theorem ex_m3 : ((List.range 100).all fun F => decide (F ≤ 13) || !exD.worst.stands [⟨F, 0⟩]) = true := by decide +kernel
theorem ex_most {F : Nat} (h : isMost exD.worst 0 F) : F = 13 := by
  obtain ⟨h1, h2, h3⟩ := h
  have a := List.all_eq_true.1 ex_m3 F (by simp; omega)
  simp only [h2, Bool.not_true, Bool.or_false, decide_eq_true_eq] at a
  by_cases e : F = 13
  · exact e
  · have := h3 13 (by omega) (by omega)
    rw [show ((13 : Nat) : Int) = 13 from rfl, ex_m1] at this; cases this
theorem ex_e1 : exD.errC [⟨14, 0⟩] = 0 := by decide +kernel
theorem ex_e2 : exD.errC [⟨0, 0⟩] = 0 := by decide +kernel
theorem ex_e3 : exD.errC [⟨12, 0⟩, ⟨14, 0⟩] = 0 := by decide +kernel
theorem g12 : FnA Tryz.prog 6 [] (· = .bool true) := by
  have c1 := g14 exD (by decide) (by decide) ex_ok
  rw [ex_l0, ex_l1] at c1
  have c2 := g16 exD ⟨14, 0⟩ (by decide) (by decide) ex_e1
  rw [ex_gone] at c2
  have c3 := g25 exD 0 (by decide) (by decide) ex_e2
  have c4 := g27 exD [⟨12, 0⟩, ⟨14, 0⟩] (by decide) (by decide) ex_e3
  rw [ex_wk] at c4
  have c5 := g37 [0, 1, 2, 3, 4, 5] [0, 1, 2, 3, 4, 5] (by decide)
  have c6 := g37 [0, 1, 5] [0, 1, 5] (by decide)
  rw [decide_eq_true rfl] at c5 c6
  refine fnA 11 ok6 (by simp) ?_
  (conv => whnf); (repeat' (first | (refine bT ?_; conv => whnf) | (refine bF ?_; conv => whnf) | (refine bN ?_) | (refine bD (fun hh => ?_) (fun hh => ?_) <;> first | (exfalso; omega) | (conv => whnf)) | (refine bEq (fun hh => ?_) (fun hh => ?_) <;> first | (exfalso; omega) | (conv => whnf)) | (refine bNe (fun hh => ?_) (fun hh => ?_) <;> first | (exfalso; omega) | (conv => whnf)) | (refine (g36).callzq rfl rfl (fun r (hr : r = _) => ?_); subst hr; conv => whnf) | (refine (c1).callq rfl rfl (fun r (hr : r = _) => ?_); subst hr; conv => whnf) | (refine (c2).callzq rfl rfl (fun r rows (hr : r = _ ∧ rows = _) => ?_); obtain ⟨hr1, hr2⟩ := hr; subst hr1; subst hr2; refine ⟨rfl, ?_⟩; conv => whnf) | (refine wIn (by omega) ?_; conv => whnf) | (refine nI (by omega) ?_; conv => whnf)))
  refine c3.callq rfl rfl (fun r ⟨F, hF, hr⟩ => ?_)
  rw [ex_most hF] at hr
  subst hr
  (conv => whnf); (repeat' (first | (refine bT ?_; conv => whnf) | (refine bF ?_; conv => whnf) | (refine bN ?_) | (refine bD (fun hh => ?_) (fun hh => ?_) <;> first | (exfalso; omega) | (conv => whnf)) | (refine bEq (fun hh => ?_) (fun hh => ?_) <;> first | (exfalso; omega) | (conv => whnf)) | (refine bNe (fun hh => ?_) (fun hh => ?_) <;> first | (exfalso; omega) | (conv => whnf)) | (refine (c4).callzq rfl rfl (fun r rows (hr : r = _ ∧ rows = _) => ?_); obtain ⟨hr1, hr2⟩ := hr; subst hr1; subst hr2; refine ⟨rfl, ?_⟩; conv => whnf) | (refine (c5).lendq rfl (fun r (hr : r = _) => ?_); subst hr; refine ⟨rfl, ?_⟩; conv => whnf) | (refine (c6).lendq rfl (fun r (hr : r = _) => ?_); subst hr; refine ⟨rfl, ?_⟩; conv => whnf) | (refine wIn (by omega) ?_; conv => whnf) | (refine nI (by omega) ?_; conv => whnf)))
  all_goals rfl
end Go.Proofs
