/- What each function of this program answers, proved by walking its body: the contracts that the law rests on, part 1. -/
import Derived.Test.YtipjmcaehgajeaaCode
set_option linter.unusedSimpArgs false
set_option linter.unusedVariables false
set_option linter.unusedSectionVars false
namespace Go.Proofs
open Go.Eng
attribute [local irreducible] Go.Eng.brB Go.Eng.need Go.Eng.wrE Go.Eng.iaE Go.Eng.slE Go.Eng.apE Go.Eng.CallZ Go.Eng.CallE Go.Eng.VCallE Go.Eng.YldE Go.Eng.GoC Go.Eng.MeetsE Go.Eng.FnA Go.Eng.FnV Go.Eng.ItA
set_option maxRecDepth 100000

structure Sec where
  (al ah sl sh base num den : Int)
def Sec.av (s : Sec) : List AV := [.int .i64 s.al, .int .i64 s.ah, .int .i64 s.sl, .int .i64 s.sh, .int .i64 s.base, .int .i64 s.num, .int .i64 s.den]
structure Frm where
  ss : List Sec
  (lo hi en ed rod cs : Int)
def Frm.cells (f : Frm) : List AV := [.isl (f.ss.map Sec.av), .int .i64 f.lo, .int .i64 f.hi, .int .i64 f.en, .int .i64 f.ed, .int .i64 f.rod, .int .i64 f.cs]

def okSpan (a b p : Int) : Prop := 1 ≤ a ∧ a ≤ b ∧ b ≤ 2000 ∧ b - a ≤ p
def okPart (n d : Int) : Prop := 1 ≤ d ∧ d ≤ 20 ∧ 0 ≤ n ∧ n ≤ d
instance (a b p : Int) : Decidable (okSpan a b p) := by unfold okSpan; infer_instance
instance (n d : Int) : Decidable (okPart n d) := by unfold okPart; infer_instance
def Sec.ok (s : Sec) : Prop := okSpan s.al s.ah 6 ∧ okSpan s.sl s.sh 6 ∧ (0 ≤ s.base ∧ s.base ≤ 2000) ∧ okPart s.num s.den
instance (s : Sec) : Decidable s.ok := by unfold Sec.ok; infer_instance
def Frm.ok (f : Frm) : Prop := 1 ≤ f.ss.length ∧ f.ss.length ≤ 3 ∧ (∀ s ∈ f.ss, s.ok) ∧ okSpan f.lo f.hi 200 ∧ okPart f.en f.ed ∧ (0 ≤ f.rod ∧ f.rod ≤ 4000) ∧ (0 ≤ f.cs ∧ f.cs ≤ 4000)
instance (f : Frm) : Decidable f.ok := by unfold Frm.ok; infer_instance

theorem k73 (n lo hi : Int) : FnA Try.prog 73 [.int .i64 n, .int .i64 lo, .int .i64 hi] (· = .bool (decide (lo ≤ n ∧ n ≤ hi))) := by
  refine fnA 2 ok73 (by simp) ?_
  (conv => whnf); (repeat' (first | (refine bT ?_; conv => whnf) | (refine bF ?_; conv => whnf) | (refine bN ?_) | (refine bD (fun hh => ?_) (fun hh => ?_) <;> first | (exfalso; omega) | (conv => whnf)) | (refine bEq (fun hh => ?_) (fun hh => ?_) <;> first | (exfalso; omega) | (conv => whnf)) | (refine bNe (fun hh => ?_) (fun hh => ?_) <;> first | (exfalso; omega) | (conv => whnf)) | (refine wIn (by omega) ?_; conv => whnf) | (refine nI (by omega) ?_; conv => whnf)))
  all_goals first | rfl | exact congrArg AV.bool (decide_eq_decide.2 (by omega)) | exact congrArg AV.bool (decide_eq_true (by omega)).symm | exact congrArg AV.bool (decide_eq_false (by omega)).symm
theorem k71 (a b p : Int) : FnA Try.prog 71 [.agg [.int .i64 a, .int .i64 b], .int .i64 p] (· = .bool (decide (okSpan a b p))) := by
  refine fnA 2 ok71 (by simp) ?_
  unfold okSpan
  (conv => whnf); (repeat' (first | (refine bT ?_; conv => whnf) | (refine bF ?_; conv => whnf) | (refine bN ?_) | (refine bD (fun hh => ?_) (fun hh => ?_) <;> first | (exfalso; omega) | (conv => whnf)) | (refine bEq (fun hh => ?_) (fun hh => ?_) <;> first | (exfalso; omega) | (conv => whnf)) | (refine bNe (fun hh => ?_) (fun hh => ?_) <;> first | (exfalso; omega) | (conv => whnf)) | (refine (k73 _ _ _).callq rfl rfl (fun r (hr : r = _) => ?_); subst hr; conv => whnf) | (refine wIn (by omega) ?_; conv => whnf) | (refine nI (by omega) ?_; conv => whnf)))
  all_goals first | rfl | exact congrArg AV.bool (decide_eq_decide.2 (by omega)) | exact congrArg AV.bool (decide_eq_true (by omega)).symm | exact congrArg AV.bool (decide_eq_false (by omega)).symm
theorem k72 (a b : Int) : FnA Try.prog 72 [.agg [.int .i64 a, .int .i64 b]] (· = .bool (decide (okPart a b))) := by
  refine fnA 2 ok72 (by simp) ?_
  unfold okPart
  (conv => whnf); (repeat' (first | (refine bT ?_; conv => whnf) | (refine bF ?_; conv => whnf) | (refine bN ?_) | (refine bD (fun hh => ?_) (fun hh => ?_) <;> first | (exfalso; omega) | (conv => whnf)) | (refine bEq (fun hh => ?_) (fun hh => ?_) <;> first | (exfalso; omega) | (conv => whnf)) | (refine bNe (fun hh => ?_) (fun hh => ?_) <;> first | (exfalso; omega) | (conv => whnf)) | (refine (k73 _ _ _).callq rfl rfl (fun r (hr : r = _) => ?_); subst hr; conv => whnf) | (refine wIn (by omega) ?_; conv => whnf) | (refine nI (by omega) ?_; conv => whnf)))
  all_goals first | rfl | exact congrArg AV.bool (decide_eq_decide.2 (by omega)) | exact congrArg AV.bool (decide_eq_true (by omega)).symm | exact congrArg AV.bool (decide_eq_false (by omega)).symm
theorem k70 (s : Sec) : FnA Try.prog 70 [.agg s.av] (· = .bool (decide s.ok)) := by
  refine fnA 2 ok70 (by simp) ?_
  unfold Sec.ok
  (conv => whnf); (repeat' (first | (refine bT ?_; conv => whnf) | (refine bF ?_; conv => whnf) | (refine bN ?_) | (refine bD (fun hh => ?_) (fun hh => ?_) <;> (conv => whnf)) | (refine bEq (fun hh => ?_) (fun hh => ?_) <;> (conv => whnf)) | (refine bNe (fun hh => ?_) (fun hh => ?_) <;> (conv => whnf)) | (refine (k71 _ _ _).callq rfl rfl (fun r (hr : r = _) => ?_); subst hr; conv => whnf) | (refine (k72 _ _).callq rfl rfl (fun r (hr : r = _) => ?_); subst hr; conv => whnf) | (refine (k73 _ _ _).callq rfl rfl (fun r (hr : r = _) => ?_); subst hr; conv => whnf) | (refine wIn (by omega) ?_; conv => whnf) | (refine nI (by omega) ?_; conv => whnf)))
  all_goals (simp [*])
theorem k76 (a b c d : Int) (h1 : -9000000000000000000 ≤ a * d ∧ a * d ≤ 9000000000000000000) (h2 : -9000000000000000000 ≤ c * b ∧ c * b ≤ 9000000000000000000) : FnA Try.prog 76 [.agg [.int .i64 a, .int .i64 b], .agg [.int .i64 c, .int .i64 d]] (· = .bool (decide (a * d < c * b))) := by
  refine fnA 2 ok76 (by simp) ?_
  (conv => whnf); (repeat' (first | (refine bT ?_; conv => whnf) | (refine bF ?_; conv => whnf) | (refine bN ?_) | (refine bD (fun hh => ?_) (fun hh => ?_) <;> first | (exfalso; omega) | (conv => whnf)) | (refine bEq (fun hh => ?_) (fun hh => ?_) <;> first | (exfalso; omega) | (conv => whnf)) | (refine bNe (fun hh => ?_) (fun hh => ?_) <;> first | (exfalso; omega) | (conv => whnf)) | (refine wIn (by omega) ?_; conv => whnf) | (refine nI (by omega) ?_; conv => whnf)))
  all_goals rfl
theorem getD_map {α : Type} (f : α → List AV) (l : List α) (i : Nat) (h : i < l.length) : (l.map f).getD i [] = f l[i] := by
  simp [List.getD_eq_getElem?_getD, h]
theorem all_take {α : Type} {p : α → Prop} {l : List α} {i : Nat} (h : i < l.length) (h1 : ∀ s ∈ l.take i, p s) (h2 : p l[i]) : ∀ s ∈ l.take (i + 1), p s := by
  intro s hs
  rw [List.take_succ_eq_append_getElem h] at hs
  rcases List.mem_append.1 hs with hs | hs
  · exact h1 s hs
  · simp at hs; subst hs; exact h2
theorem k48 (f : Frm) : FnA Try.prog 48 [.agg f.cells] (· = .bool (decide f.ok)) := by
  have hL : (f.ss.map Sec.av).length = f.ss.length := by simp
  refine fnA 2 ok48 (by simp) ?_
  (conv => whnf); (repeat' (first | (refine bT ?_; conv => whnf) | (refine bF ?_; conv => whnf) | (refine bN ?_) | (refine bD (fun hh => ?_) (fun hh => ?_) <;> first | (exfalso; omega) | (conv => whnf)) | (refine bEq (fun hh => ?_) (fun hh => ?_) <;> first | (exfalso; omega) | (conv => whnf)) | (refine bNe (fun hh => ?_) (fun hh => ?_) <;> first | (exfalso; omega) | (conv => whnf)) | (refine wIn (by omega) ?_; conv => whnf) | (refine nI (by omega) ?_; conv => whnf)))
  all_goals try (refine congrArg AV.bool (decide_eq_false fun h => ?_).symm; unfold Frm.ok at h; omega)
  refine loop_i (α := Nat) (fun k => [(18, .int .i64 k), (17, .int .i64 ↑(f.ss.map Sec.av).length), (16, .isl (f.ss.map Sec.av)), (1, .own 0 0)]) (fun k => [.box false f.cells, .fresh]) (fun k => k ≤ f.ss.length ∧ ∀ s ∈ f.ss.take k, s.ok) (fun k => f.ss.length - k) 0 (meets_id (by (repeat' apply And.intro) <;> first | rfl | trivial | (intro hh; cases hh))) ⟨by omega, by simp⟩ ?_
  rintro k ⟨h1, h2⟩
  conv => whnf
  refine bD (fun h3 => ?_) (fun h3 => ?_)
  · conv => whnf
    refine iaI (by omega) (by omega) (getD_map Sec.av f.ss k (by omega)) ?_
    conv => whnf
    have hk : k < f.ss.length := by omega
    refine (k70 f.ss[k]).callq rfl rfl (fun r (hr : r = _) => ?_)
    subst hr
    conv => whnf
    refine bN (bD (fun h4 => ?_) (fun h4 => ?_))
    · conv => whnf
      refine wIn (by omega) ?_
      exact ⟨k + 1, (meets_id (by (repeat' apply And.intro) <;> first | rfl | trivial | (intro hh; cases hh))), ⟨by omega, all_take hk h2 h4⟩, by omega⟩
    · conv => whnf
      refine congrArg AV.bool (decide_eq_false fun h => h4 ?_).symm
      exact h.2.2.1 _ (List.getElem_mem hk)
  · have e : k = f.ss.length := by omega
    subst e
    rw [List.take_length] at h2
    have hiff : f.ok ↔ (okSpan f.lo f.hi 200 ∧ okPart f.en f.ed ∧ (0 ≤ f.rod ∧ f.rod ≤ 4000) ∧ (0 ≤ f.cs ∧ f.cs ≤ 4000)) := ⟨fun h => h.2.2.2, fun h => ⟨by omega, by omega, h2, h⟩⟩
    clear h3 h1 h2
    (conv => whnf); (repeat' (first | (refine bT ?_; conv => whnf) | (refine bF ?_; conv => whnf) | (refine bN ?_) | (refine bD (fun hh => ?_) (fun hh => ?_) <;> first | (exfalso; omega) | (conv => whnf)) | (refine bEq (fun hh => ?_) (fun hh => ?_) <;> first | (exfalso; omega) | (conv => whnf)) | (refine bNe (fun hh => ?_) (fun hh => ?_) <;> first | (exfalso; omega) | (conv => whnf)) | (refine (k71 _ _ _).callq rfl rfl (fun r (hr : r = _) => ?_); subst hr; conv => whnf) | (refine (k72 _ _).callq rfl rfl (fun r (hr : r = _) => ?_); subst hr; conv => whnf) | (refine (k73 _ _ _).callq rfl rfl (fun r (hr : r = _) => ?_); subst hr; conv => whnf) | (refine wIn (by omega) ?_; conv => whnf) | (refine nI (by omega) ?_; conv => whnf)))
    all_goals (simp [*])
theorem k14 (f : Frm) : FnA Try.prog 14 [.agg f.cells] (· = .int .i64 (if f.ok then 0 else 10)) := by
  refine fnA 2 ok14 (by simp) ?_
  (conv => whnf); (repeat' (first | (refine bT ?_; conv => whnf) | (refine bF ?_; conv => whnf) | (refine bN ?_) | (refine bD (fun hh => ?_) (fun hh => ?_) <;> (conv => whnf)) | (refine bEq (fun hh => ?_) (fun hh => ?_) <;> (conv => whnf)) | (refine bNe (fun hh => ?_) (fun hh => ?_) <;> (conv => whnf)) | (refine (k48 f).callq rfl rfl (fun r (hr : r = _) => ?_); subst hr; conv => whnf) | (refine wIn (by omega) ?_; conv => whnf) | (refine nI (by omega) ?_; conv => whnf)))
  all_goals simp [*]
theorem k67 (f : Frm) (i : Int) : FnA Try.prog 67 [.agg f.cells, .int .i64 i] (· = .int .i64 (if f.ok then (if 0 ≤ i ∧ i < f.ss.length then 0 else 1) else 10)) := by
  have hL : (f.ss.map Sec.av).length = f.ss.length := by simp
  refine fnA 2 ok67 (by simp) ?_
  by_cases hok : f.ok
  · have h3 := hok.2.1
    (conv => whnf); (repeat' (first | (refine bT ?_; conv => whnf) | (refine bF ?_; conv => whnf) | (refine bN ?_) | (refine bD (fun hh => ?_) (fun hh => ?_) <;> (conv => whnf)) | (refine bEq (fun hh => ?_) (fun hh => ?_) <;> (conv => whnf)) | (refine bNe (fun hh => ?_) (fun hh => ?_) <;> (conv => whnf)) | (refine (k48 f).callq rfl rfl (fun r (hr : r = _) => ?_); subst hr; conv => whnf) | (refine (k73 _ _ _).callq rfl rfl (fun r (hr : r = _) => ?_); subst hr; conv => whnf) | (refine wIn (by omega) ?_; conv => whnf) | (refine nI (by omega) ?_; conv => whnf)))
    all_goals (simp only [hL] at *)
    all_goals (first | exact absurd hok (by assumption) | skip)
    all_goals (rw [if_pos hok])
    · rw [if_pos (by omega)]
    · rw [if_neg (by omega)]
  · (conv => whnf); (repeat' (first | (refine bT ?_; conv => whnf) | (refine bF ?_; conv => whnf) | (refine bN ?_) | (refine bD (fun hh => ?_) (fun hh => ?_) <;> (conv => whnf)) | (refine bEq (fun hh => ?_) (fun hh => ?_) <;> (conv => whnf)) | (refine bNe (fun hh => ?_) (fun hh => ?_) <;> (conv => whnf)) | (refine (k48 f).callq rfl rfl (fun r (hr : r = _) => ?_); subst hr; conv => whnf) | (refine (k73 _ _ _).callq rfl rfl (fun r (hr : r = _) => ?_); subst hr; conv => whnf) | (refine wIn (by omega) ?_; conv => whnf) | (refine nI (by omega) ?_; conv => whnf)))
    all_goals (first | exact absurd (by assumption) hok | rw [if_neg hok])
def Frm.pos (f : Frm) (i r : Int) : Int := if f.ok then (if (0 ≤ i ∧ i < f.ss.length) ∧ f.lo ≤ r ∧ r ≤ f.hi then 0 else 1) else 10
theorem k52 (f : Frm) (i r : Int) : FnA Try.prog 52 [.agg f.cells, .int .i64 i, .int .i64 r] (· = .int .i64 (f.pos i r)) := by
  refine fnA 2 ok52 (by simp) ?_
  by_cases hok : f.ok
  · by_cases hi : 0 ≤ i ∧ i < f.ss.length
    · (conv => whnf); (repeat' (first | (refine bT ?_; conv => whnf) | (refine bF ?_; conv => whnf) | (refine bN ?_) | (refine bD (fun hh => ?_) (fun hh => ?_) <;> (conv => whnf)) | (refine bEq (fun hh => ?_) (fun hh => ?_) <;> (conv => whnf)) | (refine bNe (fun hh => ?_) (fun hh => ?_) <;> (conv => whnf)) | (refine (k67 f _).callq rfl rfl (fun r (hr : r = _) => ?_); subst hr; conv => whnf) | (refine (k73 _ _ _).callq rfl rfl (fun r (hr : r = _) => ?_); subst hr; conv => whnf) | (refine wIn (by omega) ?_; conv => whnf) | (refine nI (by omega) ?_; conv => whnf)))
      all_goals simp_all [Frm.pos]
      all_goals omega
    · (conv => whnf); (repeat' (first | (refine bT ?_; conv => whnf) | (refine bF ?_; conv => whnf) | (refine bN ?_) | (refine bD (fun hh => ?_) (fun hh => ?_) <;> (conv => whnf)) | (refine bEq (fun hh => ?_) (fun hh => ?_) <;> (conv => whnf)) | (refine bNe (fun hh => ?_) (fun hh => ?_) <;> (conv => whnf)) | (refine (k67 f _).callq rfl rfl (fun r (hr : r = _) => ?_); subst hr; conv => whnf) | (refine (k73 _ _ _).callq rfl rfl (fun r (hr : r = _) => ?_); subst hr; conv => whnf) | (refine wIn (by omega) ?_; conv => whnf) | (refine nI (by omega) ?_; conv => whnf)))
      all_goals simp_all [Frm.pos]
      all_goals (rw [if_neg (by omega), if_neg (by omega)])
  · (conv => whnf); (repeat' (first | (refine bT ?_; conv => whnf) | (refine bF ?_; conv => whnf) | (refine bN ?_) | (refine bD (fun hh => ?_) (fun hh => ?_) <;> (conv => whnf)) | (refine bEq (fun hh => ?_) (fun hh => ?_) <;> (conv => whnf)) | (refine bNe (fun hh => ?_) (fun hh => ?_) <;> (conv => whnf)) | (refine (k67 f _).callq rfl rfl (fun r (hr : r = _) => ?_); subst hr; conv => whnf) | (refine (k73 _ _ _).callq rfl rfl (fun r (hr : r = _) => ?_); subst hr; conv => whnf) | (refine wIn (by omega) ?_; conv => whnf) | (refine nI (by omega) ?_; conv => whnf)))
    all_goals simp_all [Frm.pos]
theorem tdiv_bd {a n m : Int} (ha : 0 ≤ a) (h0 : 0 ≤ n) (h1 : n ≤ m) (h2 : 1 ≤ m) : 0 ≤ (a * n).tdiv m ∧ (a * n).tdiv m ≤ a := by
  have h3 : 0 ≤ a * n := Int.mul_nonneg ha h0
  rw [Int.tdiv_eq_ediv_of_nonneg h3]
  refine ⟨Int.ediv_nonneg h3 (by omega), ?_⟩
  have h4 : a * n ≤ a * m := Int.mul_le_mul_of_nonneg_left h1 ha
  calc a * n / m ≤ a * m / m := Int.ediv_le_ediv (by omega) h4
    _ = a := Int.mul_ediv_cancel _ (by omega)
theorem mul_bd {a b : Int} (A B : Int) (h1 : 0 ≤ a) (h2 : a ≤ A) (h3 : 0 ≤ b) (h4 : b ≤ B) : 0 ≤ a * b ∧ a * b ≤ A * B :=
  ⟨Int.mul_nonneg h1 h3, Int.mul_le_mul h2 h4 h3 (by omega)⟩
def dstep (d : Int) (s : Sec) : Int := s.base + (d * s.num).tdiv s.den
def Frm.dist (f : Frm) (i : Nat) (r : Int) : Int := ((f.ss.take (i + 1)).drop 1).foldl dstep r
theorem dstep_bd {d D : Int} {s : Sec} (h : s.ok) (h0 : 0 ≤ d) (h1 : d ≤ D) : 0 ≤ dstep d s ∧ dstep d s ≤ D + 2000 := by
  obtain ⟨_, _, h2, h3⟩ := h
  have := tdiv_bd h0 h3.2.2.1 h3.2.2.2 h3.1
  unfold dstep; omega
theorem fold_bd {l : List Sec} (h : ∀ s ∈ l, s.ok) : ∀ {d D : Int}, 0 ≤ d → d ≤ D → 0 ≤ l.foldl dstep d ∧ l.foldl dstep d ≤ D + 2000 * l.length := by
  induction l with
  | nil => intro d D h0 h1; simp; omega
  | cons s l ih =>
    intro d D h0 h1
    have h2 := dstep_bd (h s (by simp)) h0 h1
    have := ih (fun s hs => h s (by simp [hs])) h2.1 h2.2
    simp only [List.foldl_cons, List.length_cons]
    omega
theorem Frm.dist_bd {f : Frm} (h : f.ok) (i : Nat) {r : Int} (h0 : 0 ≤ r) (h1 : r ≤ 2000) : 0 ≤ f.dist i r ∧ f.dist i r ≤ 6000 := by
  have h2 := h.2.1
  have h3 : ∀ s ∈ (f.ss.take (i + 1)).drop 1, s.ok := fun s hs => h.2.2.1 s (List.mem_of_mem_take (List.mem_of_mem_drop hs))
  have h4 := fold_bd h3 h0 h1
  have h5 : ((f.ss.take (i + 1)).drop 1).length ≤ 2 := by simp; omega
  unfold Frm.dist; omega
theorem k53 (f : Frm) (i : Nat) (r : Int) (hok : f.ok) (hi : i < f.ss.length) (h0 : 0 ≤ r) (h1 : r ≤ 2000) : FnA Try.prog 53 [.agg f.cells, .int .i64 i, .int .i64 r] (· = .int .i64 (f.dist i r)) := by
  have h2 := hok.2.1
  have hL : (f.ss.map Sec.av).length = f.ss.length := by simp
  generalize hl : (f.ss.take (i + 1)).drop 1 = l
  have hlo : ∀ s ∈ l, s.ok := fun s hs => hok.2.2.1 s (List.mem_of_mem_take (List.mem_of_mem_drop (hl ▸ hs)))
  have hll : (l.map Sec.av).length = l.length := by simp
  have hl2 : l.length ≤ 2 := by rw [← hl]; simp; omega
  refine fnA 2 ok53 (by simp) ?_
  (conv => whnf); (repeat' (first | (refine bT ?_; conv => whnf) | (refine bF ?_; conv => whnf) | (refine bN ?_) | (refine bD (fun hh => ?_) (fun hh => ?_) <;> (conv => whnf)) | (refine bEq (fun hh => ?_) (fun hh => ?_) <;> (conv => whnf)) | (refine bNe (fun hh => ?_) (fun hh => ?_) <;> (conv => whnf)) | (refine wIn (by omega) ?_; conv => whnf) | (refine nI (by omega) ?_; conv => whnf)))
  refine slI (es' := l.map Sec.av) (by omega) (by omega) (by omega) (fun e he => ?_) ?_ ?_
  · obtain ⟨s, _, rfl⟩ := List.mem_map.1 he; rfl
  · rw [← hl]; simp only [List.map_drop, List.map_take]; congr 1
  conv => whnf
  refine loop_i (α := Nat) (fun k => [(17, .int .i64 k), (16, .int .i64 ↑(l.map Sec.av).length), (15, .isl (l.map Sec.av)), (7, .int .i64 ((l.take k).foldl dstep r))]) (fun k => [.box false f.cells, .fresh]) (fun k => k ≤ l.length) (fun k => l.length - k) 0 (meets_id (by (repeat' apply And.intro) <;> first | rfl | trivial | (intro hh; cases hh))) (by omega) ?_
  intro k hk
  conv => whnf
  refine bD (fun h3 => ?_) (fun h3 => ?_)
  · conv => whnf
    have hk : k < l.length := by omega
    refine iaI (by omega) (by omega) (getD_map Sec.av l k hk) ?_
    conv => whnf
    have hs := hlo l[k] (List.getElem_mem hk)
    have hf := fold_bd (l := l.take k) (fun s hs => hlo s (List.mem_of_mem_take hs)) h0 h1
    have hkl : (l.take k).length ≤ 2 := by simp; omega
    have hm := mul_bd 6000 20 hf.1 (by omega) hs.2.2.2.2.2.1 (by have := hs.2.2.2; unfold okPart at this; omega)
    have ht := tdiv_bd hf.1 hs.2.2.2.2.2.1 hs.2.2.2.2.2.2 hs.2.2.2.1
    have hd := hs.2.2.2.1
    have hb := hs.2.2.1
    have hst : (l.take (k + 1)).foldl dstep r = l[k].base + ((l.take k).foldl dstep r * l[k].num).tdiv l[k].den := by
      rw [List.take_succ_eq_append_getElem hk, List.foldl_append]; rfl
    (conv => whnf); (repeat' (first | (refine bT ?_; conv => whnf) | (refine bF ?_; conv => whnf) | (refine bN ?_) | (refine bD (fun hh => ?_) (fun hh => ?_) <;> first | (exfalso; omega) | (conv => whnf)) | (refine bEq (fun hh => ?_) (fun hh => ?_) <;> first | (exfalso; omega) | (conv => whnf)) | (refine bNe (fun hh => ?_) (fun hh => ?_) <;> first | (exfalso; omega) | (conv => whnf)) | (refine wIn (by omega) ?_; conv => whnf) | (refine nI (by omega) ?_; conv => whnf)))
    refine ⟨k + 1, ?_, by omega, by omega⟩
    rw [hst]
    exact (meets_id (by (repeat' apply And.intro) <;> first | rfl | trivial | (intro hh; cases hh)))
  · conv => whnf
    have : k = l.length := by omega
    subst this
    rw [List.take_length, Frm.dist, hl]

/-! Sides of a section: each arm with each stretcher. -/
def Sec.na (s : Sec) : Nat := (s.ah + 1 - s.al).toNat
def Sec.nb (s : Sec) : Nat := (s.sh + 1 - s.sl).toNat
def Sec.side (s : Sec) (k : Nat) : Int × Int := (s.al + ((k / s.nb : Nat) : Int), s.sl + ((k % s.nb : Nat) : Int))
def Sec.sides (s : Sec) : List (Int × Int) := (List.range (s.na * s.nb)).map s.side
def pairAV (p : Int × Int) : List AV := [.int .i64 p.1, .int .i64 p.2]
theorem side_ij (s : Sec) (i j : Nat) (hj : j < s.nb) : s.side (i * s.nb + j) = (s.al + i, s.sl + j) := by
  unfold Sec.side
  have h1 : (i * s.nb + j) / s.nb = i := by
    rw [Nat.mul_comm, Nat.mul_add_div (by omega), Nat.div_eq_of_lt hj]; rfl
  have h2 : (i * s.nb + j) % s.nb = j := by
    rw [Nat.mul_comm, Nat.mul_add_mod]; exact Nat.mod_eq_of_lt hj
  rw [h1, h2]
theorem sides_get (s : Sec) (i j : Nat) (hi : i < s.na) (hj : j < s.nb) : (s.sides.map pairAV)[i * s.nb + j]? = some [.int .i64 (s.al + i), .int .i64 (s.sl + j)] := by
  have hlt : i * s.nb + j < s.na * s.nb := by
    have : (i + 1) * s.nb ≤ s.na * s.nb := Nat.mul_le_mul_right _ hi
    rw [Nat.add_mul] at this; omega
  simp only [Sec.sides, List.map_map, List.getElem?_map, List.getElem?_range hlt, Option.map_some]
  simp only [Function.comp, side_ij s i j hj, pairAV]
theorem sides_len (s : Sec) : (s.sides.map pairAV).length = s.na * s.nb := by simp [Sec.sides]
theorem mem_sides {s : Sec} {p : Int × Int} : p ∈ s.sides ↔ (s.al ≤ p.1 ∧ p.1 ≤ s.ah) ∧ s.sl ≤ p.2 ∧ p.2 ≤ s.sh := by
  simp only [Sec.sides, List.mem_map, List.mem_range]
  constructor
  · rintro ⟨k, hk, rfl⟩
    have hnb : 0 < s.nb := by
      cases h : s.nb with
      | zero => rw [h] at hk; simp at hk
      | succ n => omega
    have h1 : k / s.nb < s.na := (Nat.div_lt_iff_lt_mul hnb).2 hk
    have h2 := Nat.mod_lt k hnb
    generalize hq : k / s.nb = q at *
    generalize hr : k % s.nb = r at *
    unfold Sec.side
    rw [hq, hr]
    simp only [Sec.na, Sec.nb] at h1 h2
    omega
  · rintro ⟨⟨h1, h2⟩, h3, h4⟩
    have hj : (p.2 - s.sl).toNat < s.nb := by unfold Sec.nb; omega
    have hi : (p.1 - s.al).toNat < s.na := by unfold Sec.na; omega
    refine ⟨(p.1 - s.al).toNat * s.nb + (p.2 - s.sl).toNat, ?_, ?_⟩
    · have : ((p.1 - s.al).toNat + 1) * s.nb ≤ s.na * s.nb := Nat.mul_le_mul_right _ hi
      rw [Nat.add_mul] at this; omega
    · rw [side_ij s _ _ hj]
      ext <;> simp <;> omega

theorem i83 (s : Sec) (hok : s.ok) : ItA Try.prog 83 [.ipt s.av] (s.sides.map pairAV) := by
  have h1 := hok.1
  have h2 := hok.2.1
  unfold okSpan at h1 h2
  refine itA 2 ok83 (by simp) ?_
  conv => whnf
  refine loop_y (α := Nat) (fun i => [(3, .int .i64 (s.al + i)), (1, .ipt s.av), (0, .yld)]) (fun i => [.fresh, .fresh]) (fun i => ⟨[], i * s.nb, false⟩) (fun i => i ≤ s.na) (fun i => s.na - i) 0 ?_ (by omega) ?_
  · simp only [Int.natCast_zero, Int.add_zero, Nat.zero_mul]; exact (meets_id (by (repeat' apply And.intro) <;> first | rfl | trivial | (intro hh; cases hh)))
  intro i hi
  conv => whnf
  have ena : (s.na : Int) = s.ah + 1 - s.al := by unfold Sec.na; omega
  have enb : (s.nb : Int) = s.sh + 1 - s.sl := by unfold Sec.nb; omega
  refine bD (fun h3 => ?_) (fun h3 => ?_)
  · conv => whnf
    refine loop_y (α := Nat) (fun j => [(4, .int .i64 (s.sl + j)), (3, .int .i64 (s.al + i)), (1, .ipt s.av), (0, .yld)]) (fun j => [.fresh, .fresh]) (fun j => ⟨[], i * s.nb + j, false⟩) (fun j => j ≤ s.nb) (fun j => s.nb - j) 0 ?_ (by omega) ?_
    · simp only [Int.natCast_zero, Int.add_zero, Nat.add_zero]; exact (meets_id (by (repeat' apply And.intro) <;> first | rfl | trivial | (intro hh; cases hh)))
    intro j hj
    conv => whnf
    refine bD (fun h4 => ?_) (fun h4 => ?_)
    · conv => whnf
      refine yI rfl (sides_get s i j (by omega) (by omega)) rfl ?_ ?_
      · conv => whnf
        refine bN (bT ?_)
        conv => whnf
        refine wIn (by omega) ?_
        refine ⟨j + 1, ?_, by omega, by omega⟩
        simp only [Int.natCast_add, Int.natCast_one, ← Int.add_assoc, ← Nat.add_assoc]
        exact (meets_id (by (repeat' apply And.intro) <;> first | rfl | trivial | (intro hh; cases hh)))
      · conv => whnf
        refine bN (bF ?_)
        conv => whnf
        exact .inl rfl
    · conv => whnf
      refine wIn (by omega) ?_
      have : j = s.nb := by omega
      subst this
      refine ⟨i + 1, ?_, by omega, by omega⟩
      simp only [Int.natCast_add, Int.natCast_one, ← Int.add_assoc, Nat.add_mul, Nat.one_mul]
      exact (meets_id (by (repeat' apply And.intro) <;> first | rfl | trivial | (intro hh; cases hh)))
  · conv => whnf
    right
    have : i = s.na := by omega
    subst this
    rw [sides_len]

theorem k75 (s : Sec) : FnA Try.prog 75 [.agg s.av] (· = .fn 83 [.ipt s.av]) := by
  refine fnA 2 ok75 (by simp) ?_
  (conv => whnf); (repeat' (first | (refine bT ?_; conv => whnf) | (refine bF ?_; conv => whnf) | (refine bN ?_) | (refine bD (fun hh => ?_) (fun hh => ?_) <;> (conv => whnf)) | (refine bEq (fun hh => ?_) (fun hh => ?_) <;> (conv => whnf)) | (refine bNe (fun hh => ?_) (fun hh => ?_) <;> (conv => whnf)) | (refine wIn (by omega) ?_; conv => whnf) | (refine nI (by omega) ?_; conv => whnf)))
  all_goals rfl

theorem k65 (a b : Bool) : FnA Try.prog 65 [.bool a, .bool b] (· = .int .i64 (if a then 1 else if b then 3 else 2)) := by
  refine fnA 2 ok65 (by simp) ?_
  cases a <;> cases b
  all_goals (conv => whnf); (repeat' (first | (refine bT ?_; conv => whnf) | (refine bF ?_; conv => whnf) | (refine bN ?_) | (refine bD (fun hh => ?_) (fun hh => ?_) <;> (conv => whnf)) | (refine bEq (fun hh => ?_) (fun hh => ?_) <;> (conv => whnf)) | (refine bNe (fun hh => ?_) (fun hh => ?_) <;> (conv => whnf)) | (refine wIn (by omega) ?_; conv => whnf) | (refine nI (by omega) ?_; conv => whnf)))
  all_goals rfl

/-- a cosine, not reduced -/
def cosN (d a t : Int) : Int := d * d + a * a - t * t
def cosD (d a : Int) : Int := 2 * d * a
theorem k74 (d a t : Int) (hd : 0 ≤ d ∧ d ≤ 6000) (ha : 0 ≤ a ∧ a ≤ 2000) (ht : 0 ≤ t ∧ t ≤ 2000) : FnA Try.prog 74 [.int .i64 d, .int .i64 a, .int .i64 t] (· = .agg [.int .i64 (cosN d a t), .int .i64 (cosD d a)]) := by
  have h1 := mul_bd 6000 6000 hd.1 hd.2 hd.1 hd.2
  have h2 := mul_bd 2000 2000 ha.1 ha.2 ha.1 ha.2
  have h3 := mul_bd 2000 2000 ht.1 ht.2 ht.1 ht.2
  have h4 := mul_bd (a := 2 * d) 12000 2000 (by omega) (by omega) ha.1 ha.2
  refine fnA 2 ok74 (by simp) ?_
  (conv => whnf); (repeat' (first | (refine bT ?_; conv => whnf) | (refine bF ?_; conv => whnf) | (refine bN ?_) | (refine bD (fun hh => ?_) (fun hh => ?_) <;> (conv => whnf)) | (refine bEq (fun hh => ?_) (fun hh => ?_) <;> (conv => whnf)) | (refine bNe (fun hh => ?_) (fun hh => ?_) <;> (conv => whnf)) | (refine wIn (by omega) ?_; conv => whnf) | (refine nI (by omega) ?_; conv => whnf)))
  all_goals rfl
theorem cosN_bd {d a t : Int} (hd : 0 ≤ d ∧ d ≤ 6000) (ha : 0 ≤ a ∧ a ≤ 2000) (ht : 0 ≤ t ∧ t ≤ 2000) : -4000000 ≤ cosN d a t ∧ cosN d a t ≤ 40000000 := by
  have h1 := mul_bd 6000 6000 hd.1 hd.2 hd.1 hd.2
  have h2 := mul_bd 2000 2000 ha.1 ha.2 ha.1 ha.2
  have h3 := mul_bd 2000 2000 ht.1 ht.2 ht.1 ht.2
  unfold cosN; omega
theorem cosD_bd {d a : Int} (hd : 0 ≤ d ∧ d ≤ 6000) (ha : 0 ≤ a ∧ a ≤ 2000) : 0 ≤ cosD d a ∧ cosD d a ≤ 24000000 := by
  have h4 := mul_bd (a := 2 * d) 12000 2000 (by omega) (by omega) ha.1 ha.2
  unfold cosD; omega

/-! greatest common divisors -/
theorem gcd_step {x y : Int} (h1 : 0 ≤ x) (h2 : 0 ≤ y) : Int.gcd (y % x) x = Int.gcd x y := by
  obtain ⟨n, rfl⟩ := Int.eq_ofNat_of_zero_le h1
  obtain ⟨m, rfl⟩ := Int.eq_ofNat_of_zero_le h2
  rw [← Int.natCast_emod]
  simp only [Int.gcd_natCast_natCast]
  exact (Nat.gcd_rec n m).symm
theorem k77 (a b : Int) (ha : 0 ≤ a ∧ a ≤ 1000000000000) (hb : 0 ≤ b ∧ b ≤ 1000000000000) : FnA Try.prog 77 [.int .i64 a, .int .i64 b] (· = .int .i64 (Int.gcd a b)) := by
  refine fnA 2 ok77 (by simp) ?_
  (conv => whnf); (repeat' (first | (refine bT ?_; conv => whnf) | (refine bF ?_; conv => whnf) | (refine bN ?_) | (refine bD (fun hh => ?_) (fun hh => ?_) <;> (conv => whnf)) | (refine bEq (fun hh => ?_) (fun hh => ?_) <;> (conv => whnf)) | (refine bNe (fun hh => ?_) (fun hh => ?_) <;> (conv => whnf)) | (refine wIn (by omega) ?_; conv => whnf) | (refine nI (by omega) ?_; conv => whnf)))
  refine loop_i (α := Int × Int) (fun x => [(0, .int .i64 x.1), (1, .int .i64 x.2)]) (fun x => [.fresh, .fresh]) (fun x => 0 ≤ x.1 ∧ 0 ≤ x.2 ∧ Int.gcd x.1 x.2 = Int.gcd a b) (fun x => x.1.toNat) (a, b) (meets_id (by (repeat' apply And.intro) <;> first | rfl | trivial | (intro hh; cases hh))) ⟨ha.1, hb.1, rfl⟩ ?_
  rintro ⟨x, y⟩ ⟨h1, h2, h3⟩
  simp only at h1 h2 h3
  conv => whnf
  refine bNe (fun h4 => ?_) (fun h4 => ?_)
  · conv => whnf
    refine nI h4 ?_
    conv => whnf
    have e : y.tmod x = y % x := Int.tmod_eq_emod_of_nonneg h2
    have h5 := Int.emod_nonneg y h4
    have h6 := Int.emod_lt_of_pos y (show 0 < x by omega)
    refine ⟨(y.tmod x, x), (meets_id (by (repeat' apply And.intro) <;> first | rfl | trivial | (intro hh; cases hh))), ⟨by simp only [e]; exact h5, h1, ?_⟩, ?_⟩
    · simp only [e]
      rw [← h3]; exact gcd_step h1 h2
    · simp only [e]; omega
  · conv => whnf
    subst h4
    rw [← h3]
    simp; omega

/-! reduced fractions -/
def redN (n d : Int) : Int := n.tdiv (Int.gcd n d)
def redD (n d : Int) : Int := d.tdiv (Int.gcd n d)
theorem gcd_max (n d : Int) : Int.gcd (max n (0 - n)) d = Int.gcd n d := by
  by_cases h : 0 ≤ n
  · rw [Int.max_eq_left (by omega)]
  · rw [Int.max_eq_right (by omega), Int.zero_sub, Int.neg_gcd]
theorem gcd_bd {n d : Int} (hd : 1 ≤ d) : 1 ≤ (Int.gcd n d : Int) ∧ (Int.gcd n d : Int) ≤ d := by
  have h1 : 0 < Int.gcd n d := Int.gcd_pos_of_ne_zero_right n (by omega)
  have h2 := Int.le_of_dvd (by omega) (Int.gcd_dvd_right n d)
  omega
theorem tdiv_abs {a b : Int} (hb : 1 ≤ b) (B : Int) (h1 : -B ≤ a) (h2 : a ≤ B) : -B ≤ a.tdiv b ∧ a.tdiv b ≤ B := by
  by_cases h : 0 ≤ a
  · rw [Int.tdiv_eq_ediv_of_nonneg h]
    have h3 := Int.ediv_nonneg h (show 0 ≤ b by omega)
    have h4 := Int.ediv_le_self b h
    omega
  · have e : a.tdiv b = - ((-a) / b) := by
      have := Int.neg_tdiv (a := -a) (b := b)
      rw [Int.neg_neg] at this
      rw [this, Int.tdiv_eq_ediv_of_nonneg (by omega)]
    have h3 := Int.ediv_nonneg (show 0 ≤ -a by omega) (show 0 ≤ b by omega)
    have h4 := Int.ediv_le_self b (show 0 ≤ -a by omega)
    omega
theorem k58 (n d : Int) (hn : -100000000 ≤ n ∧ n ≤ 100000000) (hd : 1 ≤ d ∧ d ≤ 100000000) : FnA Try.prog 58 [.agg [.int .i64 n, .int .i64 d]] (· = .agg [.int .i64 (redN n d), .int .i64 (redD n d)]) := by
  have hg := gcd_bd (n := n) hd.1
  have h1 := tdiv_abs (a := n) hg.1 100000000 (by omega) (by omega)
  have h2 := tdiv_abs (a := d) hg.1 100000000 (by omega) (by omega)
  have hm : max n (0 - n) ≤ 100000000 ∧ 0 ≤ max n (0 - n) := by omega
  refine fnA 2 ok58 (by simp) ?_
  (conv => whnf); (repeat' (first | (refine bT ?_; conv => whnf) | (refine bF ?_; conv => whnf) | (refine bN ?_) | (refine bD (fun hh => ?_) (fun hh => ?_) <;> (conv => whnf)) | (refine bEq (fun hh => ?_) (fun hh => ?_) <;> (conv => whnf)) | (refine bNe (fun hh => ?_) (fun hh => ?_) <;> (conv => whnf)) | (refine wIn (by omega) ?_; conv => whnf) | (refine nI (by omega) ?_; conv => whnf)))
  refine (k77 (max n (0 - n)) d ⟨hm.2, by omega⟩ (by omega)).callq rfl rfl (fun r (hr : r = _) => ?_)
  rw [gcd_max] at hr
  subst hr
  (conv => whnf); (repeat' (first | (refine bT ?_; conv => whnf) | (refine bF ?_; conv => whnf) | (refine bN ?_) | (refine bD (fun hh => ?_) (fun hh => ?_) <;> (conv => whnf)) | (refine bEq (fun hh => ?_) (fun hh => ?_) <;> (conv => whnf)) | (refine bNe (fun hh => ?_) (fun hh => ?_) <;> (conv => whnf)) | (refine wIn (by omega) ?_; conv => whnf) | (refine nI (by omega) ?_; conv => whnf)))
  all_goals rfl

theorem mul_ab {a b : Int} (A B : Int) (h1 : -A ≤ a) (h2 : a ≤ A) (h3 : 0 ≤ b) (h4 : b ≤ B) : -(A * B) ≤ a * b ∧ a * b ≤ A * B := by
  by_cases h : 0 ≤ a
  · have := mul_bd A B h h2 h3 h4
    omega
  · have := mul_bd (a := -a) A B (by omega) (by omega) h3 h4
    rw [Int.neg_mul] at this
    omega

/-- what is known of a section's sides -/
def knw (s : Sec) (p : Int → Int → Bool) : Int := if s.sides.all (fun q => p q.1 q.2) then 1 else if s.sides.any (fun q => p q.1 q.2) then 3 else 2
theorem take_all {α : Type} (l : List α) (p : α → Bool) {k : Nat} {q : α} (h : l[k]? = some q) : (l.take (k + 1)).all p = ((l.take k).all p && p q) := by
  obtain ⟨h1, rfl⟩ := List.getElem?_eq_some_iff.1 h
  rw [List.take_succ_eq_append_getElem h1, List.all_append]; simp
theorem take_any {α : Type} (l : List α) (p : α → Bool) {k : Nat} {q : α} (h : l[k]? = some q) : (l.take (k + 1)).any p = ((l.take k).any p || p q) := by
  obtain ⟨h1, rfl⟩ := List.getElem?_eq_some_iff.1 h
  rw [List.take_succ_eq_append_getElem h1, List.any_append]; simp
theorem k59_3 (s : Sec) (hok : s.ok) (h : FuncId) (a b c : List AV) (p : Int → Int → Bool)
    (hg : ∀ x y, (s.al ≤ x ∧ x ≤ s.ah) → (s.sl ≤ y ∧ y ≤ s.sh) → FnV Try.prog (.fn h [.ipt a, .ipt b, .ipt c]) [.int .i64 x, .int .i64 y] (· = .bool (p x y))) : FnA Try.prog 59 [.agg s.av, .fn h [.ipt a, .ipt b, .ipt c]] (· = .int .i64 (knw s p)) := by
  refine fnA 4 ok59 (by simp) ?_
  (conv => whnf); (repeat' (first | (refine bT ?_; conv => whnf) | (refine bF ?_; conv => whnf) | (refine bN ?_) | (refine bD (fun hh => ?_) (fun hh => ?_) <;> (conv => whnf)) | (refine bEq (fun hh => ?_) (fun hh => ?_) <;> (conv => whnf)) | (refine bNe (fun hh => ?_) (fun hh => ?_) <;> (conv => whnf)) | (refine (k75 s).callzq rfl rfl (fun r (hr : r = _) => ?_); subst hr; conv => whnf) | (refine wIn (by omega) ?_; conv => whnf) | (refine nI (by omega) ?_; conv => whnf)))
  refine rng_i (α := Bool × Bool) (s.sides.map pairAV) [0, 1, 2, 3] [(2, .own 0 0), (3, .own 1 0), (5, .own 2 0), (6, .own 3 0)] (fun x => [.box false s.av, .box false [.fn h [.ipt a, .ipt b, .ipt c]], .box false [.bool x.1], .box false [.bool x.2]])
    (fun k x => x.1 = (s.sides.take k).all (fun q => p q.1 q.2) ∧ x.2 = (s.sides.take k).any (fun q => p q.1 q.2)) (true, false) rfl rfl rfl bd83 (i83 s hok) rfl (meets_id (by (repeat' apply And.intro) <;> first | rfl | trivial | (intro hh; cases hh))) rfl ⟨by simp, by simp⟩ (fun v hv => by obtain ⟨q, _, rfl⟩ := List.mem_map.1 hv; rfl) ?_ ?_
  · rintro k v ⟨e, o⟩ hv ⟨h1, h2⟩
    obtain ⟨q, hq, rfl⟩ : ∃ q, s.sides[k]? = some q ∧ pairAV q = v := by simpa using hv
    have hm := mem_sides.1 (List.mem_of_getElem? hq)
    simp only at h1 h2
    conv => whnf
    refine (hg q.1 q.2 hm.1 hm.2).vcallq rfl rfl rfl rfl (fun r (hr : r = _) => ?_)
    subst hr
    conv => whnf
    refine bS (fun h3 => ?_) (fun h3 => ?_)
    · conv => whnf
      exact ⟨(e, true), (meets_id (by (repeat' apply And.intro) <;> first | rfl | trivial | (intro hh; cases hh))), by rw [take_all _ _ hq, h1, h3]; simp, by rw [take_any _ _ hq, h3]; simp⟩
    · conv => whnf
      exact ⟨(false, o), (meets_id (by (repeat' apply And.intro) <;> first | rfl | trivial | (intro hh; cases hh))), by rw [take_all _ _ hq, h3]; simp, by rw [take_any _ _ hq, h2, h3]; simp⟩
  · rintro ⟨e, o⟩ ⟨h1, h2⟩
    have hlen : (s.sides.map pairAV).length = s.sides.length := by simp
    rw [hlen, List.take_length] at h1 h2
    simp only at h1 h2
    subst h1 h2
    (conv => whnf); (repeat' (first | (refine bT ?_; conv => whnf) | (refine bF ?_; conv => whnf) | (refine bN ?_) | (refine bD (fun hh => ?_) (fun hh => ?_) <;> (conv => whnf)) | (refine bEq (fun hh => ?_) (fun hh => ?_) <;> (conv => whnf)) | (refine bNe (fun hh => ?_) (fun hh => ?_) <;> (conv => whnf)) | (refine (k65 _ _).callq rfl rfl (fun r (hr : r = _) => ?_); subst hr; conv => whnf) | (refine wIn (by omega) ?_; conv => whnf) | (refine nI (by omega) ?_; conv => whnf)))
    all_goals rfl
theorem k59_2 (s : Sec) (hok : s.ok) (h : FuncId) (a b : List AV) (p : Int → Int → Bool)
    (hg : ∀ x y, (s.al ≤ x ∧ x ≤ s.ah) → (s.sl ≤ y ∧ y ≤ s.sh) → FnV Try.prog (.fn h [.ipt a, .ipt b]) [.int .i64 x, .int .i64 y] (· = .bool (p x y))) : FnA Try.prog 59 [.agg s.av, .fn h [.ipt a, .ipt b]] (· = .int .i64 (knw s p)) := by
  refine fnA 4 ok59 (by simp) ?_
  (conv => whnf); (repeat' (first | (refine bT ?_; conv => whnf) | (refine bF ?_; conv => whnf) | (refine bN ?_) | (refine bD (fun hh => ?_) (fun hh => ?_) <;> (conv => whnf)) | (refine bEq (fun hh => ?_) (fun hh => ?_) <;> (conv => whnf)) | (refine bNe (fun hh => ?_) (fun hh => ?_) <;> (conv => whnf)) | (refine (k75 s).callzq rfl rfl (fun r (hr : r = _) => ?_); subst hr; conv => whnf) | (refine wIn (by omega) ?_; conv => whnf) | (refine nI (by omega) ?_; conv => whnf)))
  refine rng_i (α := Bool × Bool) (s.sides.map pairAV) [0, 1, 2, 3] [(2, .own 0 0), (3, .own 1 0), (5, .own 2 0), (6, .own 3 0)] (fun x => [.box false s.av, .box false [.fn h [.ipt a, .ipt b]], .box false [.bool x.1], .box false [.bool x.2]])
    (fun k x => x.1 = (s.sides.take k).all (fun q => p q.1 q.2) ∧ x.2 = (s.sides.take k).any (fun q => p q.1 q.2)) (true, false) rfl rfl rfl bd83 (i83 s hok) rfl (meets_id (by (repeat' apply And.intro) <;> first | rfl | trivial | (intro hh; cases hh))) rfl ⟨by simp, by simp⟩ (fun v hv => by obtain ⟨q, _, rfl⟩ := List.mem_map.1 hv; rfl) ?_ ?_
  · rintro k v ⟨e, o⟩ hv ⟨h1, h2⟩
    obtain ⟨q, hq, rfl⟩ : ∃ q, s.sides[k]? = some q ∧ pairAV q = v := by simpa using hv
    have hm := mem_sides.1 (List.mem_of_getElem? hq)
    simp only at h1 h2
    conv => whnf
    refine (hg q.1 q.2 hm.1 hm.2).vcallq rfl rfl rfl rfl (fun r (hr : r = _) => ?_)
    subst hr
    conv => whnf
    refine bS (fun h3 => ?_) (fun h3 => ?_)
    · conv => whnf
      exact ⟨(e, true), (meets_id (by (repeat' apply And.intro) <;> first | rfl | trivial | (intro hh; cases hh))), by rw [take_all _ _ hq, h1, h3]; simp, by rw [take_any _ _ hq, h3]; simp⟩
    · conv => whnf
      exact ⟨(false, o), (meets_id (by (repeat' apply And.intro) <;> first | rfl | trivial | (intro hh; cases hh))), by rw [take_all _ _ hq, h3]; simp, by rw [take_any _ _ hq, h2, h3]; simp⟩
  · rintro ⟨e, o⟩ ⟨h1, h2⟩
    have hlen : (s.sides.map pairAV).length = s.sides.length := by simp
    rw [hlen, List.take_length] at h1 h2
    simp only at h1 h2
    subst h1 h2
    (conv => whnf); (repeat' (first | (refine bT ?_; conv => whnf) | (refine bF ?_; conv => whnf) | (refine bN ?_) | (refine bD (fun hh => ?_) (fun hh => ?_) <;> (conv => whnf)) | (refine bEq (fun hh => ?_) (fun hh => ?_) <;> (conv => whnf)) | (refine bNe (fun hh => ?_) (fun hh => ?_) <;> (conv => whnf)) | (refine (k65 _ _).callq rfl rfl (fun r (hr : r = _) => ?_); subst hr; conv => whnf) | (refine wIn (by omega) ?_; conv => whnf) | (refine nI (by omega) ?_; conv => whnf)))
    all_goals rfl

/-! the ends of the cosine -/
abbrev FF := (Int × Int) × (Int × Int)
def cstep (d : Int) (x : FF) (q : Int × Int) : FF :=
  (if cosN d q.1 q.2 * x.1.2 < x.1.1 * cosD d q.1 then (cosN d q.1 q.2, cosD d q.1) else x.1,
   if x.2.1 * cosD d q.1 < cosN d q.1 q.2 * x.2.2 then (cosN d q.1 q.2, cosD d q.1) else x.2)
def cosF (s : Sec) (d : Int) : FF := s.sides.foldl (cstep d) ((cosN d s.al s.sl, cosD d s.al), (cosN d s.al s.sl, cosD d s.al))
def fbd (q : Int × Int) : Prop := (-40000000 ≤ q.1 ∧ q.1 ≤ 40000000) ∧ 0 ≤ q.2 ∧ q.2 ≤ 24000000
theorem cos_fbd {s : Sec} (hok : s.ok) {d : Int} (hd : 0 ≤ d ∧ d ≤ 6000) {q : Int × Int} (hq : q ∈ s.sides) : fbd (cosN d q.1 q.2, cosD d q.1) := by
  have hm := mem_sides.1 hq
  have h1 := hok.1
  have h2 := hok.2.1
  unfold okSpan at h1 h2
  have h3 := cosN_bd (d := d) (a := q.1) (t := q.2) hd (by omega) (by omega)
  have h4 := cosD_bd (d := d) (a := q.1) hd (by omega)
  unfold fbd; omega
theorem k57 (s : Sec) (d : Int) (hok : s.ok) (hd : 0 ≤ d ∧ d ≤ 6000) : FnA Try.prog 57 [.agg s.av, .int .i64 d] (· = .tup [.agg [.int .i64 (cosF s d).1.1, .int .i64 (cosF s d).1.2], .agg [.int .i64 (cosF s d).2.1, .int .i64 (cosF s d).2.2]]) := by
  have h1 := hok.1
  have h2 := hok.2.1
  unfold okSpan at h1 h2
  have h0 : (s.al, s.sl) ∈ s.sides := mem_sides.2 ⟨⟨by simp, by simp; omega⟩, by simp, by simp; omega⟩
  have hf0 := cos_fbd hok hd h0
  refine fnA 5 ok57 (by simp) ?_
  (conv => whnf); (repeat' (first | (refine bT ?_; conv => whnf) | (refine bF ?_; conv => whnf) | (refine bN ?_) | (refine bD (fun hh => ?_) (fun hh => ?_) <;> (conv => whnf)) | (refine bEq (fun hh => ?_) (fun hh => ?_) <;> (conv => whnf)) | (refine bNe (fun hh => ?_) (fun hh => ?_) <;> (conv => whnf)) | (refine (k74 _ _ _ hd (by omega) (by omega)).callq rfl rfl (fun r (hr : r = _) => ?_); subst hr; conv => whnf) | (refine (k75 s).callzq rfl rfl (fun r (hr : r = _) => ?_); subst hr; conv => whnf) | (refine wIn (by omega) ?_; conv => whnf) | (refine nI (by omega) ?_; conv => whnf)))
  refine rng_i (α := FF) (s.sides.map pairAV) [0, 1, 2, 3] [(2, .own 0 0), (3, .own 1 0), (4, .own 2 0), (5, .own 3 0)] (fun x => [.box false s.av, .box false [.int .i64 d], .box false [.int .i64 x.1.1, .int .i64 x.1.2], .box false [.int .i64 x.2.1, .int .i64 x.2.2], .fresh])
    (fun k x => x = (s.sides.take k).foldl (cstep d) ((cosN d s.al s.sl, cosD d s.al), (cosN d s.al s.sl, cosD d s.al)) ∧ fbd x.1 ∧ fbd x.2) ((cosN d s.al s.sl, cosD d s.al), (cosN d s.al s.sl, cosD d s.al)) rfl rfl rfl bd83 (i83 s hok) rfl (meets_id (by (repeat' apply And.intro) <;> first | rfl | trivial | (intro hh; cases hh))) rfl ⟨by simp, hf0, hf0⟩ (fun v hv => by obtain ⟨q, _, rfl⟩ := List.mem_map.1 hv; rfl) ?_ ?_
  · rintro k v ⟨⟨ln, ld⟩, hn, hd'⟩ hv ⟨h3, h4, h5⟩
    obtain ⟨q, hq, rfl⟩ : ∃ q, s.sides[k]? = some q ∧ pairAV q = v := by simpa using hv
    have hqm := List.mem_of_getElem? hq
    have hm := mem_sides.1 hqm
    have hc := cos_fbd hok hd hqm
    have hst : (s.sides.take (k + 1)).foldl (cstep d) ((cosN d s.al s.sl, cosD d s.al), (cosN d s.al s.sl, cosD d s.al)) = cstep d ((ln, ld), (hn, hd')) q := by
      obtain ⟨hk, rfl⟩ := List.getElem?_eq_some_iff.1 hq
      rw [List.take_succ_eq_append_getElem hk, List.foldl_append, ← h3]; rfl
    clear h3
    simp only [fbd] at h4 h5 hc
    have m1 := mul_ab 40000000 24000000 hc.1.1 hc.1.2 h4.2.1 h4.2.2
    have m2 := mul_ab 40000000 24000000 h4.1.1 h4.1.2 hc.2.1 hc.2.2
    have m3 := mul_ab 40000000 24000000 h5.1.1 h5.1.2 hc.2.1 hc.2.2
    have m4 := mul_ab 40000000 24000000 hc.1.1 hc.1.2 h5.2.1 h5.2.2
    (conv => whnf); (repeat' (first | (refine bT ?_; conv => whnf) | (refine bF ?_; conv => whnf) | (refine bN ?_) | (refine bD (fun hh => ?_) (fun hh => ?_) <;> (conv => whnf)) | (refine bEq (fun hh => ?_) (fun hh => ?_) <;> (conv => whnf)) | (refine bNe (fun hh => ?_) (fun hh => ?_) <;> (conv => whnf)) | (refine (k74 _ _ _ hd (by omega) (by omega)).callq rfl rfl (fun r (hr : r = _) => ?_); subst hr; conv => whnf) | (refine (k76 (cosN d q.1 q.2) (cosD d q.1) ln ld (by omega) (by omega)).callq rfl rfl (fun r (hr : r = _) => ?_); subst hr; conv => whnf) | (refine (k76 hn hd' (cosN d q.1 q.2) (cosD d q.1) (by omega) (by omega)).callq rfl rfl (fun r (hr : r = _) => ?_); subst hr; conv => whnf) | (refine wIn (by omega) ?_; conv => whnf) | (refine nI (by omega) ?_; conv => whnf)))
    · rename_i b1
      exact ⟨((cosN d q.1 q.2, cosD d q.1), (cosN d q.1 q.2, cosD d q.1)), (meets_id (by (repeat' apply And.intro) <;> first | rfl | trivial | (intro hh; cases hh))), by rw [hst]; simp [cstep, b1, hh], hc, hc⟩
    · rename_i b1
      exact ⟨((cosN d q.1 q.2, cosD d q.1), (hn, hd')), (meets_id (by (repeat' apply And.intro) <;> first | rfl | trivial | (intro hh; cases hh))), by rw [hst]; simp only [cstep, b1, hh, if_true, if_false], hc, h5⟩
    · rename_i b1
      exact ⟨((ln, ld), (cosN d q.1 q.2, cosD d q.1)), (meets_id (by (repeat' apply And.intro) <;> first | rfl | trivial | (intro hh; cases hh))), by rw [hst]; simp only [cstep, b1, hh, if_true, if_false], h4, hc⟩
    · rename_i b1
      exact ⟨((ln, ld), (hn, hd')), (meets_id (by (repeat' apply And.intro) <;> first | rfl | trivial | (intro hh; cases hh))), by rw [hst]; simp only [cstep, b1, hh, if_true, if_false], h4, h5⟩
  · rintro x ⟨h3, _, _⟩
    have hlen : (s.sides.map pairAV).length = s.sides.length := by simp
    rw [hlen, List.take_length] at h3
    have h3 : x = cosF s d := h3
    subst h3
    (conv => whnf); (repeat' (first | (refine bT ?_; conv => whnf) | (refine bF ?_; conv => whnf) | (refine bN ?_) | (refine bD (fun hh => ?_) (fun hh => ?_) <;> (conv => whnf)) | (refine bEq (fun hh => ?_) (fun hh => ?_) <;> (conv => whnf)) | (refine bNe (fun hh => ?_) (fun hh => ?_) <;> (conv => whnf)) | (refine wIn (by omega) ?_; conv => whnf) | (refine nI (by omega) ?_; conv => whnf)))
    all_goals rfl

/-- a section binds, so far out -/
def bind (d a t en ed : Int) : Bool := decide (d = 0) || (!decide (cosN d a t * ed < (ed - en) * cosD d a) || !decide ((0 - (ed - en)) * cosD d a < cosN d a t * ed))
def bcaps (d en ed : Int) : List AV := [.ipt [.int .i64 d], .ipt [.int .i64 (ed - en), .int .i64 ed], .ipt [.int .i64 (0 - (ed - en)), .int .i64 ed]]
theorem k78 (d a t en ed : Int) (hd : 0 ≤ d ∧ d ≤ 6000) (ha : 0 ≤ a ∧ a ≤ 2000) (ht : 0 ≤ t ∧ t ≤ 2000) (he : okPart en ed) : FnA Try.prog 78 [.int .i64 a, .int .i64 t, .ipt [.int .i64 d], .ipt [.int .i64 (ed - en), .int .i64 ed], .ipt [.int .i64 (0 - (ed - en)), .int .i64 ed]] (· = .bool (bind d a t en ed)) := by
  have h1 := cosN_bd hd ha ht
  have h2 := cosD_bd hd ha
  unfold okPart at he
  have m1 := mul_ab (a := cosN d a t) 40000000 20 (by omega) (by omega) (show 0 ≤ ed by omega) (by omega)
  have m2 := mul_ab (a := ed - en) 20 24000000 (by omega) (by omega) h2.1 h2.2
  have m3 := mul_ab (a := 0 - (ed - en)) 20 24000000 (by omega) (by omega) h2.1 h2.2
  refine fnA 2 ok78 (by simp) ?_
  (conv => whnf); (repeat' (first | (refine bT ?_; conv => whnf) | (refine bF ?_; conv => whnf) | (refine bN ?_) | (refine bD (fun hh => ?_) (fun hh => ?_) <;> (conv => whnf)) | (refine bEq (fun hh => ?_) (fun hh => ?_) <;> (conv => whnf)) | (refine bNe (fun hh => ?_) (fun hh => ?_) <;> (conv => whnf)) | (refine (k74 _ _ _ hd ha ht).callq rfl rfl (fun r (hr : r = _) => ?_); subst hr; conv => whnf) | (refine (k76 (cosN d a t) (cosD d a) (ed - en) ed (by omega) (by omega)).callq rfl rfl (fun r (hr : r = _) => ?_); subst hr; conv => whnf) | (refine (k76 (0 - (ed - en)) ed (cosN d a t) (cosD d a) (by omega) (by omega)).callq rfl rfl (fun r (hr : r = _) => ?_); subst hr; conv => whnf) | (refine wIn (by omega) ?_; conv => whnf) | (refine nI (by omega) ?_; conv => whnf)))
  all_goals (unfold bind; simp [*])
  all_goals (rename_i hh; simpa using hh)
theorem v78 (d en ed a t : Int) (hd : 0 ≤ d ∧ d ≤ 6000) (ha : 0 ≤ a ∧ a ≤ 2000) (ht : 0 ≤ t ∧ t ≤ 2000) (he : okPart en ed) : FnV Try.prog (.fn 78 [.ipt [.int .i64 d], .ipt [.int .i64 (ed - en), .int .i64 ed], .ipt [.int .i64 (0 - (ed - en)), .int .i64 ed]]) [.int .i64 a, .int .i64 t] (· = .bool (bind d a t en ed)) :=
  fnV_of bd78 (k78 d a t en ed hd ha ht he)
theorem k60 (f : Frm) (i : Nat) (r : Int) (hok : f.ok) (hi : i < f.ss.length) (h0 : 0 ≤ r) (h1 : r ≤ 2000) : FnA Try.prog 60 [.agg f.cells, .int .i64 i, .int .i64 r] (· = .fn 78 [.ipt [.int .i64 (f.dist i r)], .ipt [.int .i64 (f.ed - f.en), .int .i64 f.ed], .ipt [.int .i64 (0 - (f.ed - f.en)), .int .i64 f.ed]]) := by
  have he := hok.2.2.2.2.1
  unfold okPart at he
  refine fnA 4 ok60 (by simp) ?_
  (conv => whnf); (repeat' (first | (refine bT ?_; conv => whnf) | (refine bF ?_; conv => whnf) | (refine bN ?_) | (refine bD (fun hh => ?_) (fun hh => ?_) <;> (conv => whnf)) | (refine bEq (fun hh => ?_) (fun hh => ?_) <;> (conv => whnf)) | (refine bNe (fun hh => ?_) (fun hh => ?_) <;> (conv => whnf)) | (refine (k53 f i r hok hi h0 h1).callq rfl rfl (fun r (hr : r = _) => ?_); subst hr; conv => whnf) | (refine wIn (by omega) ?_; conv => whnf) | (refine nI (by omega) ?_; conv => whnf)))
  all_goals rfl
instance : Inhabited Sec := ⟨⟨0, 0, 0, 0, 0, 0, 0⟩⟩
theorem sec_ok {f : Frm} (hok : f.ok) {i : Nat} (hi : i < f.ss.length) : (f.ss[i]).ok := hok.2.2.1 _ (List.getElem_mem hi)
theorem pos_ok {f : Frm} {i r : Int} (h : f.pos i r = 0) : f.ok ∧ (0 ≤ i ∧ i < f.ss.length) ∧ f.lo ≤ r ∧ r ≤ f.hi ∧ 1 ≤ r ∧ r ≤ 2000 := by
  unfold Frm.pos at h
  split at h
  · rename_i hok
    split at h
    · rename_i h2
      have h3 := hok.2.2.2.1
      unfold okSpan at h3
      exact ⟨hok, h2.1, h2.2.1, h2.2.2, by omega, by omega⟩
    · cases h
  · cases h
theorem pos_zero {f : Frm} {i r : Int} (hok : f.ok) (hi : 0 ≤ i ∧ i < f.ss.length) (hr : f.lo ≤ r ∧ r ≤ f.hi) : f.pos i r = 0 := by
  unfold Frm.pos; rw [if_pos hok, if_pos ⟨hi, hr⟩]
/-- what is said of binding -/
def Frm.bnd (f : Frm) (i : Nat) (r : Int) : Int := knw (f.ss.getD i default) (fun a t => bind (f.dist i r) a t f.en f.ed)
theorem k20 (f : Frm) (i : Nat) (r : Int) (h : f.pos i r = 0) : FnA Try.prog 20 [.agg f.cells, .int .i64 i, .int .i64 r] (· = .tup [.int .i64 (f.bnd i r), .int .i64 0]) := by
  obtain ⟨hok, hi, h1, h2, h3, h4⟩ := pos_ok h
  have hi' : i < f.ss.length := by omega
  have hL : (f.ss.map Sec.av).length = f.ss.length := by simp
  have hs := sec_ok hok hi'
  have hd := Frm.dist_bd hok i (show 0 ≤ r by omega) h4
  have he := hok.2.2.2.2.1
  have hsec : f.ss.getD i default = f.ss[i] := by simp [List.getD_eq_getElem?_getD, hi']
  refine fnA 2 ok20 (by simp) ?_
  (conv => whnf); (repeat' (first | (refine bT ?_; conv => whnf) | (refine bF ?_; conv => whnf) | (refine bN ?_) | (refine bD (fun hh => ?_) (fun hh => ?_) <;> (conv => whnf)) | (refine bEq (fun hh => ?_) (fun hh => ?_) <;> (conv => whnf)) | (refine bNe (fun hh => ?_) (fun hh => ?_) <;> (conv => whnf)) | (refine (k52 f _ _).callq rfl rfl (fun r (hr : r = _) => ?_); subst hr; conv => whnf) | (refine wIn (by omega) ?_; conv => whnf) | (refine nI (by omega) ?_; conv => whnf)))
  all_goals (first | exact absurd h (by assumption) | skip)
  refine iaI (by omega) (by omega) (getD_map Sec.av f.ss i hi') ?_
  (conv => whnf); (repeat' (first | (refine bT ?_; conv => whnf) | (refine bF ?_; conv => whnf) | (refine bN ?_) | (refine bD (fun hh => ?_) (fun hh => ?_) <;> (conv => whnf)) | (refine bEq (fun hh => ?_) (fun hh => ?_) <;> (conv => whnf)) | (refine bNe (fun hh => ?_) (fun hh => ?_) <;> (conv => whnf)) | (refine (k60 f i r hok hi' (by omega) h4).callzq rfl rfl (fun r (hr : r = _) => ?_); subst hr; conv => whnf) | (refine (k59_3 f.ss[i] hs 78 _ _ _ (fun a t => bind (f.dist i r) a t f.en f.ed) (fun x y hx hy => v78 _ _ _ _ _ hd (by have := hs.1; unfold okSpan at this; omega) (by have := hs.2.1; unfold okSpan at this; omega) he)).callq rfl rfl (fun r (hr : r = _) => ?_); subst hr; conv => whnf) | (refine wIn (by omega) ?_; conv => whnf) | (refine nI (by omega) ?_; conv => whnf)))
  all_goals (unfold Frm.bnd; rw [hsec])

theorem cosF_mem (s : Sec) (d : Int) (h0 : (s.al, s.sl) ∈ s.sides) : (∃ q ∈ s.sides, (cosF s d).1 = (cosN d q.1 q.2, cosD d q.1)) ∧ ∃ q ∈ s.sides, (cosF s d).2 = (cosN d q.1 q.2, cosD d q.1) := by
  have key : ∀ (l : List (Int × Int)) (x : FF), (∀ q ∈ l, q ∈ s.sides) → (∃ q ∈ s.sides, x.1 = (cosN d q.1 q.2, cosD d q.1)) → (∃ q ∈ s.sides, x.2 = (cosN d q.1 q.2, cosD d q.1)) → (∃ q ∈ s.sides, (l.foldl (cstep d) x).1 = (cosN d q.1 q.2, cosD d q.1)) ∧ ∃ q ∈ s.sides, (l.foldl (cstep d) x).2 = (cosN d q.1 q.2, cosD d q.1) := by
    intro l
    induction l with
    | nil => intro x _ h1 h2; exact ⟨h1, h2⟩
    | cons q l ih =>
      intro x hl h1 h2
      refine ih _ (fun q hq => hl q (by simp [hq])) ?_ ?_
      · simp only [cstep]; split
        · exact ⟨q, hl q (by simp), rfl⟩
        · exact h1
      · simp only [cstep]; split
        · exact ⟨q, hl q (by simp), rfl⟩
        · exact h2
  exact key s.sides _ (fun _ h => h) ⟨_, h0, rfl⟩ ⟨_, h0, rfl⟩
theorem fst_side {s : Sec} (hok : s.ok) : (s.al, s.sl) ∈ s.sides := by
  have h1 := hok.1
  have h2 := hok.2.1
  unfold okSpan at h1 h2
  exact mem_sides.2 ⟨⟨by simp, by simp; omega⟩, by simp, by simp; omega⟩
theorem cos_rbd {s : Sec} (hok : s.ok) {d : Int} (hd : 1 ≤ d ∧ d ≤ 6000) {q : Int × Int} (hq : q ∈ s.sides) : (-100000000 ≤ cosN d q.1 q.2 ∧ cosN d q.1 q.2 ≤ 100000000) ∧ 1 ≤ cosD d q.1 ∧ cosD d q.1 ≤ 100000000 := by
  have h := cos_fbd hok (d := d) (by omega) hq
  have hm := mem_sides.1 hq
  have h1 := hok.1
  unfold okSpan at h1
  have h2 : 1 * 1 ≤ d * q.1 := Int.mul_le_mul hd.1 (by omega) (by omega) (by omega)
  unfold fbd at h
  have h3 : cosD d q.1 = 2 * (d * q.1) := by unfold cosD; rw [Int.mul_assoc]
  omega
theorem cosF_bd {s : Sec} (hok : s.ok) {d : Int} (hd : 1 ≤ d ∧ d ≤ 6000) : ((-100000000 ≤ (cosF s d).1.1 ∧ (cosF s d).1.1 ≤ 100000000) ∧ 1 ≤ (cosF s d).1.2 ∧ (cosF s d).1.2 ≤ 100000000) ∧ (-100000000 ≤ (cosF s d).2.1 ∧ (cosF s d).2.1 ≤ 100000000) ∧ 1 ≤ (cosF s d).2.2 ∧ (cosF s d).2.2 ≤ 100000000 := by
  obtain ⟨⟨q, hq, e⟩, ⟨q', hq', e'⟩⟩ := cosF_mem s d (fst_side hok)
  rw [e, e']
  exact ⟨cos_rbd hok hd hq, cos_rbd hok hd hq'⟩
def fz : AV := .agg [.int .i64 0, .int .i64 0]
def fr (q : Int × Int) : AV := .agg [.int .i64 (redN q.1 q.2), .int .i64 (redD q.1 q.2)]
theorem k18 (f : Frm) (i : Nat) (r : Int) (h : f.pos i r = 0) : FnA Try.prog 18 [.agg f.cells, .int .i64 i, .int .i64 r] (· = if f.dist i r = 0 then .tup [fz, fz, .int .i64 3] else .tup [fr (cosF (f.ss.getD i default) (f.dist i r)).1, fr (cosF (f.ss.getD i default) (f.dist i r)).2, .int .i64 0]) := by
  obtain ⟨hok, hi, h1, h2, h3, h4⟩ := pos_ok h
  have hi' : i < f.ss.length := by omega
  have hL : (f.ss.map Sec.av).length = f.ss.length := by simp
  have hs := sec_ok hok hi'
  have hd := Frm.dist_bd hok i (show 0 ≤ r by omega) h4
  have hsec : f.ss.getD i default = f.ss[i] := by simp [List.getD_eq_getElem?_getD, hi']
  rw [hsec]
  refine fnA 3 ok18 (by simp) ?_
  (conv => whnf); (repeat' (first | (refine bT ?_; conv => whnf) | (refine bF ?_; conv => whnf) | (refine bN ?_) | (refine bD (fun hh => ?_) (fun hh => ?_) <;> (conv => whnf)) | (refine bEq (fun hh => ?_) (fun hh => ?_) <;> (conv => whnf)) | (refine bNe (fun hh => ?_) (fun hh => ?_) <;> (conv => whnf)) | (refine (k52 f _ _).callq rfl rfl (fun r (hr : r = _) => ?_); subst hr; conv => whnf) | (refine (k53 f i r hok hi' (by omega) h4).callq rfl rfl (fun r (hr : r = _) => ?_); subst hr; conv => whnf) | (refine wIn (by omega) ?_; conv => whnf) | (refine nI (by omega) ?_; conv => whnf)))
  all_goals (first | exact absurd h (by assumption) | skip)
  · rw [if_pos (by assumption)]; rfl
  · have hne : f.dist i r ≠ 0 := by assumption
    have hb := cosF_bd hs (d := f.dist i r) (by omega)
    refine iaI (by omega) (by omega) (getD_map Sec.av f.ss i hi') ?_
    (conv => whnf); (repeat' (first | (refine bT ?_; conv => whnf) | (refine bF ?_; conv => whnf) | (refine bN ?_) | (refine bD (fun hh => ?_) (fun hh => ?_) <;> (conv => whnf)) | (refine bEq (fun hh => ?_) (fun hh => ?_) <;> (conv => whnf)) | (refine bNe (fun hh => ?_) (fun hh => ?_) <;> (conv => whnf)) | (refine (k57 f.ss[i] _ hs hd).callq rfl rfl (fun r (hr : r = _) => ?_); subst hr; conv => whnf) | (refine (k58 _ _ hb.1.1 hb.1.2).callq rfl rfl (fun r (hr : r = _) => ?_); subst hr; conv => whnf) | (refine (k58 _ _ hb.2.1 hb.2.2).callq rfl rfl (fun r (hr : r = _) => ?_); subst hr; conv => whnf) | (refine wIn (by omega) ?_; conv => whnf) | (refine nI (by omega) ?_; conv => whnf)))
    all_goals (rw [if_neg hne]; rfl)

/-! The specification's own functions. -/
theorem k50 (n lo hi : Int) : FnA Try.prog 50 [.int .i64 n, .int .i64 lo, .int .i64 hi] (· = .bool (decide (lo ≤ n ∧ n ≤ hi))) := by
  refine fnA 2 ok50 (by simp) ?_
  (conv => whnf); (repeat' (first | (refine bT ?_; conv => whnf) | (refine bF ?_; conv => whnf) | (refine bN ?_) | (refine bD (fun hh => ?_) (fun hh => ?_) <;> first | (exfalso; omega) | (conv => whnf)) | (refine bEq (fun hh => ?_) (fun hh => ?_) <;> first | (exfalso; omega) | (conv => whnf)) | (refine bNe (fun hh => ?_) (fun hh => ?_) <;> first | (exfalso; omega) | (conv => whnf)) | (refine wIn (by omega) ?_; conv => whnf) | (refine nI (by omega) ?_; conv => whnf)))
  all_goals first | rfl | exact congrArg AV.bool (decide_eq_decide.2 (by omega)) | exact congrArg AV.bool (decide_eq_true (by omega)).symm | exact congrArg AV.bool (decide_eq_false (by omega)).symm
theorem k49 (a b : Int) : FnA Try.prog 49 [.agg [.int .i64 a, .int .i64 b]] (· = .bool (decide (okSpan a b 6))) := by
  refine fnA 2 ok49 (by simp) ?_
  unfold okSpan
  (conv => whnf); (repeat' (first | (refine bT ?_; conv => whnf) | (refine bF ?_; conv => whnf) | (refine bN ?_) | (refine bD (fun hh => ?_) (fun hh => ?_) <;> first | (exfalso; omega) | (conv => whnf)) | (refine bEq (fun hh => ?_) (fun hh => ?_) <;> first | (exfalso; omega) | (conv => whnf)) | (refine bNe (fun hh => ?_) (fun hh => ?_) <;> first | (exfalso; omega) | (conv => whnf)) | (refine (k50 _ _ _).callq rfl rfl (fun r (hr : r = _) => ?_); subst hr; conv => whnf) | (refine wIn (by omega) ?_; conv => whnf) | (refine nI (by omega) ?_; conv => whnf)))
  all_goals first | rfl | exact congrArg AV.bool (decide_eq_decide.2 (by omega)) | exact congrArg AV.bool (decide_eq_true (by omega)).symm | exact congrArg AV.bool (decide_eq_false (by omega)).symm
theorem k51 (a b : Int) : FnA Try.prog 51 [.agg [.int .i64 a, .int .i64 b]] (· = .bool (decide (okPart a b))) := by
  refine fnA 2 ok51 (by simp) ?_
  unfold okPart
  (conv => whnf); (repeat' (first | (refine bT ?_; conv => whnf) | (refine bF ?_; conv => whnf) | (refine bN ?_) | (refine bD (fun hh => ?_) (fun hh => ?_) <;> first | (exfalso; omega) | (conv => whnf)) | (refine bEq (fun hh => ?_) (fun hh => ?_) <;> first | (exfalso; omega) | (conv => whnf)) | (refine bNe (fun hh => ?_) (fun hh => ?_) <;> first | (exfalso; omega) | (conv => whnf)) | (refine (k50 _ _ _).callq rfl rfl (fun r (hr : r = _) => ?_); subst hr; conv => whnf) | (refine wIn (by omega) ?_; conv => whnf) | (refine nI (by omega) ?_; conv => whnf)))
  all_goals first | rfl | exact congrArg AV.bool (decide_eq_decide.2 (by omega)) | exact congrArg AV.bool (decide_eq_true (by omega)).symm | exact congrArg AV.bool (decide_eq_false (by omega)).symm
theorem k15 (f : Frm) (hn : f.ss.length ≤ 1000000000000) : FnA Try.prog 15 [.agg f.cells] (· = .int .i64 (if f.ok then 0 else 10)) := by
  have hL : (f.ss.map Sec.av).length = f.ss.length := by simp
  refine fnA 2 ok15 (by simp) ?_
  (conv => whnf); (repeat' (first | (refine bT ?_; conv => whnf) | (refine bF ?_; conv => whnf) | (refine bN ?_) | (refine bD (fun hh => ?_) (fun hh => ?_) <;> (conv => whnf)) | (refine bEq (fun hh => ?_) (fun hh => ?_) <;> (conv => whnf)) | (refine bNe (fun hh => ?_) (fun hh => ?_) <;> (conv => whnf)) | (refine wIn (by omega) ?_; conv => whnf) | (refine nI (by omega) ?_; conv => whnf)))
  refine loop_i (α := Nat) (fun k => [(3, .int .i64 k), (1, .own 0 0)]) (fun k => [.box false f.cells, .fresh]) (fun k => k ≤ f.ss.length ∧ ∀ s ∈ f.ss.take k, s.ok) (fun k => f.ss.length - k) 0 (meets_id (by (repeat' apply And.intro) <;> first | rfl | trivial | (intro hh; cases hh))) ⟨by omega, by simp⟩ ?_
  rintro k ⟨h1, h2⟩
  conv => whnf
  refine bD (fun h3 => ?_) (fun h3 => ?_)
  · conv => whnf
    have hk : k < f.ss.length := by omega
    refine iaI (by omega) (by omega) (getD_map Sec.av f.ss k hk) ?_
    generalize hsk : f.ss[k] = s
    have hms : s ∈ f.ss := hsk ▸ List.getElem_mem hk
    by_cases hs : s.ok
    · obtain ⟨s1, s2, s3, s4⟩ := hs
      (conv => whnf); (repeat' (first | (refine bT ?_; conv => whnf) | (refine bF ?_; conv => whnf) | (refine bN ?_) | (refine bD (fun hh => ?_) (fun hh => ?_) <;> (conv => whnf)) | (refine bEq (fun hh => ?_) (fun hh => ?_) <;> (conv => whnf)) | (refine bNe (fun hh => ?_) (fun hh => ?_) <;> (conv => whnf)) | (refine (k49 _ _).callq rfl rfl (fun r (hr : r = _) => ?_); subst hr; conv => whnf) | (refine (k51 _ _).callq rfl rfl (fun r (hr : r = _) => ?_); subst hr; conv => whnf) | (refine (k50 _ _ _).callq rfl rfl (fun r (hr : r = _) => ?_); subst hr; conv => whnf) | (refine wIn (by omega) ?_; conv => whnf) | (refine nI (by omega) ?_; conv => whnf)))
      all_goals first
        | exact absurd s1 (by assumption)
        | exact absurd s2 (by assumption)
        | exact absurd s3 (by assumption)
        | exact absurd s4 (by assumption)
        | skip
      refine ⟨k + 1, (meets_id (by (repeat' apply And.intro) <;> first | rfl | trivial | (intro hh; cases hh))), ⟨by omega, all_take hk h2 ?_⟩, by omega⟩
      rw [hsk]; exact ⟨s1, s2, s3, s4⟩
    · have hno : ¬ f.ok := fun h => hs (h.2.2.1 s hms)
      rw [if_neg hno]
      (conv => whnf); (repeat' (first | (refine bT ?_; conv => whnf) | (refine bF ?_; conv => whnf) | (refine bN ?_) | (refine bD (fun hh => ?_) (fun hh => ?_) <;> (conv => whnf)) | (refine bEq (fun hh => ?_) (fun hh => ?_) <;> (conv => whnf)) | (refine bNe (fun hh => ?_) (fun hh => ?_) <;> (conv => whnf)) | (refine (k49 _ _).callq rfl rfl (fun r (hr : r = _) => ?_); subst hr; conv => whnf) | (refine (k51 _ _).callq rfl rfl (fun r (hr : r = _) => ?_); subst hr; conv => whnf) | (refine (k50 _ _ _).callq rfl rfl (fun r (hr : r = _) => ?_); subst hr; conv => whnf) | (refine wIn (by omega) ?_; conv => whnf) | (refine nI (by omega) ?_; conv => whnf)))
      all_goals first
        | rfl
        | (exfalso; refine hs ⟨?_, ?_, ?_, ?_⟩ <;> assumption)
  · have e : k = f.ss.length := by omega
    subst e
    rw [List.take_length] at h2
    have hiff : f.ok ↔ (1 ≤ (f.ss.length : Int) ∧ (f.ss.length : Int) ≤ 3) ∧ okSpan f.lo f.hi 200 ∧ okPart f.en f.ed ∧ (0 ≤ f.rod ∧ f.rod ≤ 4000) ∧ (0 ≤ f.cs ∧ f.cs ≤ 4000) := ⟨fun h => ⟨⟨by have := h.1; omega, by have := h.2.1; omega⟩, h.2.2.2⟩, fun h => ⟨by omega, by omega, h2, h.2⟩⟩
    clear h3 h1 h2
    simp only [hiff, okSpan]
    rw [← hL]
    (conv => whnf); (repeat' (first | (refine bT ?_; conv => whnf) | (refine bF ?_; conv => whnf) | (refine bN ?_) | (refine bD (fun hh => ?_) (fun hh => ?_) <;> first | (exfalso; omega) | (conv => whnf)) | (refine bEq (fun hh => ?_) (fun hh => ?_) <;> first | (exfalso; omega) | (conv => whnf)) | (refine bNe (fun hh => ?_) (fun hh => ?_) <;> first | (exfalso; omega) | (conv => whnf)) | (refine (k51 _ _).callq rfl rfl (fun r (hr : r = _) => ?_); subst hr; conv => whnf) | (refine (k50 _ _ _).callq rfl rfl (fun r (hr : r = _) => ?_); subst hr; conv => whnf) | (refine wIn (by omega) ?_; conv => whnf) | (refine nI (by omega) ?_; conv => whnf)))
    all_goals first
      | (rw [if_pos ⟨by assumption, by omega, by assumption, by assumption, by assumption⟩])
      | (rw [if_neg fun h => ?_]; first | exact absurd h.2.2.1 (by assumption) | omega)

def sgl (a t r : Int) : Frm := ⟨[⟨a, a, t, t, 0, 0, 1⟩], r, r, 1, 10, 0, 0⟩
theorem k46 (a t r : Int) : FnA Try.prog 46 [.agg [.int .i64 a, .int .i64 t], .int .i64 r] (· = .agg (sgl a t r).cells) := by
  refine fnA 3 ok46 (by simp) ?_
  (conv => whnf); (repeat' (first | (refine bT ?_; conv => whnf) | (refine bF ?_; conv => whnf) | (refine bN ?_) | (refine bD (fun hh => ?_) (fun hh => ?_) <;> (conv => whnf)) | (refine bEq (fun hh => ?_) (fun hh => ?_) <;> (conv => whnf)) | (refine bNe (fun hh => ?_) (fun hh => ?_) <;> (conv => whnf)) | (refine wIn (by omega) ?_; conv => whnf) | (refine nI (by omega) ?_; conv => whnf)))
  all_goals rfl
theorem sgl_dist (a t r : Int) : (sgl a t r).dist 0 r = r := rfl
theorem sgl_sides (a t : Int) : Sec.sides ⟨a, a, t, t, 0, 0, 1⟩ = [(a, t)] := by
  have h1 : Sec.na ⟨a, a, t, t, 0, 0, 1⟩ = 1 := by unfold Sec.na; simp; omega
  have h2 : Sec.nb ⟨a, a, t, t, 0, 0, 1⟩ = 1 := by unfold Sec.nb; simp; omega
  unfold Sec.sides
  rw [h1, h2]
  simp [List.range_succ, Sec.side, h2]
theorem sgl_cosF (a t d : Int) : cosF ⟨a, a, t, t, 0, 0, 1⟩ d = ((cosN d a t, cosD d a), (cosN d a t, cosD d a)) := by
  unfold cosF; rw [sgl_sides]
  simp [cstep]
theorem sgl_pos {a t r : Int} (h : (sgl a t r).ok) : (sgl a t r).pos ((0 : Nat) : Int) r = 0 :=
  pos_zero h ⟨by simp, by simp [sgl]⟩ ⟨by simp [sgl], by simp [sgl]⟩
theorem s18 {a t r : Int} (h : (sgl a t r).ok) (hr : 1 ≤ r) : FnA Try.prog 18 [.agg (sgl a t r).cells, .int .i64 0, .int .i64 r] (· = .tup [fr (cosN r a t, cosD r a), fr (cosN r a t, cosD r a), .int .i64 0]) := by
  have := k18 (sgl a t r) 0 r (sgl_pos h)
  rw [sgl_dist, if_neg (by omega)] at this
  have e : (sgl a t r).ss.getD 0 default = ⟨a, a, t, t, 0, 0, 1⟩ := rfl
  rw [e, sgl_cosF] at this
  exact this
theorem s20 {a t r : Int} (h : (sgl a t r).ok) : FnA Try.prog 20 [.agg (sgl a t r).cells, .int .i64 0, .int .i64 r] (· = .tup [.int .i64 (if bind r a t 1 10 then 1 else 2), .int .i64 0]) := by
  have := k20 (sgl a t r) 0 r (sgl_pos h)
  have e : (sgl a t r).bnd 0 r = if bind r a t 1 10 then 1 else 2 := by
    have e1 : (sgl a t r).ss.getD 0 default = ⟨a, a, t, t, 0, 0, 1⟩ := rfl
    unfold Frm.bnd knw
    rw [e1, sgl_sides, sgl_dist]
    simp [sgl]
    cases bind r a t 1 10 <;> simp
  rw [e] at this
  exact this
theorem cosN_scale (d a t k : Int) : cosN (d * k) (a * k) (t * k) = (k * k) * cosN d a t := by unfold cosN; grind
theorem cosD_scale (d a k : Int) : cosD (d * k) (a * k) = (k * k) * cosD d a := by unfold cosD; grind
theorem red_scale {k : Int} (n d : Int) (hk : 0 < k) : redN (k * n) (k * d) = redN n d ∧ redD (k * n) (k * d) = redD n d := by
  have hg : ((Int.gcd (k * n) (k * d) : Nat) : Int) = k * (Int.gcd n d : Nat) := by
    rw [Int.gcd_mul_left, Int.natCast_mul]
    rw [Int.natAbs_of_nonneg (by omega : 0 ≤ k)]
  unfold redN redD
  rw [hg, Int.mul_tdiv_mul_of_pos _ _ hk, Int.mul_tdiv_mul_of_pos _ _ hk]
  exact ⟨rfl, rfl⟩
theorem bind_scale (d a t en ed k : Int) (hk : 0 < k) : bind (d * k) (a * k) (t * k) en ed = bind d a t en ed := by
  have hk2 : 0 < k * k := Int.mul_pos hk hk
  unfold bind
  rw [cosN_scale, cosD_scale]
  have e0 : (d * k = 0) ↔ d = 0 := by
    constructor
    · intro h
      rcases Int.mul_eq_zero.1 h with h | h <;> omega
    · intro h; rw [h]; simp
  have e1 : k * k * cosN d a t * ed = k * k * (cosN d a t * ed) := by rw [Int.mul_assoc]
  have e2 : ∀ c : Int, c * (k * k * cosD d a) = k * k * (c * cosD d a) := fun c => by grind
  rw [e1, e2, e2]
  have l : ∀ x y : Int, (k * k * x < k * k * y) ↔ x < y := fun x y => Int.mul_lt_mul_left hk2
  simp only [e0, l]
theorem k9 (a t r m : Int) (hw : FnA Try.prog 12 [] (· = .bool true)) : FnA Try.prog 9 [.agg [.int .i64 a, .int .i64 t], .int .i64 r, .int .i64 m] (· = .bool true) := by
  by_cases hr : (1 ≤ m ∧ m ≤ 100) ∧ (1 ≤ r ∧ r ≤ 2000) ∧ (1 ≤ a ∧ a ≤ 2000) ∧ (1 ≤ t ∧ t ≤ 2000)
  · have m1 := mul_bd 2000 100 (show 0 ≤ a by omega) (by omega) (show 0 ≤ m by omega) (by omega)
    have m2 := mul_bd 2000 100 (show 0 ≤ t by omega) (by omega) (show 0 ≤ m by omega) (by omega)
    have m3 := mul_bd 2000 100 (show 0 ≤ r by omega) (by omega) (show 0 ≤ m by omega) (by omega)
    have h1 : (sgl a t r).ok := by
      refine ⟨by simp [sgl], by simp [sgl], fun s hs => ?_, ?_, ?_, ?_, ?_⟩
      · simp [sgl] at hs; subst hs
        refine ⟨?_, ?_, ?_, ?_⟩ <;> simp [okSpan, okPart] <;> omega
      all_goals (simp [sgl, okSpan, okPart]; try omega)
    refine fnA 9 ok9 (by simp) ?_
    by_cases h2 : (sgl (a * m) (t * m) (r * m)).ok
    · have hrm : 1 ≤ r * m := by
        have := h2.2.2.2.1
        simp only [sgl, okSpan] at this; omega
      have hx : (if (sgl (a * m) (t * m) (r * m)).ok then (0 : Int) else 10) = 0 := if_pos h2
      have hmm : 0 < m * m := Int.mul_pos (by omega) (by omega)
      have hred := red_scale (cosN r a t) (cosD r a) hmm
      have hbn := bind_scale r a t 1 10 m (by omega)
      (conv => whnf); (repeat' (first | (refine bT ?_; conv => whnf) | (refine bF ?_; conv => whnf) | (refine bN ?_) | (refine bD (fun hh => ?_) (fun hh => ?_) <;> first | (exfalso; omega) | (conv => whnf)) | (refine bEq (fun hh => ?_) (fun hh => ?_) <;> first | (exfalso; omega) | (conv => whnf)) | (refine bNe (fun hh => ?_) (fun hh => ?_) <;> first | (exfalso; omega) | (conv => whnf)) | (refine (hw).callq rfl rfl (fun r (hr : r = _) => ?_); subst hr; conv => whnf) | (refine (k46 a t r).callzq rfl rfl (fun r (hr : r = _) => ?_); subst hr; conv => whnf) | (refine (k46 (a * m) (t * m) (r * m)).callzq rfl rfl (fun r (hr : r = _) => ?_); subst hr; conv => whnf) | (refine (k15 (sgl (a * m) (t * m) (r * m)) (by simp [sgl])).callq rfl rfl (fun r (hr : r = _) => ?_); subst hr; conv => whnf) | (refine (s18 h1 (by omega)).callq rfl rfl (fun r (hr : r = _) => ?_); subst hr; conv => whnf) | (refine (s18 h2 hrm).callq rfl rfl (fun r (hr : r = _) => ?_); subst hr; conv => whnf) | (refine (s20 h1).callq rfl rfl (fun r (hr : r = _) => ?_); subst hr; conv => whnf) | (refine (s20 h2).callq rfl rfl (fun r (hr : r = _) => ?_); subst hr; conv => whnf) | (refine wIn (by omega) ?_; conv => whnf) | (refine nI (by omega) ?_; conv => whnf)))
      all_goals try rfl
      · have key : ∀ {A B : Prop} {b : Bool}, b = true → A → BrB b A B := fun hb hA => bS (fun _ => hA) (fun h => absurd h (by simp [hb]))
        have hb3 : ¬(if bind r a t 1 10 = true then (1 : Int) else 2) = 3 := by split <;> omega
        repeat (refine key (by simp [cosN_scale, cosD_scale, hred, hbn, hb3]) ?_; conv => whnf)
        refine hw.callq rfl rfl (fun x (hx : x = _) => ?_); subst hx; conv => whnf
        repeat (refine key (by simp) ?_; conv => whnf)
    · have hx : (if (sgl (a * m) (t * m) (r * m)).ok then (0 : Int) else 10) = 10 := if_neg h2
      (conv => whnf); (repeat' (first | (refine bT ?_; conv => whnf) | (refine bF ?_; conv => whnf) | (refine bN ?_) | (refine bD (fun hh => ?_) (fun hh => ?_) <;> first | (exfalso; omega) | (conv => whnf)) | (refine bEq (fun hh => ?_) (fun hh => ?_) <;> first | (exfalso; omega) | (conv => whnf)) | (refine bNe (fun hh => ?_) (fun hh => ?_) <;> first | (exfalso; omega) | (conv => whnf)) | (refine (hw).callq rfl rfl (fun r (hr : r = _) => ?_); subst hr; conv => whnf) | (refine (k46 a t r).callzq rfl rfl (fun r (hr : r = _) => ?_); subst hr; conv => whnf) | (refine (k46 (a * m) (t * m) (r * m)).callzq rfl rfl (fun r (hr : r = _) => ?_); subst hr; conv => whnf) | (refine (k15 (sgl (a * m) (t * m) (r * m)) (by simp [sgl])).callq rfl rfl (fun r (hr : r = _) => ?_); subst hr; conv => whnf) | (refine wIn (by omega) ?_; conv => whnf) | (refine nI (by omega) ?_; conv => whnf)))
      all_goals rfl
  · refine fnA 9 ok9 (by simp) ?_
    (conv => whnf); (repeat' (first | (refine bT ?_; conv => whnf) | (refine bF ?_; conv => whnf) | (refine bN ?_) | (refine bD (fun hh => ?_) (fun hh => ?_) <;> first | (exfalso; omega) | (conv => whnf)) | (refine bEq (fun hh => ?_) (fun hh => ?_) <;> first | (exfalso; omega) | (conv => whnf)) | (refine bNe (fun hh => ?_) (fun hh => ?_) <;> first | (exfalso; omega) | (conv => whnf)) | (refine (hw).callq rfl rfl (fun r (hr : r = _) => ?_); subst hr; conv => whnf) | (refine wIn (by omega) ?_; conv => whnf) | (refine nI (by omega) ?_; conv => whnf)))
    all_goals rfl

/-- the cosine falls between two distances -/
def falls (n r a t : Int) : Bool := decide (0 < n) && (decide (0 < r) && decide (cosN r a t * cosD n a < cosN n a t * cosD r a))
theorem k82 (n r a t : Int) (hn : 0 ≤ n ∧ n ≤ 6000) (hr : 0 ≤ r ∧ r ≤ 6000) (ha : 0 ≤ a ∧ a ≤ 2000) (ht : 0 ≤ t ∧ t ≤ 2000) : FnA Try.prog 82 [.int .i64 n, .int .i64 r, .int .i64 a, .int .i64 t] (· = .bool (falls n r a t)) := by
  have h1 := cosN_bd hn ha ht
  have h2 := cosD_bd hn ha
  have h3 := cosN_bd hr ha ht
  have h4 := cosD_bd hr ha
  have m1 := mul_ab (a := cosN r a t) 40000000 24000000 (by omega) (by omega) h2.1 h2.2
  have m2 := mul_ab (a := cosN n a t) 40000000 24000000 (by omega) (by omega) h4.1 h4.2
  refine fnA 2 ok82 (by simp) ?_
  (conv => whnf); (repeat' (first | (refine bT ?_; conv => whnf) | (refine bF ?_; conv => whnf) | (refine bN ?_) | (refine bD (fun hh => ?_) (fun hh => ?_) <;> (conv => whnf)) | (refine bEq (fun hh => ?_) (fun hh => ?_) <;> (conv => whnf)) | (refine bNe (fun hh => ?_) (fun hh => ?_) <;> (conv => whnf)) | (refine (k74 _ _ _ hr ha ht).callq rfl rfl (fun r (hr : r = _) => ?_); subst hr; conv => whnf) | (refine (k74 _ _ _ hn ha ht).callq rfl rfl (fun r (hr : r = _) => ?_); subst hr; conv => whnf) | (refine (k76 (cosN r a t) (cosD r a) (cosN n a t) (cosD n a) (by omega) (by omega)).callq rfl rfl (fun r (hr : r = _) => ?_); subst hr; conv => whnf) | (refine wIn (by omega) ?_; conv => whnf) | (refine nI (by omega) ?_; conv => whnf)))
  all_goals (unfold falls; simp [*])

/-! positions -/
def Frm.np (f : Frm) : Nat := (f.hi + 1 - f.lo).toNat
def Frm.poss (f : Frm) : List Int := (List.range f.np).map fun k => f.hi - (k : Nat)
def rAV (r : Int) : List AV := [.int .i64 r]
theorem poss_len (f : Frm) : (f.poss.map rAV).length = f.np := by simp [Frm.poss]
theorem poss_get (f : Frm) (k : Nat) (h : k < f.np) : (f.poss.map rAV)[k]? = some [.int .i64 (f.hi - k)] := by
  simp [Frm.poss, h, rAV]
theorem mem_poss {f : Frm} {r : Int} : r ∈ f.poss ↔ f.lo ≤ r ∧ r ≤ f.hi := by
  simp only [Frm.poss, List.mem_map, List.mem_range, Frm.np]
  constructor
  · rintro ⟨k, hk, rfl⟩; omega
  · intro h; exact ⟨(f.hi - r).toNat, by omega, by omega⟩
theorem poss_k {f : Frm} {k : Nat} {r : Int} (h : f.poss[k]? = some r) : f.lo ≤ r ∧ r ≤ f.hi ∧ r = f.hi - k := by
  have h1 := mem_poss.1 (List.mem_of_getElem? h)
  have h2 : k < f.np := by
    have := (List.getElem?_eq_some_iff.1 h).1
    simpa [Frm.poss] using this
  simp [Frm.poss, h2] at h
  exact ⟨h1.1, h1.2, h.symm⟩

theorem i79 (f : Frm) (hok : f.ok) : ItA Try.prog 79 [.ipt f.cells] (f.poss.map rAV) := by
  have h1 := hok.2.2.2.1
  unfold okSpan at h1
  have hn : (f.np : Int) = f.hi + 1 - f.lo := by unfold Frm.np; omega
  refine itA 2 ok79 (by simp) ?_
  conv => whnf
  refine loop_y (α := Nat) (fun i => [(3, .int .i64 (f.hi - i)), (1, .ipt f.cells), (0, .yld)]) (fun i => [.fresh, .fresh]) (fun i => ⟨[], i, false⟩) (fun i => i ≤ f.np) (fun i => f.np - i) 0 ?_ (by omega) ?_
  · simp only [Int.natCast_zero, Int.sub_zero]; exact (meets_id (by (repeat' apply And.intro) <;> first | rfl | trivial | (intro hh; cases hh)))
  intro i hi
  conv => whnf
  refine bD (fun h3 => ?_) (fun h3 => ?_)
  · conv => whnf
    refine yI rfl (poss_get f i (by omega)) rfl ?_ ?_
    · conv => whnf
      refine bN (bT ?_)
      conv => whnf
      refine wIn (by omega) ?_
      refine ⟨i + 1, ?_, by omega, by omega⟩
      simp only [Int.natCast_add, Int.natCast_one, ← Int.sub_sub]
      exact (meets_id (by (repeat' apply And.intro) <;> first | rfl | trivial | (intro hh; cases hh)))
    · conv => whnf
      refine bN (bF ?_)
      conv => whnf
      exact .inl rfl
  · conv => whnf
    right
    have : i = f.np := by omega
    subst this
    rw [poss_len]
theorem k63 (f : Frm) : FnA Try.prog 63 [.agg f.cells] (· = .fn 79 [.ipt f.cells]) := by
  refine fnA 1 ok63 (by simp) ?_
  (conv => whnf); (repeat' (first | (refine bT ?_; conv => whnf) | (refine bF ?_; conv => whnf) | (refine bN ?_) | (refine bD (fun hh => ?_) (fun hh => ?_) <;> (conv => whnf)) | (refine bEq (fun hh => ?_) (fun hh => ?_) <;> (conv => whnf)) | (refine bNe (fun hh => ?_) (fun hh => ?_) <;> (conv => whnf)) | (refine wIn (by omega) ?_; conv => whnf) | (refine nI (by omega) ?_; conv => whnf)))
  all_goals rfl
theorem k64 (f : Frm) (i : Int) : FnA Try.prog 64 [.agg f.cells, .int .i64 i] (· = .fn 80 [.ipt f.cells, .ipt [.int .i64 i]]) := by
  refine fnA 2 ok64 (by simp) ?_
  (conv => whnf); (repeat' (first | (refine bT ?_; conv => whnf) | (refine bF ?_; conv => whnf) | (refine bN ?_) | (refine bD (fun hh => ?_) (fun hh => ?_) <;> (conv => whnf)) | (refine bEq (fun hh => ?_) (fun hh => ?_) <;> (conv => whnf)) | (refine bNe (fun hh => ?_) (fun hh => ?_) <;> (conv => whnf)) | (refine wIn (by omega) ?_; conv => whnf) | (refine nI (by omega) ?_; conv => whnf)))
  all_goals rfl
theorem k68 (f : Frm) (i : Int) : FnA Try.prog 68 [.agg f.cells, .int .i64 i] (· = .fn 81 [.ipt f.cells, .ipt [.int .i64 i]]) := by
  refine fnA 2 ok68 (by simp) ?_
  (conv => whnf); (repeat' (first | (refine bT ?_; conv => whnf) | (refine bF ?_; conv => whnf) | (refine bN ?_) | (refine bD (fun hh => ?_) (fun hh => ?_) <;> (conv => whnf)) | (refine bEq (fun hh => ?_) (fun hh => ?_) <;> (conv => whnf)) | (refine bNe (fun hh => ?_) (fun hh => ?_) <;> (conv => whnf)) | (refine wIn (by omega) ?_; conv => whnf) | (refine nI (by omega) ?_; conv => whnf)))
  all_goals rfl
def Frm.bindsF (f : Frm) (i : Nat) (a t r : Int) : Bool := bind (f.dist i r) a t f.en f.ed
def Frm.smw (f : Frm) (i : Nat) (a t : Int) : Bool := f.poss.any (fun r => f.bindsF i a t r)
theorem k80 (f : Frm) (i : Nat) (a t : Int) (hok : f.ok) (hi : i < f.ss.length) (ha : 0 ≤ a ∧ a ≤ 2000) (ht : 0 ≤ t ∧ t ≤ 2000) : FnA Try.prog 80 [.int .i64 a, .int .i64 t, .ipt f.cells, .ipt [.int .i64 i]] (· = .bool (f.smw i a t)) := by
  have h1 := hok.2.2.2.1
  unfold okSpan at h1
  have he := hok.2.2.2.2.1
  refine fnA 3 ok80 (by simp) ?_
  (conv => whnf); (repeat' (first | (refine bT ?_; conv => whnf) | (refine bF ?_; conv => whnf) | (refine bN ?_) | (refine bD (fun hh => ?_) (fun hh => ?_) <;> (conv => whnf)) | (refine bEq (fun hh => ?_) (fun hh => ?_) <;> (conv => whnf)) | (refine bNe (fun hh => ?_) (fun hh => ?_) <;> (conv => whnf)) | (refine (k63 f).callzq rfl rfl (fun r (hr : r = _) => ?_); subst hr; conv => whnf) | (refine wIn (by omega) ?_; conv => whnf) | (refine nI (by omega) ?_; conv => whnf)))
  refine rng_i (α := Unit) (f.poss.map rAV) [0, 1, 2] [(2, .ipt f.cells), (3, .ipt [.int .i64 i]), (4, .own 0 0), (5, .own 1 0), (6, .own 2 0)] (fun _ => [.box false [.int .i64 a], .box false [.int .i64 t], .box false [.bool false]])
    (fun k _ => (f.poss.take k).any (fun r => f.bindsF i a t r) = false) () rfl rfl rfl bd79 (i79 f hok) rfl (meets_id (by (repeat' apply And.intro) <;> first | rfl | trivial | (intro hh; cases hh))) rfl (by simp) (fun v hv => by obtain ⟨q, _, rfl⟩ := List.mem_map.1 hv; rfl) ?_ ?_
  · rintro k v _ hv h2
    obtain ⟨r, hr, rfl⟩ : ∃ q, f.poss[k]? = some q ∧ rAV q = v := by simpa using hv
    obtain ⟨r1, r2, r3⟩ := poss_k hr
    have hd := Frm.dist_bd hok i (show 0 ≤ r by omega) (by omega)
    have htk := take_any f.poss (fun r => f.bindsF i a t r) hr
    rw [h2] at htk
    (conv => whnf); (repeat' (first | (refine bT ?_; conv => whnf) | (refine bF ?_; conv => whnf) | (refine bN ?_) | (refine bD (fun hh => ?_) (fun hh => ?_) <;> (conv => whnf)) | (refine bEq (fun hh => ?_) (fun hh => ?_) <;> (conv => whnf)) | (refine bNe (fun hh => ?_) (fun hh => ?_) <;> (conv => whnf)) | (refine (k60 f i r hok hi (by omega) (by omega)).callzq rfl rfl (fun r (hr : r = _) => ?_); subst hr; conv => whnf) | (refine wIn (by omega) ?_; conv => whnf) | (refine nI (by omega) ?_; conv => whnf)))
    refine (v78 (f.dist i r) f.en f.ed a t hd ha ht he).vcallq rfl rfl rfl rfl (fun x (hx : x = _) => ?_)
    subst hx
    conv => whnf
    refine bS (fun h3 => ?_) (fun h3 => ?_)
    · conv => whnf
      refine ⟨[.box false [.int .i64 a], .box false [.int .i64 t], .box false [.bool true]], (meets_id (by (repeat' apply And.intro) <;> first | rfl | trivial | (intro hh; cases hh))), ?_⟩
      conv => whnf
      have : f.smw i a t = true := List.any_eq_true.2 ⟨r, List.mem_of_getElem? hr, h3⟩
      rw [this]
    · conv => whnf
      exact ⟨(), (meets_id (by (repeat' apply And.intro) <;> first | rfl | trivial | (intro hh; cases hh))), by rw [htk]; simpa [Frm.bindsF] using h3⟩
  · rintro _ h2
    have : f.smw i a t = false := by
      rw [poss_len] at h2
      have e : f.poss.take f.np = f.poss := List.take_of_length_le (by simp [Frm.poss])
      rwa [e] at h2
    rw [this]
    (conv => whnf); (repeat' (first | (refine bT ?_; conv => whnf) | (refine bF ?_; conv => whnf) | (refine bN ?_) | (refine bD (fun hh => ?_) (fun hh => ?_) <;> (conv => whnf)) | (refine bEq (fun hh => ?_) (fun hh => ?_) <;> (conv => whnf)) | (refine bNe (fun hh => ?_) (fun hh => ?_) <;> (conv => whnf)) | (refine wIn (by omega) ?_; conv => whnf) | (refine nI (by omega) ?_; conv => whnf)))
    all_goals rfl

def Frm.turnF (f : Frm) (i : Nat) (a t r : Int) : Bool := decide (f.lo < r) && falls (f.dist i (r - 1)) (f.dist i r) a t
def Frm.turn (f : Frm) (i : Nat) (a t : Int) : Bool := f.poss.any (fun r => f.turnF i a t r)
theorem k81 (f : Frm) (i : Nat) (a t : Int) (hok : f.ok) (hi : i < f.ss.length) (ha : 0 ≤ a ∧ a ≤ 2000) (ht : 0 ≤ t ∧ t ≤ 2000) : FnA Try.prog 81 [.int .i64 a, .int .i64 t, .ipt f.cells, .ipt [.int .i64 i]] (· = .bool (f.turn i a t)) := by
  have h1 := hok.2.2.2.1
  unfold okSpan at h1
  refine fnA 3 ok81 (by simp) ?_
  (conv => whnf); (repeat' (first | (refine bT ?_; conv => whnf) | (refine bF ?_; conv => whnf) | (refine bN ?_) | (refine bD (fun hh => ?_) (fun hh => ?_) <;> (conv => whnf)) | (refine bEq (fun hh => ?_) (fun hh => ?_) <;> (conv => whnf)) | (refine bNe (fun hh => ?_) (fun hh => ?_) <;> (conv => whnf)) | (refine (k63 f).callzq rfl rfl (fun r (hr : r = _) => ?_); subst hr; conv => whnf) | (refine wIn (by omega) ?_; conv => whnf) | (refine nI (by omega) ?_; conv => whnf)))
  refine rng_i (α := Unit) (f.poss.map rAV) [0, 1, 2] [(2, .ipt f.cells), (3, .ipt [.int .i64 i]), (4, .own 0 0), (5, .own 1 0), (6, .own 2 0)] (fun _ => [.box false [.int .i64 a], .box false [.int .i64 t], .box false [.bool false]])
    (fun k _ => (f.poss.take k).any (fun r => f.turnF i a t r) = false) () rfl rfl rfl bd79 (i79 f hok) rfl (meets_id (by (repeat' apply And.intro) <;> first | rfl | trivial | (intro hh; cases hh))) rfl (by simp) (fun v hv => by obtain ⟨q, _, rfl⟩ := List.mem_map.1 hv; rfl) ?_ ?_
  · rintro k v _ hv h2
    obtain ⟨r, hr, rfl⟩ : ∃ q, f.poss[k]? = some q ∧ rAV q = v := by simpa using hv
    obtain ⟨r1, r2, r3⟩ := poss_k hr
    have hd := Frm.dist_bd hok i (show 0 ≤ r by omega) (by omega)
    have hd' := Frm.dist_bd hok i (show 0 ≤ r - 1 by omega) (by omega)
    have htk := take_any f.poss (fun r => f.turnF i a t r) hr
    rw [h2] at htk
    by_cases hlr : f.lo < r
    · (conv => whnf); (repeat' (first | (refine bT ?_; conv => whnf) | (refine bF ?_; conv => whnf) | (refine bN ?_) | (refine bD (fun hh => ?_) (fun hh => ?_) <;> first | (exfalso; omega) | (conv => whnf)) | (refine bEq (fun hh => ?_) (fun hh => ?_) <;> first | (exfalso; omega) | (conv => whnf)) | (refine bNe (fun hh => ?_) (fun hh => ?_) <;> first | (exfalso; omega) | (conv => whnf)) | (refine (k53 f i (r - 1) hok hi (by omega) (by omega)).callq rfl rfl (fun r (hr : r = _) => ?_); subst hr; conv => whnf) | (refine (k53 f i r hok hi (by omega) (by omega)).callq rfl rfl (fun r (hr : r = _) => ?_); subst hr; conv => whnf) | (refine (k82 _ _ _ _ hd' hd ha ht).callq rfl rfl (fun r (hr : r = _) => ?_); subst hr; conv => whnf) | (refine wIn (by omega) ?_; conv => whnf) | (refine nI (by omega) ?_; conv => whnf)))
      refine bS (fun h3 => ?_) (fun h3 => ?_)
      · conv => whnf
        refine ⟨[.box false [.int .i64 a], .box false [.int .i64 t], .box false [.bool true]], (meets_id (by (repeat' apply And.intro) <;> first | rfl | trivial | (intro hh; cases hh))), ?_⟩
        conv => whnf
        have : f.turn i a t = true := List.any_eq_true.2 ⟨r, List.mem_of_getElem? hr, by simp [Frm.turnF, hlr, h3]⟩
        rw [this]
      · conv => whnf
        exact ⟨(), (meets_id (by (repeat' apply And.intro) <;> first | rfl | trivial | (intro hh; cases hh))), by rw [htk]; simp [Frm.turnF, hlr, h3]⟩
    · (conv => whnf); (repeat' (first | (refine bT ?_; conv => whnf) | (refine bF ?_; conv => whnf) | (refine bN ?_) | (refine bD (fun hh => ?_) (fun hh => ?_) <;> first | (exfalso; omega) | (conv => whnf)) | (refine bEq (fun hh => ?_) (fun hh => ?_) <;> first | (exfalso; omega) | (conv => whnf)) | (refine bNe (fun hh => ?_) (fun hh => ?_) <;> first | (exfalso; omega) | (conv => whnf)) | (refine wIn (by omega) ?_; conv => whnf) | (refine nI (by omega) ?_; conv => whnf)))
      all_goals exact ⟨(), (meets_id (by (repeat' apply And.intro) <;> first | rfl | trivial | (intro hh; cases hh))), by rw [htk]; simp [Frm.turnF, hlr]⟩
  · rintro _ h2
    have : f.turn i a t = false := by
      rw [poss_len] at h2
      have e : f.poss.take f.np = f.poss := List.take_of_length_le (by simp [Frm.poss])
      rwa [e] at h2
    rw [this]
    (conv => whnf); (repeat' (first | (refine bT ?_; conv => whnf) | (refine bF ?_; conv => whnf) | (refine bN ?_) | (refine bD (fun hh => ?_) (fun hh => ?_) <;> (conv => whnf)) | (refine bEq (fun hh => ?_) (fun hh => ?_) <;> (conv => whnf)) | (refine bNe (fun hh => ?_) (fun hh => ?_) <;> (conv => whnf)) | (refine wIn (by omega) ?_; conv => whnf) | (refine nI (by omega) ?_; conv => whnf)))
    all_goals rfl

theorem k16 (f : Frm) (i : Nat) (r : Int) (h : f.pos i r = 0) : FnA Try.prog 16 [.agg f.cells, .int .i64 i, .int .i64 r] (· = .tup [.int .i64 (f.dist i r), .int .i64 0]) := by
  obtain ⟨hok, hi, h1, h2, h3, h4⟩ := pos_ok h
  refine fnA 1 ok16 (by simp) ?_
  (conv => whnf); (repeat' (first | (refine bT ?_; conv => whnf) | (refine bF ?_; conv => whnf) | (refine bN ?_) | (refine bD (fun hh => ?_) (fun hh => ?_) <;> (conv => whnf)) | (refine bEq (fun hh => ?_) (fun hh => ?_) <;> (conv => whnf)) | (refine bNe (fun hh => ?_) (fun hh => ?_) <;> (conv => whnf)) | (refine (k52 f _ _).callq rfl rfl (fun r (hr : r = _) => ?_); subst hr; conv => whnf) | (refine (k53 f i r hok (by omega) (by omega) h4).callq rfl rfl (fun r (hr : r = _) => ?_); subst hr; conv => whnf) | (refine wIn (by omega) ?_; conv => whnf) | (refine nI (by omega) ?_; conv => whnf)))
  all_goals (first | exact absurd h (by assumption) | rfl)
theorem k16e (f : Frm) (i : Int) (r : Int) (h : f.pos i r ≠ 0) : FnA Try.prog 16 [.agg f.cells, .int .i64 i, .int .i64 r] (· = .tup [.int .i64 0, .int .i64 (f.pos i r)]) := by
  refine fnA 1 ok16 (by simp) ?_
  (conv => whnf); (repeat' (first | (refine bT ?_; conv => whnf) | (refine bF ?_; conv => whnf) | (refine bN ?_) | (refine bD (fun hh => ?_) (fun hh => ?_) <;> first | (exfalso; omega) | (conv => whnf)) | (refine bEq (fun hh => ?_) (fun hh => ?_) <;> first | (exfalso; omega) | (conv => whnf)) | (refine bNe (fun hh => ?_) (fun hh => ?_) <;> first | (exfalso; omega) | (conv => whnf)) | (refine (k52 f _ _).callq rfl rfl (fun r (hr : r = _) => ?_); subst hr; conv => whnf) | (refine wIn (by omega) ?_; conv => whnf) | (refine nI (by omega) ?_; conv => whnf)))
  all_goals rfl
theorem k18e (f : Frm) (i : Int) (r : Int) (h : f.pos i r ≠ 0) : FnA Try.prog 18 [.agg f.cells, .int .i64 i, .int .i64 r] (· = .tup [fz, fz, .int .i64 (f.pos i r)]) := by
  refine fnA 3 ok18 (by simp) ?_
  (conv => whnf); (repeat' (first | (refine bT ?_; conv => whnf) | (refine bF ?_; conv => whnf) | (refine bN ?_) | (refine bD (fun hh => ?_) (fun hh => ?_) <;> first | (exfalso; omega) | (conv => whnf)) | (refine bEq (fun hh => ?_) (fun hh => ?_) <;> first | (exfalso; omega) | (conv => whnf)) | (refine bNe (fun hh => ?_) (fun hh => ?_) <;> first | (exfalso; omega) | (conv => whnf)) | (refine (k52 f _ _).callq rfl rfl (fun r (hr : r = _) => ?_); subst hr; conv => whnf) | (refine wIn (by omega) ?_; conv => whnf) | (refine nI (by omega) ?_; conv => whnf)))
  all_goals rfl
theorem k20e (f : Frm) (i : Int) (r : Int) (h : f.pos i r ≠ 0) : FnA Try.prog 20 [.agg f.cells, .int .i64 i, .int .i64 r] (· = .tup [.int .i64 0, .int .i64 (f.pos i r)]) := by
  refine fnA 1 ok20 (by simp) ?_
  (conv => whnf); (repeat' (first | (refine bT ?_; conv => whnf) | (refine bF ?_; conv => whnf) | (refine bN ?_) | (refine bD (fun hh => ?_) (fun hh => ?_) <;> first | (exfalso; omega) | (conv => whnf)) | (refine bEq (fun hh => ?_) (fun hh => ?_) <;> first | (exfalso; omega) | (conv => whnf)) | (refine bNe (fun hh => ?_) (fun hh => ?_) <;> first | (exfalso; omega) | (conv => whnf)) | (refine (k52 f _ _).callq rfl rfl (fun r (hr : r = _) => ?_); subst hr; conv => whnf) | (refine wIn (by omega) ?_; conv => whnf) | (refine nI (by omega) ?_; conv => whnf)))
  all_goals rfl

def Frm.sec (f : Frm) (i : Nat) : Sec := f.ss.getD i default
theorem Frm.sec_eq {f : Frm} {i : Nat} (h : i < f.ss.length) : f.sec i = f.ss[i] := by simp [Frm.sec, List.getD_eq_getElem?_getD, h]
theorem Frm.sec_ok {f : Frm} (hok : f.ok) {i : Nat} (h : i < f.ss.length) : (f.sec i).ok := by rw [Frm.sec_eq h]; exact Go.Proofs.sec_ok hok h
theorem Frm.sec_get (f : Frm) {i : Nat} (h : i < f.ss.length) : (f.ss.map Sec.av).getD i [] = (f.sec i).av := by rw [Frm.sec_eq h]; exact getD_map Sec.av f.ss i h
theorem side_bd {s : Sec} (h : s.ok) {x y : Int} (hx : s.al ≤ x ∧ x ≤ s.ah) (hy : s.sl ≤ y ∧ y ≤ s.sh) : (0 ≤ x ∧ x ≤ 2000) ∧ 0 ≤ y ∧ y ≤ 2000 := by
  have h1 := h.1
  have h2 := h.2.1
  unfold okSpan at h1 h2
  omega
def Frm.someK (f : Frm) (i : Nat) : Int := knw (f.sec i) (f.smw i)
def Frm.turnK (f : Frm) (i : Nat) : Int := knw (f.sec i) (f.turn i)
theorem k59s (f : Frm) (i : Nat) (hok : f.ok) (hi : i < f.ss.length) : FnA Try.prog 59 [.agg (f.sec i).av, .fn 80 [.ipt f.cells, .ipt [.int .i64 i]]] (· = .int .i64 (f.someK i)) :=
  k59_2 (f.sec i) (Frm.sec_ok hok hi) 80 _ _ _ fun x y hx hy => fnV_of bd80 (k80 f i x y hok hi (side_bd (Frm.sec_ok hok hi) hx hy).1 (side_bd (Frm.sec_ok hok hi) hx hy).2)
theorem k59t (f : Frm) (i : Nat) (hok : f.ok) (hi : i < f.ss.length) : FnA Try.prog 59 [.agg (f.sec i).av, .fn 81 [.ipt f.cells, .ipt [.int .i64 i]]] (· = .int .i64 (f.turnK i)) :=
  k59_2 (f.sec i) (Frm.sec_ok hok hi) 81 _ _ _ fun x y hx hy => fnV_of bd81 (k81 f i x y hok hi (side_bd (Frm.sec_ok hok hi) hx hy).1 (side_bd (Frm.sec_ok hok hi) hx hy).2)
theorem k59b (f : Frm) (i : Nat) (r : Int) (hok : f.ok) (hi : i < f.ss.length) (h0 : 0 ≤ r) (h1 : r ≤ 2000) : FnA Try.prog 59 [.agg (f.sec i).av, .fn 78 [.ipt [.int .i64 (f.dist i r)], .ipt [.int .i64 (f.ed - f.en), .int .i64 f.ed], .ipt [.int .i64 (0 - (f.ed - f.en)), .int .i64 f.ed]]] (· = .int .i64 (f.bnd i r)) :=
  k59_3 (f.sec i) (Frm.sec_ok hok hi) 78 _ _ _ (fun a t => f.bindsF i a t r) (fun x y hx hy => v78 _ _ _ _ _ (Frm.dist_bd hok i h0 h1) (side_bd (Frm.sec_ok hok hi) hx hy).1 (side_bd (Frm.sec_ok hok hi) hx hy).2 hok.2.2.2.2.1)

theorem k27 (f : Frm) (i : Nat) (hok : f.ok) (hi : i < f.ss.length) : FnA Try.prog 27 [.agg f.cells, .int .i64 i] (· = .tup [.int .i64 (f.turnK i), .int .i64 0]) := by
  have hL : (f.ss.map Sec.av).length = f.ss.length := by simp
  have h3 : (if f.ok then (if (0 : Int) ≤ i ∧ (i : Int) < f.ss.length then (0 : Int) else 1) else 10) = 0 := by rw [if_pos hok, if_pos (by omega)]
  have h2 := hok.2.1
  refine fnA 2 ok27 (by simp) ?_
  (conv => whnf); (repeat' (first | (refine bT ?_; conv => whnf) | (refine bF ?_; conv => whnf) | (refine bN ?_) | (refine bD (fun hh => ?_) (fun hh => ?_) <;> first | (exfalso; omega) | (conv => whnf)) | (refine bEq (fun hh => ?_) (fun hh => ?_) <;> first | (exfalso; omega) | (conv => whnf)) | (refine bNe (fun hh => ?_) (fun hh => ?_) <;> first | (exfalso; omega) | (conv => whnf)) | (refine (k67 f _).callq rfl rfl (fun r (hr : r = _) => ?_); subst hr; conv => whnf) | (refine wIn (by omega) ?_; conv => whnf) | (refine nI (by omega) ?_; conv => whnf)))
  refine iaI (by omega) (by omega) (f.sec_get hi) ?_
  (conv => whnf); (repeat' (first | (refine bT ?_; conv => whnf) | (refine bF ?_; conv => whnf) | (refine bN ?_) | (refine bD (fun hh => ?_) (fun hh => ?_) <;> first | (exfalso; omega) | (conv => whnf)) | (refine bEq (fun hh => ?_) (fun hh => ?_) <;> first | (exfalso; omega) | (conv => whnf)) | (refine bNe (fun hh => ?_) (fun hh => ?_) <;> first | (exfalso; omega) | (conv => whnf)) | (refine (k68 f i).callzq rfl rfl (fun r (hr : r = _) => ?_); subst hr; conv => whnf) | (refine (k59t f i hok hi).callq rfl rfl (fun r (hr : r = _) => ?_); subst hr; conv => whnf) | (refine wIn (by omega) ?_; conv => whnf) | (refine nI (by omega) ?_; conv => whnf)))
  all_goals rfl
theorem k27e (f : Frm) (i : Int) (h : ¬(f.ok ∧ 0 ≤ i ∧ i < f.ss.length)) : FnA Try.prog 27 [.agg f.cells, .int .i64 i] (· = .tup [.int .i64 0, .int .i64 (if f.ok then 1 else 10)]) := by
  have h3 : (if f.ok then (if (0 : Int) ≤ i ∧ (i : Int) < f.ss.length then (0 : Int) else 1) else 10) = (if f.ok then 1 else 10) := by
    split
    · rw [if_neg fun h' => h ⟨by assumption, h'⟩]
    · rfl
  have h4 : (if f.ok then (1 : Int) else 10) ≠ 0 := by split <;> omega
  refine fnA 2 ok27 (by simp) ?_
  (conv => whnf); (repeat' (first | (refine bT ?_; conv => whnf) | (refine bF ?_; conv => whnf) | (refine bN ?_) | (refine bD (fun hh => ?_) (fun hh => ?_) <;> first | (exfalso; omega) | (conv => whnf)) | (refine bEq (fun hh => ?_) (fun hh => ?_) <;> first | (exfalso; omega) | (conv => whnf)) | (refine bNe (fun hh => ?_) (fun hh => ?_) <;> first | (exfalso; omega) | (conv => whnf)) | (refine (k67 f _).callq rfl rfl (fun r (hr : r = _) => ?_); subst hr; conv => whnf) | (refine wIn (by omega) ?_; conv => whnf) | (refine nI (by omega) ?_; conv => whnf)))
  all_goals (rw [h3])

theorem knw_123 (s : Sec) (p : Int → Int → Bool) : knw s p = 1 ∨ knw s p = 2 ∨ knw s p = 3 := by
  unfold knw; split
  · simp
  · split <;> simp
theorem range_all (k : Nat) (p : Nat → Bool) : (List.range (k + 1)).all p = ((List.range k).all p && p k) := by
  rw [List.range_succ, List.all_append]; simp
def Frm.opens (f : Frm) : Int := if (List.range f.ss.length).all (fun i => decide (f.someK i = 2)) then 1 else if (List.range f.ss.length).all (fun i => decide (f.someK i ≠ 1)) then 3 else 2
theorem k25 (f : Frm) (hok : f.ok) : FnA Try.prog 25 [.agg f.cells] (· = .tup [.int .i64 f.opens, .int .i64 0]) := by
  have hL : (f.ss.map Sec.av).length = f.ss.length := by simp
  have h3 := hok.2.1
  have h0 : (if f.ok then (0 : Int) else 10) = 0 := if_pos hok
  refine fnA 3 ok25 (by simp) ?_
  (conv => whnf); (repeat' (first | (refine bT ?_; conv => whnf) | (refine bF ?_; conv => whnf) | (refine bN ?_) | (refine bD (fun hh => ?_) (fun hh => ?_) <;> first | (exfalso; omega) | (conv => whnf)) | (refine bEq (fun hh => ?_) (fun hh => ?_) <;> first | (exfalso; omega) | (conv => whnf)) | (refine bNe (fun hh => ?_) (fun hh => ?_) <;> first | (exfalso; omega) | (conv => whnf)) | (refine (k14 f).callq rfl rfl (fun r (hr : r = _) => ?_); subst hr; conv => whnf) | (refine wIn (by omega) ?_; conv => whnf) | (refine nI (by omega) ?_; conv => whnf)))
  refine loop_i (α := Nat × Bool × Bool) (fun x => [(17, .int .i64 x.1), (16, .int .i64 ↑(f.ss.map Sec.av).length), (15, .isl (f.ss.map Sec.av)), (6, .bool x.2.2), (5, .bool x.2.1), (1, .own 0 0)]) (fun x => [.box false f.cells, .fresh, .fresh])
    (fun x => x.1 ≤ f.ss.length ∧ x.2.1 = (List.range x.1).all (fun i => decide (f.someK i = 2)) ∧ x.2.2 = (List.range x.1).all (fun i => decide (f.someK i ≠ 1))) (fun x => f.ss.length - x.1) (0, true, true) (meets_id (by (repeat' apply And.intro) <;> first | rfl | trivial | (intro hh; cases hh))) ⟨by simp, by simp, by simp⟩ ?_
  rintro ⟨k, e, o⟩ ⟨h4, h5, h6⟩
  simp only at h4 h5 h6
  conv => whnf
  refine bD (fun h7 => ?_) (fun h7 => ?_)
  · conv => whnf
    have hk : k < f.ss.length := by omega
    refine iaI (by omega) (by omega) (f.sec_get hk) ?_
    (conv => whnf); (repeat' (first | (refine bT ?_; conv => whnf) | (refine bF ?_; conv => whnf) | (refine bN ?_) | (refine bD (fun hh => ?_) (fun hh => ?_) <;> first | (exfalso; omega) | (conv => whnf)) | (refine bEq (fun hh => ?_) (fun hh => ?_) <;> first | (exfalso; omega) | (conv => whnf)) | (refine bNe (fun hh => ?_) (fun hh => ?_) <;> first | (exfalso; omega) | (conv => whnf)) | (refine (k64 f k).callzq rfl rfl (fun r (hr : r = _) => ?_); subst hr; conv => whnf) | (refine (k59s f k hok hk).callq rfl rfl (fun r (hr : r = _) => ?_); subst hr; conv => whnf) | (refine wIn (by omega) ?_; conv => whnf) | (refine nI (by omega) ?_; conv => whnf)))
    all_goals (have hra := range_all k (fun i => decide (f.someK i = 2)); have hrb := range_all k (fun i => decide (f.someK i ≠ 1)))
    · refine ⟨(k + 1, false, false), (meets_id (by (repeat' apply And.intro) <;> first | rfl | trivial | (intro hh; cases hh))), ⟨by simp; omega, ?_, ?_⟩, by simp; omega⟩
      · simp only [hra]; simp [*]
      · simp only [hrb]; simp [*]
    · refine ⟨(k + 1, false, o), (meets_id (by (repeat' apply And.intro) <;> first | rfl | trivial | (intro hh; cases hh))), ⟨by simp; omega, ?_, ?_⟩, by simp; omega⟩
      · simp only [hra]; simp [*]
      · simp only [hrb]; simp [*]
    · refine ⟨(k + 1, e, o), (meets_id (by (repeat' apply And.intro) <;> first | rfl | trivial | (intro hh; cases hh))), ⟨by simp; omega, ?_, ?_⟩, by simp; omega⟩
      · simp only [hra]
        have : f.someK k = 2 := by rcases knw_123 (f.sec k) (f.smw k) with h | h | h <;> simp_all [Frm.someK]
        simp [*]
      · simp only [hrb]; simp [*]
  · have : k = f.ss.length := by omega
    subst this
    subst h5 h6
    (conv => whnf); (repeat' (first | (refine bT ?_; conv => whnf) | (refine bF ?_; conv => whnf) | (refine bN ?_) | (refine bD (fun hh => ?_) (fun hh => ?_) <;> first | (exfalso; omega) | (conv => whnf)) | (refine bEq (fun hh => ?_) (fun hh => ?_) <;> first | (exfalso; omega) | (conv => whnf)) | (refine bNe (fun hh => ?_) (fun hh => ?_) <;> first | (exfalso; omega) | (conv => whnf)) | (refine (k65 _ _).callq rfl rfl (fun r (hr : r = _) => ?_); subst hr; conv => whnf) | (refine wIn (by omega) ?_; conv => whnf) | (refine nI (by omega) ?_; conv => whnf)))
    all_goals rfl
theorem k25e (f : Frm) (hok : ¬ f.ok) : FnA Try.prog 25 [.agg f.cells] (· = .tup [.int .i64 0, .int .i64 10]) := by
  have h0 : (if f.ok then (0 : Int) else 10) = 10 := if_neg hok
  refine fnA 3 ok25 (by simp) ?_
  (conv => whnf); (repeat' (first | (refine bT ?_; conv => whnf) | (refine bF ?_; conv => whnf) | (refine bN ?_) | (refine bD (fun hh => ?_) (fun hh => ?_) <;> first | (exfalso; omega) | (conv => whnf)) | (refine bEq (fun hh => ?_) (fun hh => ?_) <;> first | (exfalso; omega) | (conv => whnf)) | (refine bNe (fun hh => ?_) (fun hh => ?_) <;> first | (exfalso; omega) | (conv => whnf)) | (refine (k14 f).callq rfl rfl (fun r (hr : r = _) => ?_); subst hr; conv => whnf) | (refine wIn (by omega) ?_; conv => whnf) | (refine nI (by omega) ?_; conv => whnf)))
  all_goals (rw [h0])
def mxl (l : List Sec) (a : Int) : Int := l.foldl (fun m s => max m s.al) a
def mxh (l : List Sec) (a : Int) : Int := l.foldl (fun m s => max m s.ah) a
def Frm.closes (f : Frm) : Int := if f.rod + mxh f.ss 0 ≤ f.cs then 1 else if f.rod + mxl f.ss 0 ≤ f.cs then 3 else 2
theorem mx_bd {l : List Sec} (h : ∀ s ∈ l, s.ok) : ∀ {a b : Int}, (0 ≤ a ∧ a ≤ 2000) → (0 ≤ b ∧ b ≤ 2000) → (0 ≤ mxl l a ∧ mxl l a ≤ 2000) ∧ 0 ≤ mxh l b ∧ mxh l b ≤ 2000 := by
  induction l with
  | nil => intro a b h0 h1; simp [mxl, mxh]; omega
  | cons s l ih =>
    intro a b h0 h1
    have h2 := (h s (by simp)).1
    unfold okSpan at h2
    exact ih (fun s hs => h s (by simp [hs])) (a := max a s.al) (b := max b s.ah) (by omega) (by omega)
theorem k31 (f : Frm) (hok : f.ok) : FnA Try.prog 31 [.agg f.cells] (· = .tup [.int .i64 f.closes, .int .i64 0]) := by
  have hL : (f.ss.map Sec.av).length = f.ss.length := by simp
  have h3 := hok.2.1
  have h0 : (if f.ok then (0 : Int) else 10) = 0 := if_pos hok
  refine fnA 2 ok31 (by simp) ?_
  (conv => whnf); (repeat' (first | (refine bT ?_; conv => whnf) | (refine bF ?_; conv => whnf) | (refine bN ?_) | (refine bD (fun hh => ?_) (fun hh => ?_) <;> first | (exfalso; omega) | (conv => whnf)) | (refine bEq (fun hh => ?_) (fun hh => ?_) <;> first | (exfalso; omega) | (conv => whnf)) | (refine bNe (fun hh => ?_) (fun hh => ?_) <;> first | (exfalso; omega) | (conv => whnf)) | (refine (k14 f).callq rfl rfl (fun r (hr : r = _) => ?_); subst hr; conv => whnf) | (refine wIn (by omega) ?_; conv => whnf) | (refine nI (by omega) ?_; conv => whnf)))
  refine loop_i (α := Nat) (fun x => [(17, .int .i64 x), (16, .int .i64 ↑(f.ss.map Sec.av).length), (15, .isl (f.ss.map Sec.av)), (6, .int .i64 (mxh (f.ss.take x) 0)), (5, .int .i64 (mxl (f.ss.take x) 0)), (1, .own 0 0)]) (fun x => [.box false f.cells, .fresh])
    (fun x => x ≤ f.ss.length) (fun x => f.ss.length - x) 0 (meets_id (by (repeat' apply And.intro) <;> first | rfl | trivial | (intro hh; cases hh))) (by simp) ?_
  intro k h4
  conv => whnf
  refine bD (fun h7 => ?_) (fun h7 => ?_)
  · conv => whnf
    have hk : k < f.ss.length := by omega
    refine iaI (by omega) (by omega) (f.sec_get hk) ?_
    have e1 : mxl (f.ss.take (k + 1)) 0 = max (mxl (f.ss.take k) 0) (f.sec k).al := by
      rw [List.take_succ_eq_append_getElem hk, mxl, List.foldl_append, Frm.sec_eq hk]; rfl
    have e2 : mxh (f.ss.take (k + 1)) 0 = max (mxh (f.ss.take k) 0) (f.sec k).ah := by
      rw [List.take_succ_eq_append_getElem hk, mxh, List.foldl_append, Frm.sec_eq hk]; rfl
    (conv => whnf); (repeat' (first | (refine bT ?_; conv => whnf) | (refine bF ?_; conv => whnf) | (refine bN ?_) | (refine bD (fun hh => ?_) (fun hh => ?_) <;> first | (exfalso; omega) | (conv => whnf)) | (refine bEq (fun hh => ?_) (fun hh => ?_) <;> first | (exfalso; omega) | (conv => whnf)) | (refine bNe (fun hh => ?_) (fun hh => ?_) <;> first | (exfalso; omega) | (conv => whnf)) | (refine wIn (by omega) ?_; conv => whnf) | (refine nI (by omega) ?_; conv => whnf)))
    refine ⟨k + 1, ?_, by omega, by omega⟩
    rw [e1, e2]
    exact (meets_id (by (repeat' apply And.intro) <;> first | rfl | trivial | (intro hh; cases hh)))
  · have : k = f.ss.length := by omega
    subst this
    have hb := mx_bd hok.2.2.1 (a := 0) (b := 0) (by omega) (by omega)
    have hr := hok.2.2.2.2.2
    rw [List.take_length]
    (conv => whnf); (repeat' (first | (refine bT ?_; conv => whnf) | (refine bF ?_; conv => whnf) | (refine bN ?_) | (refine bD (fun hh => ?_) (fun hh => ?_) <;> first | (exfalso; omega) | (conv => whnf)) | (refine bEq (fun hh => ?_) (fun hh => ?_) <;> first | (exfalso; omega) | (conv => whnf)) | (refine bNe (fun hh => ?_) (fun hh => ?_) <;> first | (exfalso; omega) | (conv => whnf)) | (refine (k65 _ _).callq rfl rfl (fun r (hr : r = _) => ?_); subst hr; conv => whnf) | (refine wIn (by omega) ?_; conv => whnf) | (refine nI (by omega) ?_; conv => whnf)))
    all_goals (unfold Frm.closes; simp only [decide_eq_true_eq])
theorem k31e (f : Frm) (hok : ¬ f.ok) : FnA Try.prog 31 [.agg f.cells] (· = .tup [.int .i64 0, .int .i64 10]) := by
  have h0 : (if f.ok then (0 : Int) else 10) = 10 := if_neg hok
  refine fnA 3 ok31 (by simp) ?_
  (conv => whnf); (repeat' (first | (refine bT ?_; conv => whnf) | (refine bF ?_; conv => whnf) | (refine bN ?_) | (refine bD (fun hh => ?_) (fun hh => ?_) <;> first | (exfalso; omega) | (conv => whnf)) | (refine bEq (fun hh => ?_) (fun hh => ?_) <;> first | (exfalso; omega) | (conv => whnf)) | (refine bNe (fun hh => ?_) (fun hh => ?_) <;> first | (exfalso; omega) | (conv => whnf)) | (refine (k14 f).callq rfl rfl (fun r (hr : r = _) => ?_); subst hr; conv => whnf) | (refine wIn (by omega) ?_; conv => whnf) | (refine nI (by omega) ?_; conv => whnf)))
  all_goals (rw [h0])

def natAV (i : Nat) : List AV := [.int .i64 i]
def Frm.blame (f : Frm) : List Nat := (List.range f.ss.length).filter (fun i => decide (f.someK i = 1))
theorem range_filter (k : Nat) (p : Nat → Bool) : (List.range (k + 1)).filter p = if p k then (List.range k).filter p ++ [k] else (List.range k).filter p := by
  rw [List.range_succ, List.filter_append]; simp only [List.filter_cons, List.filter_nil]; split <;> simp
theorem k29 (f : Frm) (hok : f.ok) : FnA Try.prog 29 [.agg f.cells] (· = .tup [.isl (f.blame.map natAV), .int .i64 0]) := by
  have hL : (f.ss.map Sec.av).length = f.ss.length := by simp
  have h3 := hok.2.1
  have h0 : (if f.ok then (0 : Int) else 10) = 0 := if_pos hok
  refine fnA 5 ok29 (by simp) ?_
  (conv => whnf); (repeat' (first | (refine bT ?_; conv => whnf) | (refine bF ?_; conv => whnf) | (refine bN ?_) | (refine bD (fun hh => ?_) (fun hh => ?_) <;> first | (exfalso; omega) | (conv => whnf)) | (refine bEq (fun hh => ?_) (fun hh => ?_) <;> first | (exfalso; omega) | (conv => whnf)) | (refine bNe (fun hh => ?_) (fun hh => ?_) <;> first | (exfalso; omega) | (conv => whnf)) | (refine (k14 f).callq rfl rfl (fun r (hr : r = _) => ?_); subst hr; conv => whnf) | (refine wIn (by omega) ?_; conv => whnf) | (refine nI (by omega) ?_; conv => whnf)))
  refine loop_i (α := Nat) (fun x => [(16, .int .i64 x), (15, .int .i64 ↑(f.ss.map Sec.av).length), (14, .isl (f.ss.map Sec.av)), (5, .row 4), (1, .own 0 0)]) (fun x => [.box false f.cells, .fresh, .fresh, .fresh, .row false 3 1 (((List.range x).filter (fun i => decide (f.someK i = 1))).map natAV)])
    (fun x => x ≤ f.ss.length) (fun x => f.ss.length - x) 0 (meets_nil 4 (by (repeat' apply And.intro) <;> first | rfl | trivial | (intro hh; cases hh))) (by simp) ?_
  intro k h4
  conv => whnf
  refine bD (fun h7 => ?_) (fun h7 => ?_)
  · conv => whnf
    have hk : k < f.ss.length := by omega
    have hra := range_filter k (fun i => decide (f.someK i = 1))
    refine iaI (by omega) (by omega) (f.sec_get hk) ?_
    (conv => whnf); (repeat' (first | (refine bT ?_; conv => whnf) | (refine bF ?_; conv => whnf) | (refine bN ?_) | (refine bD (fun hh => ?_) (fun hh => ?_) <;> first | (exfalso; omega) | (conv => whnf)) | (refine bEq (fun hh => ?_) (fun hh => ?_) <;> first | (exfalso; omega) | (conv => whnf)) | (refine bNe (fun hh => ?_) (fun hh => ?_) <;> first | (exfalso; omega) | (conv => whnf)) | (refine (k64 f k).callzq rfl rfl (fun r (hr : r = _) => ?_); subst hr; conv => whnf) | (refine (k59s f k hok hk).callq rfl rfl (fun r (hr : r = _) => ?_); subst hr; conv => whnf) | (refine wIn (by omega) ?_; conv => whnf) | (refine nI (by omega) ?_; conv => whnf)))
    · have hlen : ((List.range k).filter (fun i => decide (f.someK i = 1))).length ≤ k := by
        refine Nat.le_trans (List.length_filter_le _ _) ?_; simp
      refine apI (by simp [AV.one]) (by simp; omega) ?_
      (conv => whnf); (repeat' (first | (refine bT ?_; conv => whnf) | (refine bF ?_; conv => whnf) | (refine bN ?_) | (refine bD (fun hh => ?_) (fun hh => ?_) <;> first | (exfalso; omega) | (conv => whnf)) | (refine bEq (fun hh => ?_) (fun hh => ?_) <;> first | (exfalso; omega) | (conv => whnf)) | (refine bNe (fun hh => ?_) (fun hh => ?_) <;> first | (exfalso; omega) | (conv => whnf)) | (refine wIn (by omega) ?_; conv => whnf) | (refine nI (by omega) ?_; conv => whnf)))
      refine ⟨k + 1, ?_, by omega, by omega⟩
      have e : (((List.range (k + 1)).filter (fun i => decide (f.someK i = 1))).map natAV) = ((List.range k).filter (fun i => decide (f.someK i = 1))).map natAV ++ [[.int .i64 k]] := by
        rw [hra, if_pos (by simpa using hh)]; simp [natAV]
      rw [e]
      exact meets_ren 4 3 (by (repeat' apply And.intro) <;> first | rfl | trivial | (intro h; cases h))
    · refine ⟨k + 1, ?_, by omega, by omega⟩
      rw [hra, if_neg (by simpa using hh)]
      exact (meets_id (by (repeat' apply And.intro) <;> first | rfl | trivial | (intro hh; cases hh)))
  · have : k = f.ss.length := by omega
    subst this
    (conv => whnf); (repeat' (first | (refine bT ?_; conv => whnf) | (refine bF ?_; conv => whnf) | (refine bN ?_) | (refine bD (fun hh => ?_) (fun hh => ?_) <;> first | (exfalso; omega) | (conv => whnf)) | (refine bEq (fun hh => ?_) (fun hh => ?_) <;> first | (exfalso; omega) | (conv => whnf)) | (refine bNe (fun hh => ?_) (fun hh => ?_) <;> first | (exfalso; omega) | (conv => whnf)) | (refine wIn (by omega) ?_; conv => whnf) | (refine nI (by omega) ?_; conv => whnf)))
    all_goals rfl
theorem k29e (f : Frm) (hok : ¬ f.ok) : FnA Try.prog 29 [.agg f.cells] (· = .tup [.isl [], .int .i64 10]) := by
  have h0 : (if f.ok then (0 : Int) else 10) = 10 := if_neg hok
  refine fnA 3 ok29 (by simp) ?_
  (conv => whnf); (repeat' (first | (refine bT ?_; conv => whnf) | (refine bF ?_; conv => whnf) | (refine bN ?_) | (refine bD (fun hh => ?_) (fun hh => ?_) <;> first | (exfalso; omega) | (conv => whnf)) | (refine bEq (fun hh => ?_) (fun hh => ?_) <;> first | (exfalso; omega) | (conv => whnf)) | (refine bNe (fun hh => ?_) (fun hh => ?_) <;> first | (exfalso; omega) | (conv => whnf)) | (refine (k14 f).callq rfl rfl (fun r (hr : r = _) => ?_); subst hr; conv => whnf) | (refine wIn (by omega) ?_; conv => whnf) | (refine nI (by omega) ?_; conv => whnf)))
  all_goals (rw [h0])

/-! the first that binds -/
def Frm.firstS (f : Frm) (r : Int) : Option Nat := (List.range f.ss.length).find? (fun i => decide (f.bnd i r ≠ 2))
def Frm.first (f : Frm) : Option (Nat × Int) := f.poss.findSome? (fun r => (f.firstS r).map (fun i => (i, r)))
def Frm.firstAV (f : Frm) : AV := match f.first with
  | some (i, r) => .tup [.int .i64 i, .int .i64 r, .int .i64 0]
  | none => .tup [.int .i64 0, .int .i64 0, .int .i64 3]
theorem find_some {n : Nat} {p : Nat → Bool} {k : Nat} (hk : k < n) (h1 : ∀ i < k, p i = false) (h2 : p k = true) : (List.range n).find? p = some k := by
  rw [List.find?_range_eq_some]
  exact ⟨h2, List.mem_range.2 hk, fun j hj => by simp [h1 j hj]⟩
theorem find_none {n : Nat} {p : Nat → Bool} (h1 : ∀ i < n, p i = false) : (List.range n).find? p = none := by
  rw [List.find?_eq_none]
  intro i hi; simp [h1 i (List.mem_range.1 hi)]
theorem findSome_at {α β : Type} {g : α → Option β} : ∀ {l : List α} {k : Nat} {a : α} {b : β}, l[k]? = some a → (∀ x ∈ l.take k, g x = none) → g a = some b → l.findSome? g = some b
  | x :: l, 0, a, b, h, _, hb => by simp at h; subst h; simp [hb]
  | x :: l, k + 1, a, b, h, h1, hb => by
    simp only [List.take_succ_cons, List.mem_cons, forall_eq_or_imp] at h1
    simp only [List.findSome?_cons, h1.1]
    exact findSome_at (by simpa using h) h1.2 hb
theorem k23 (f : Frm) (hok : f.ok) : FnA Try.prog 23 [.agg f.cells] (· = f.firstAV) := by
  have hL : (f.ss.map Sec.av).length = f.ss.length := by simp
  have h3 := hok.2.1
  have h1 := hok.2.2.2.1
  unfold okSpan at h1
  have h0 : (if f.ok then (0 : Int) else 10) = 0 := if_pos hok
  refine fnA 5 ok23 (by simp) ?_
  (conv => whnf); (repeat' (first | (refine bT ?_; conv => whnf) | (refine bF ?_; conv => whnf) | (refine bN ?_) | (refine bD (fun hh => ?_) (fun hh => ?_) <;> first | (exfalso; omega) | (conv => whnf)) | (refine bEq (fun hh => ?_) (fun hh => ?_) <;> first | (exfalso; omega) | (conv => whnf)) | (refine bNe (fun hh => ?_) (fun hh => ?_) <;> first | (exfalso; omega) | (conv => whnf)) | (refine (k14 f).callq rfl rfl (fun r (hr : r = _) => ?_); subst hr; conv => whnf) | (refine (k63 f).callzq rfl rfl (fun r (hr : r = _) => ?_); subst hr; conv => whnf) | (refine wIn (by omega) ?_; conv => whnf) | (refine nI (by omega) ?_; conv => whnf)))
  refine rng_i (α := Unit) (f.poss.map rAV) [0, 1, 2, 3] [(1, .own 0 0), (2, .own 1 0), (3, .own 2 0), (4, .own 3 0)] (fun _ => [.box false f.cells, .box false [.int .i64 0], .box false [.int .i64 0], .box false [.int .i64 0], .fresh])
    (fun k _ => ∀ x ∈ f.poss.take k, f.firstS x = none) () rfl rfl rfl bd79 (i79 f hok) rfl (meets_id (by (repeat' apply And.intro) <;> first | rfl | trivial | (intro hh; cases hh))) rfl (by simp) (fun v hv => by obtain ⟨q, _, rfl⟩ := List.mem_map.1 hv; rfl) ?_ ?_
  · rintro k v _ hv h2
    obtain ⟨r, hr, rfl⟩ : ∃ q, f.poss[k]? = some q ∧ rAV q = v := by simpa using hv
    obtain ⟨r1, r2, r3⟩ := poss_k hr
    (conv => whnf); (repeat' (first | (refine bT ?_; conv => whnf) | (refine bF ?_; conv => whnf) | (refine bN ?_) | (refine bD (fun hh => ?_) (fun hh => ?_) <;> first | (exfalso; omega) | (conv => whnf)) | (refine bEq (fun hh => ?_) (fun hh => ?_) <;> first | (exfalso; omega) | (conv => whnf)) | (refine bNe (fun hh => ?_) (fun hh => ?_) <;> first | (exfalso; omega) | (conv => whnf)) | (refine wIn (by omega) ?_; conv => whnf) | (refine nI (by omega) ?_; conv => whnf)))
    refine loop_i (α := Nat) (fun x => [(20, .int .i64 x), (19, .int .i64 ↑(f.ss.map Sec.av).length), (18, .isl (f.ss.map Sec.av)), (6, .int .i64 r), (1, .own 0 0), (2, .own 1 0), (3, .own 2 0), (4, .own 3 0)]) (fun x => [.box false f.cells, .box false [.int .i64 0], .box false [.int .i64 0], .box false [.int .i64 0], .fresh, .fresh])
      (fun x => x ≤ f.ss.length ∧ ∀ i < x, f.bnd i r = 2) (fun x => f.ss.length - x) 0 (meets_id (by (repeat' apply And.intro) <;> first | rfl | trivial | (intro hh; cases hh))) ⟨by simp, by simp⟩ ?_
    rintro n ⟨h4, h5⟩
    conv => whnf
    refine bD (fun h7 => ?_) (fun h7 => ?_)
    · conv => whnf
      have hn : n < f.ss.length := by omega
      refine iaI (by omega) (by omega) (f.sec_get hn) ?_
      (conv => whnf); (repeat' (first | (refine bT ?_; conv => whnf) | (refine bF ?_; conv => whnf) | (refine bN ?_) | (refine bD (fun hh => ?_) (fun hh => ?_) <;> first | (exfalso; omega) | (conv => whnf)) | (refine bEq (fun hh => ?_) (fun hh => ?_) <;> first | (exfalso; omega) | (conv => whnf)) | (refine bNe (fun hh => ?_) (fun hh => ?_) <;> first | (exfalso; omega) | (conv => whnf)) | (refine (k60 f n r hok hn (by omega) (by omega)).callzq rfl rfl (fun r (hr : r = _) => ?_); subst hr; conv => whnf) | (refine (k59b f n r hok hn (by omega) (by omega)).callq rfl rfl (fun r (hr : r = _) => ?_); subst hr; conv => whnf) | (refine wIn (by omega) ?_; conv => whnf) | (refine nI (by omega) ?_; conv => whnf)))
      · refine ⟨n + 1, (meets_id (by (repeat' apply And.intro) <;> first | rfl | trivial | (intro hh; cases hh))), ⟨by omega, fun i hi => ?_⟩, by omega⟩
        by_cases hin : i < n
        · exact h5 i hin
        · have : i = n := by omega
          subst this; omega
      · refine ⟨[.box false f.cells, .box false [.int .i64 n], .box false [.int .i64 r], .box false [.int .i64 0], .fresh], (meets_id (by (repeat' apply And.intro) <;> first | rfl | trivial | (intro hh; cases hh))), ?_⟩
        conv => whnf
        have hS : f.firstS r = some n := find_some hn (fun i hi => by simp [h5 i hi]) (by simpa using hh)
        have : f.first = some (n, r) := findSome_at hr (fun x hx => by simp [h2 x hx]) (by simp [hS])
        unfold Frm.firstAV; rw [this]
    · have hn : n = f.ss.length := by omega
      subst hn
      have hS : f.firstS r = none := find_none (fun i hi => by simp [h5 i hi])
      (conv => whnf); (repeat' (first | (refine bT ?_; conv => whnf) | (refine bF ?_; conv => whnf) | (refine bN ?_) | (refine bD (fun hh => ?_) (fun hh => ?_) <;> first | (exfalso; omega) | (conv => whnf)) | (refine bEq (fun hh => ?_) (fun hh => ?_) <;> first | (exfalso; omega) | (conv => whnf)) | (refine bNe (fun hh => ?_) (fun hh => ?_) <;> first | (exfalso; omega) | (conv => whnf)) | (refine wIn (by omega) ?_; conv => whnf) | (refine nI (by omega) ?_; conv => whnf)))
      exact ⟨(), (meets_id (by (repeat' apply And.intro) <;> first | rfl | trivial | (intro hh; cases hh))), all_take (List.getElem?_eq_some_iff.1 hr).1 h2 (by rw [(List.getElem?_eq_some_iff.1 hr).2]; exact hS)⟩
  · rintro _ h2
    have : f.first = none := by
      rw [poss_len] at h2
      have e : f.poss.take f.np = f.poss := List.take_of_length_le (by simp [Frm.poss])
      rw [e] at h2
      exact List.findSome?_eq_none_iff.2 (fun x hx => by simp [h2 x hx])
    unfold Frm.firstAV; rw [this]
    (conv => whnf); (repeat' (first | (refine bT ?_; conv => whnf) | (refine bF ?_; conv => whnf) | (refine bN ?_) | (refine bD (fun hh => ?_) (fun hh => ?_) <;> first | (exfalso; omega) | (conv => whnf)) | (refine bEq (fun hh => ?_) (fun hh => ?_) <;> first | (exfalso; omega) | (conv => whnf)) | (refine bNe (fun hh => ?_) (fun hh => ?_) <;> first | (exfalso; omega) | (conv => whnf)) | (refine wIn (by omega) ?_; conv => whnf) | (refine nI (by omega) ?_; conv => whnf)))
    all_goals rfl
theorem k23e (f : Frm) (hok : ¬ f.ok) : FnA Try.prog 23 [.agg f.cells] (· = .tup [.int .i64 0, .int .i64 0, .int .i64 10]) := by
  have h0 : (if f.ok then (0 : Int) else 10) = 10 := if_neg hok
  refine fnA 5 ok23 (by simp) ?_
  (conv => whnf); (repeat' (first | (refine bT ?_; conv => whnf) | (refine bF ?_; conv => whnf) | (refine bN ?_) | (refine bD (fun hh => ?_) (fun hh => ?_) <;> first | (exfalso; omega) | (conv => whnf)) | (refine bEq (fun hh => ?_) (fun hh => ?_) <;> first | (exfalso; omega) | (conv => whnf)) | (refine bNe (fun hh => ?_) (fun hh => ?_) <;> first | (exfalso; omega) | (conv => whnf)) | (refine (k14 f).callq rfl rfl (fun r (hr : r = _) => ?_); subst hr; conv => whnf) | (refine wIn (by omega) ?_; conv => whnf) | (refine nI (by omega) ?_; conv => whnf)))
  all_goals (rw [h0])

theorem k45 (f : Frm) (i : Int) (hn : f.ss.length ≤ 1000) : FnA Try.prog 45 [.agg f.cells, .int .i64 i] (· = .bool (decide (0 ≤ i ∧ i < f.ss.length))) := by
  have hL : (f.ss.map Sec.av).length = f.ss.length := by simp
  refine fnA 1 ok45 (by simp) ?_
  (conv => whnf); (repeat' (first | (refine bT ?_; conv => whnf) | (refine bF ?_; conv => whnf) | (refine bN ?_) | (refine bD (fun hh => ?_) (fun hh => ?_) <;> first | (exfalso; omega) | (conv => whnf)) | (refine bEq (fun hh => ?_) (fun hh => ?_) <;> first | (exfalso; omega) | (conv => whnf)) | (refine bNe (fun hh => ?_) (fun hh => ?_) <;> first | (exfalso; omega) | (conv => whnf)) | (refine (k50 _ _ _).callq rfl rfl (fun r (hr : r = _) => ?_); subst hr; conv => whnf) | (refine wIn (by omega) ?_; conv => whnf) | (refine nI (by omega) ?_; conv => whnf)))
  all_goals exact congrArg AV.bool (decide_eq_decide.2 (by omega))
theorem k55 (f : Frm) (r : Int) : FnA Try.prog 55 [.agg f.cells, .int .i64 r] (· = .bool (decide (f.lo ≤ r ∧ r ≤ f.hi))) := by
  refine fnA 1 ok55 (by simp) ?_
  (conv => whnf); (repeat' (first | (refine bT ?_; conv => whnf) | (refine bF ?_; conv => whnf) | (refine bN ?_) | (refine bD (fun hh => ?_) (fun hh => ?_) <;> first | (exfalso; omega) | (conv => whnf)) | (refine bEq (fun hh => ?_) (fun hh => ?_) <;> first | (exfalso; omega) | (conv => whnf)) | (refine bNe (fun hh => ?_) (fun hh => ?_) <;> first | (exfalso; omega) | (conv => whnf)) | (refine (k50 _ _ _).callq rfl rfl (fun r (hr : r = _) => ?_); subst hr; conv => whnf) | (refine wIn (by omega) ?_; conv => whnf) | (refine nI (by omega) ?_; conv => whnf)))
  all_goals rfl
def Frm.far (f : Frm) : Bool := decide (40 < f.ss.length) || (decide f.ok && decide (60 ≤ f.hi - f.lo))
theorem k11 (f : Frm) : FnA Try.prog 11 [.agg f.cells] (· = .bool f.far) := by
  have hL : (f.ss.map Sec.av).length = f.ss.length := by simp
  refine fnA 1 ok11 (by simp) ?_
  by_cases h1 : 40 < f.ss.length
  · (conv => whnf); (repeat' (first | (refine bT ?_; conv => whnf) | (refine bF ?_; conv => whnf) | (refine bN ?_) | (refine bD (fun hh => ?_) (fun hh => ?_) <;> first | (exfalso; omega) | (conv => whnf)) | (refine bEq (fun hh => ?_) (fun hh => ?_) <;> first | (exfalso; omega) | (conv => whnf)) | (refine bNe (fun hh => ?_) (fun hh => ?_) <;> first | (exfalso; omega) | (conv => whnf)) | (refine wIn (by omega) ?_; conv => whnf) | (refine nI (by omega) ?_; conv => whnf)))
    all_goals (unfold Frm.far; simp; omega)
  · by_cases hok : f.ok
    · have h0 : (if f.ok then (0 : Int) else 10) = 0 := if_pos hok
      have h2 := hok.2.2.2.1
      unfold okSpan at h2
      (conv => whnf); (repeat' (first | (refine bT ?_; conv => whnf) | (refine bF ?_; conv => whnf) | (refine bN ?_) | (refine bD (fun hh => ?_) (fun hh => ?_) <;> first | (exfalso; omega) | (conv => whnf)) | (refine bEq (fun hh => ?_) (fun hh => ?_) <;> first | (exfalso; omega) | (conv => whnf)) | (refine bNe (fun hh => ?_) (fun hh => ?_) <;> first | (exfalso; omega) | (conv => whnf)) | (refine (k15 f (by omega)).callq rfl rfl (fun r (hr : r = _) => ?_); subst hr; conv => whnf) | (refine wIn (by omega) ?_; conv => whnf) | (refine nI (by omega) ?_; conv => whnf)))
      all_goals (unfold Frm.far; simp [hok]; omega)
    · have h0 : (if f.ok then (0 : Int) else 10) = 10 := if_neg hok
      (conv => whnf); (repeat' (first | (refine bT ?_; conv => whnf) | (refine bF ?_; conv => whnf) | (refine bN ?_) | (refine bD (fun hh => ?_) (fun hh => ?_) <;> first | (exfalso; omega) | (conv => whnf)) | (refine bEq (fun hh => ?_) (fun hh => ?_) <;> first | (exfalso; omega) | (conv => whnf)) | (refine bNe (fun hh => ?_) (fun hh => ?_) <;> first | (exfalso; omega) | (conv => whnf)) | (refine (k15 f (by omega)).callq rfl rfl (fun r (hr : r = _) => ?_); subst hr; conv => whnf) | (refine wIn (by omega) ?_; conv => whnf) | (refine nI (by omega) ?_; conv => whnf)))
      all_goals (unfold Frm.far; simp [hok]; omega)
def Frm.rdy (f : Frm) : Bool := !f.far && decide f.ok
theorem k34 (f : Frm) : FnA Try.prog 34 [.agg f.cells] (· = .bool f.rdy) := by
  refine fnA 1 ok34 (by simp) ?_
  have k := k11 f
  cases hF : f.far
  · rw [hF] at k
    have hn : f.ss.length ≤ 40 := by unfold Frm.far at hF; simp at hF; omega
    have k' := k15 f (by omega)
    by_cases hok : f.ok
    · rw [if_pos hok] at k'
      (conv => whnf); (repeat' (first | (refine bT ?_; conv => whnf) | (refine bF ?_; conv => whnf) | (refine bN ?_) | (refine bD (fun hh => ?_) (fun hh => ?_) <;> first | (exfalso; omega) | (conv => whnf)) | (refine bEq (fun hh => ?_) (fun hh => ?_) <;> first | (exfalso; omega) | (conv => whnf)) | (refine bNe (fun hh => ?_) (fun hh => ?_) <;> first | (exfalso; omega) | (conv => whnf)) | (refine (k).callq rfl rfl (fun r (hr : r = _) => ?_); subst hr; conv => whnf) | (refine (k').callq rfl rfl (fun r (hr : r = _) => ?_); subst hr; conv => whnf) | (refine wIn (by omega) ?_; conv => whnf) | (refine nI (by omega) ?_; conv => whnf)))
      all_goals (unfold Frm.rdy; simp [hok, hF])
    · rw [if_neg hok] at k'
      (conv => whnf); (repeat' (first | (refine bT ?_; conv => whnf) | (refine bF ?_; conv => whnf) | (refine bN ?_) | (refine bD (fun hh => ?_) (fun hh => ?_) <;> first | (exfalso; omega) | (conv => whnf)) | (refine bEq (fun hh => ?_) (fun hh => ?_) <;> first | (exfalso; omega) | (conv => whnf)) | (refine bNe (fun hh => ?_) (fun hh => ?_) <;> first | (exfalso; omega) | (conv => whnf)) | (refine (k).callq rfl rfl (fun r (hr : r = _) => ?_); subst hr; conv => whnf) | (refine (k').callq rfl rfl (fun r (hr : r = _) => ?_); subst hr; conv => whnf) | (refine wIn (by omega) ?_; conv => whnf) | (refine nI (by omega) ?_; conv => whnf)))
      all_goals (unfold Frm.rdy; simp [hok, hF])
  · rw [hF] at k
    (conv => whnf); (repeat' (first | (refine bT ?_; conv => whnf) | (refine bF ?_; conv => whnf) | (refine bN ?_) | (refine bD (fun hh => ?_) (fun hh => ?_) <;> first | (exfalso; omega) | (conv => whnf)) | (refine bEq (fun hh => ?_) (fun hh => ?_) <;> first | (exfalso; omega) | (conv => whnf)) | (refine bNe (fun hh => ?_) (fun hh => ?_) <;> first | (exfalso; omega) | (conv => whnf)) | (refine (k).callq rfl rfl (fun r (hr : r = _) => ?_); subst hr; conv => whnf) | (refine wIn (by omega) ?_; conv => whnf) | (refine nI (by omega) ?_; conv => whnf)))
    all_goals (unfold Frm.rdy; simp [hF])
theorem rdy_ok {f : Frm} (h : f.rdy = true) : f.ok ∧ f.far = false := by
  unfold Frm.rdy at h; simpa [and_comm] using h
def Frm.ask (f : Frm) (i r : Int) : Bool := decide ((0 ≤ i ∧ i < f.ss.length) ∧ f.lo ≤ r ∧ r ≤ f.hi)
theorem k35 (f : Frm) (i r : Int) (hn : f.ss.length ≤ 1000) : FnA Try.prog 35 [.agg f.cells, .agg [.int .i64 i, .int .i64 r]] (· = .bool (f.ask i r)) := by
  refine fnA 2 ok35 (by simp) ?_
  by_cases hi : 0 ≤ i ∧ i < f.ss.length
  · (conv => whnf); (repeat' (first | (refine bT ?_; conv => whnf) | (refine bF ?_; conv => whnf) | (refine bN ?_) | (refine bD (fun hh => ?_) (fun hh => ?_) <;> first | (exfalso; omega) | (conv => whnf)) | (refine bEq (fun hh => ?_) (fun hh => ?_) <;> first | (exfalso; omega) | (conv => whnf)) | (refine bNe (fun hh => ?_) (fun hh => ?_) <;> first | (exfalso; omega) | (conv => whnf)) | (refine (k45 f i hn).callq rfl rfl (fun r (hr : r = _) => ?_); subst hr; conv => whnf) | (refine (k55 f r).callq rfl rfl (fun r (hr : r = _) => ?_); subst hr; conv => whnf) | (refine wIn (by omega) ?_; conv => whnf) | (refine nI (by omega) ?_; conv => whnf)))
    all_goals (unfold Frm.ask; simp [hi])
  · (conv => whnf); (repeat' (first | (refine bT ?_; conv => whnf) | (refine bF ?_; conv => whnf) | (refine bN ?_) | (refine bD (fun hh => ?_) (fun hh => ?_) <;> first | (exfalso; omega) | (conv => whnf)) | (refine bEq (fun hh => ?_) (fun hh => ?_) <;> first | (exfalso; omega) | (conv => whnf)) | (refine bNe (fun hh => ?_) (fun hh => ?_) <;> first | (exfalso; omega) | (conv => whnf)) | (refine (k45 f i hn).callq rfl rfl (fun r (hr : r = _) => ?_); subst hr; conv => whnf) | (refine (k55 f r).callq rfl rfl (fun r (hr : r = _) => ?_); subst hr; conv => whnf) | (refine wIn (by omega) ?_; conv => whnf) | (refine nI (by omega) ?_; conv => whnf)))
    all_goals (unfold Frm.ask; simp [hi])
theorem k40 (a b c d : Int) (h1 : -9000000000000000000 ≤ a * d ∧ a * d ≤ 9000000000000000000) (h2 : -9000000000000000000 ≤ c * b ∧ c * b ≤ 9000000000000000000) : FnA Try.prog 40 [.agg [.int .i64 a, .int .i64 b], .agg [.int .i64 c, .int .i64 d]] (· = .bool (decide (a * d < c * b))) := by
  refine fnA 2 ok40 (by simp) ?_
  (conv => whnf); (repeat' (first | (refine bT ?_; conv => whnf) | (refine bF ?_; conv => whnf) | (refine bN ?_) | (refine bD (fun hh => ?_) (fun hh => ?_) <;> first | (exfalso; omega) | (conv => whnf)) | (refine bEq (fun hh => ?_) (fun hh => ?_) <;> first | (exfalso; omega) | (conv => whnf)) | (refine bNe (fun hh => ?_) (fun hh => ?_) <;> first | (exfalso; omega) | (conv => whnf)) | (refine wIn (by omega) ?_; conv => whnf) | (refine nI (by omega) ?_; conv => whnf)))
  all_goals rfl
theorem k39 (a b : Int) : FnA Try.prog 39 [.agg [.int .i64 a, .int .i64 b]] (· = .bool (decide ((1 ≤ b ∧ b < 1073741824) ∧ -1073741824 < a ∧ a < 1073741824))) := by
  refine fnA 1 ok39 (by simp) ?_
  (conv => whnf); (repeat' (first | (refine bT ?_; conv => whnf) | (refine bF ?_; conv => whnf) | (refine bN ?_) | (refine bD (fun hh => ?_) (fun hh => ?_) <;> first | (exfalso; omega) | (conv => whnf)) | (refine bEq (fun hh => ?_) (fun hh => ?_) <;> first | (exfalso; omega) | (conv => whnf)) | (refine bNe (fun hh => ?_) (fun hh => ?_) <;> first | (exfalso; omega) | (conv => whnf)) | (refine wIn (by omega) ?_; conv => whnf) | (refine nI (by omega) ?_; conv => whnf)))
  all_goals first | rfl | exact congrArg AV.bool (decide_eq_decide.2 (by omega)) | exact congrArg AV.bool (decide_eq_true (by omega)).symm | exact congrArg AV.bool (decide_eq_false (by omega)).symm
theorem k13 (f : Frm) (hn : f.ss.length ≤ 1000) : FnA Try.prog 13 [.agg f.cells] (· = .agg f.cells) := by
  have hL : (f.ss.map Sec.av).length = f.ss.length := by simp
  refine fnA 5 ok13 (by simp) ?_
  (conv => whnf); (repeat' (first | (refine bT ?_; conv => whnf) | (refine bF ?_; conv => whnf) | (refine bN ?_) | (refine bD (fun hh => ?_) (fun hh => ?_) <;> first | (exfalso; omega) | (conv => whnf)) | (refine bEq (fun hh => ?_) (fun hh => ?_) <;> first | (exfalso; omega) | (conv => whnf)) | (refine bNe (fun hh => ?_) (fun hh => ?_) <;> first | (exfalso; omega) | (conv => whnf)) | (refine wIn (by omega) ?_; conv => whnf) | (refine nI (by omega) ?_; conv => whnf)))
  refine apI (fun e he => ?_) (by simp; omega) ?_
  · obtain ⟨s, _, rfl⟩ := List.mem_map.1 he; exact ⟨rfl, rfl⟩
  (conv => whnf); (repeat' (first | (refine bT ?_; conv => whnf) | (refine bF ?_; conv => whnf) | (refine bN ?_) | (refine bD (fun hh => ?_) (fun hh => ?_) <;> first | (exfalso; omega) | (conv => whnf)) | (refine bEq (fun hh => ?_) (fun hh => ?_) <;> first | (exfalso; omega) | (conv => whnf)) | (refine bNe (fun hh => ?_) (fun hh => ?_) <;> first | (exfalso; omega) | (conv => whnf)) | (refine wIn (by omega) ?_; conv => whnf) | (refine nI (by omega) ?_; conv => whnf)))
  all_goals rfl

theorem sides_ne {s : Sec} (hok : s.ok) : ∃ q, q ∈ s.sides := ⟨_, fst_side hok⟩
theorem knw1 {s : Sec} (p : Int → Int → Bool) : knw s p = 1 ↔ ∀ q ∈ s.sides, p q.1 q.2 = true := by
  unfold knw
  constructor
  · intro h
    split at h
    · rename_i h1; exact List.all_eq_true.1 h1
    · split at h <;> omega
  · intro h
    rw [if_pos (List.all_eq_true.2 h)]
theorem knw2 {s : Sec} (hok : s.ok) (p : Int → Int → Bool) : knw s p = 2 ↔ ∀ q ∈ s.sides, p q.1 q.2 = false := by
  obtain ⟨q0, hq0⟩ := sides_ne hok
  unfold knw
  constructor
  · intro h q hq
    split at h
    · omega
    · split at h
      · omega
      · rename_i h1
        simp only [List.any_eq_true, not_exists, not_and] at h1
        simpa using h1 q hq
  · intro h
    rw [if_neg fun h1 => by have := List.all_eq_true.1 h1 q0 hq0; rw [h q0 hq0] at this; cases this]
    rw [if_neg fun h1 => by obtain ⟨q, hq, h2⟩ := List.any_eq_true.1 h1; rw [h q hq] at h2; cases h2]
theorem smw_f {f : Frm} {i : Nat} {a t : Int} : f.smw i a t = false ↔ ∀ r ∈ f.poss, f.bindsF i a t r = false := by
  simp [Frm.smw, List.any_eq_false]
theorem smw_t {f : Frm} {i : Nat} {a t : Int} : f.smw i a t = true ↔ ∃ r ∈ f.poss, f.bindsF i a t r = true := by
  simp [Frm.smw]
theorem bnd1 {f : Frm} (i : Nat) (r : Int) : f.bnd i r = 1 ↔ ∀ q ∈ (f.sec i).sides, f.bindsF i q.1 q.2 r = true := knw1 (s := f.sec i) _
theorem bnd2 {f : Frm} (hok : f.ok) {i : Nat} (hi : i < f.ss.length) (r : Int) : f.bnd i r = 2 ↔ ∀ q ∈ (f.sec i).sides, f.bindsF i q.1 q.2 r = false := knw2 (Frm.sec_ok hok hi) _
theorem someK2 {f : Frm} (hok : f.ok) {i : Nat} (hi : i < f.ss.length) : f.someK i = 2 ↔ ∀ r ∈ f.poss, f.bnd i r = 2 := by
  unfold Frm.someK
  rw [knw2 (Frm.sec_ok hok hi)]
  simp only [bnd2 hok hi, smw_f]
  exact ⟨fun h r hr q hq => h q hq r hr, fun h q hq r hr => h r hr q hq⟩
theorem someK1 {f : Frm} {i : Nat} : f.someK i = 1 ↔ ∀ q ∈ (f.sec i).sides, ∃ r ∈ f.poss, f.bindsF i q.1 q.2 r = true := by
  unfold Frm.someK
  rw [knw1]
  simp only [smw_t]
theorem opens1 {f : Frm} : f.opens = 1 ↔ ∀ i < f.ss.length, f.someK i = 2 := by
  unfold Frm.opens
  constructor
  · intro h
    split at h
    · rename_i h1; simpa using h1
    · split at h <;> omega
  · intro h; rw [if_pos (by simpa using h)]
theorem opens2 {f : Frm} : f.opens = 2 ↔ ∃ i < f.ss.length, f.someK i = 1 := by
  unfold Frm.opens
  constructor
  · intro h
    split at h
    · omega
    · split at h
      · omega
      · rename_i h1; simpa using h1
  · rintro ⟨i, hi, h⟩
    rw [if_neg (by simp; exact ⟨i, hi, by omega⟩), if_neg (by simp; exact ⟨i, hi, h⟩)]
theorem opens_123 (f : Frm) : f.opens = 1 ∨ f.opens = 2 ∨ f.opens = 3 := by
  unfold Frm.opens; split
  · simp
  · split <;> simp
theorem firstS_none {f : Frm} {r : Int} : f.firstS r = none ↔ ∀ i < f.ss.length, f.bnd i r = 2 := by
  unfold Frm.firstS; simp
theorem first_none {f : Frm} : f.first = none ↔ ∀ r ∈ f.poss, ∀ i < f.ss.length, f.bnd i r = 2 := by
  unfold Frm.first
  simp [firstS_none]
theorem first_opens {f : Frm} (hok : f.ok) : f.first = none ↔ f.opens = 1 := by
  rw [first_none, opens1]
  constructor
  · intro h i hi; rw [someK2 hok hi]; exact fun r hr => h r hr i hi
  · intro h r hr i hi; exact (someK2 hok hi).1 (h i hi) r hr
theorem blame_opens {f : Frm} : f.blame ≠ [] ↔ f.opens = 2 := by
  rw [opens2, Frm.blame, Ne, List.filter_eq_nil_iff]
  simp
theorem blame_len (f : Frm) : f.blame.length ≤ f.ss.length := by
  unfold Frm.blame
  refine Nat.le_trans (List.length_filter_le _ _) ?_; simp

/-! the frame of the sections up to one -/
def Frm.upto (f : Frm) (i : Nat) : Frm := { f with ss := f.ss.take (i + 1) }
theorem upto_ok {f : Frm} (hok : f.ok) (i : Nat) : (f.upto i).ok := by
  refine ⟨?_, ?_, fun s hs => hok.2.2.1 s (List.mem_of_mem_take hs), hok.2.2.2⟩
  · have := hok.1; simp [Frm.upto]; omega
  · have := hok.2.1; simp [Frm.upto]; omega
theorem upto_sec {f : Frm} {i : Nat} (hi : i < f.ss.length) : (f.upto i).sec i = f.sec i := by
  simp [Frm.sec, Frm.upto, List.getD_eq_getElem?_getD, List.getElem?_take]
theorem upto_dist {f : Frm} (i : Nat) (r : Int) : (f.upto i).dist i r = f.dist i r := by
  simp [Frm.dist, Frm.upto, List.take_take]
theorem upto_bnd {f : Frm} {i : Nat} (hi : i < f.ss.length) (r : Int) : (f.upto i).bnd i r = f.bnd i r := by
  show knw ((f.upto i).sec i) _ = knw (f.sec i) _
  rw [upto_sec hi]
  simp only [upto_dist]; rfl
theorem upto_turnK {f : Frm} {i : Nat} (hi : i < f.ss.length) : (f.upto i).turnK i = f.turnK i := by
  unfold Frm.turnK
  rw [upto_sec hi]
  have : (f.upto i).turn i = f.turn i := by
    funext a t
    unfold Frm.turn Frm.turnF
    simp only [upto_dist]; rfl
  rw [this]
theorem dist_zero (f : Frm) (r : Int) : f.dist 0 r = r := by
  unfold Frm.dist
  cases f.ss <;> simp
theorem dist_succ {f : Frm} {i : Nat} (hi : i + 1 < f.ss.length) (r : Int) : f.dist (i + 1) r = (f.sec (i + 1)).base + (f.dist i r * (f.sec (i + 1)).num).tdiv (f.sec (i + 1)).den := by
  unfold Frm.dist
  rw [List.take_succ_eq_append_getElem hi, List.drop_append_of_le_length (by simp; omega), List.foldl_append, Frm.sec_eq hi]
  rfl
theorem k10 (f : Frm) (i r : Int) (hw : FnA Try.prog 12 [] (· = .bool true)) : FnA Try.prog 10 [.agg f.cells, .agg [.int .i64 i, .int .i64 r]] (· = .bool true) := by
  have hL : (f.ss.map Sec.av).length = f.ss.length := by simp
  refine fnA 6 ok10 (by simp) ?_
  have kr := k34 f
  cases hr : f.rdy
  · rw [hr] at kr
    (conv => whnf); (repeat' (first | (refine bT ?_; conv => whnf) | (refine bF ?_; conv => whnf) | (refine bN ?_) | (refine bD (fun hh => ?_) (fun hh => ?_) <;> first | (exfalso; omega) | (conv => whnf)) | (refine bEq (fun hh => ?_) (fun hh => ?_) <;> first | (exfalso; omega) | (conv => whnf)) | (refine bNe (fun hh => ?_) (fun hh => ?_) <;> first | (exfalso; omega) | (conv => whnf)) | (refine (kr).callq rfl rfl (fun r (hr : r = _) => ?_); subst hr; conv => whnf) | (refine (hw).callq rfl rfl (fun r (hr : r = _) => ?_); subst hr; conv => whnf) | (refine wIn (by omega) ?_; conv => whnf) | (refine nI (by omega) ?_; conv => whnf)))
    all_goals rfl
  rw [hr] at kr
  obtain ⟨hok, hfar⟩ := rdy_ok hr
  have hn := hok.2.1
  have ka := k35 f i r (by omega)
  cases ha : f.ask i r
  · rw [ha] at ka
    (conv => whnf); (repeat' (first | (refine bT ?_; conv => whnf) | (refine bF ?_; conv => whnf) | (refine bN ?_) | (refine bD (fun hh => ?_) (fun hh => ?_) <;> first | (exfalso; omega) | (conv => whnf)) | (refine bEq (fun hh => ?_) (fun hh => ?_) <;> first | (exfalso; omega) | (conv => whnf)) | (refine bNe (fun hh => ?_) (fun hh => ?_) <;> first | (exfalso; omega) | (conv => whnf)) | (refine (kr).callq rfl rfl (fun r (hr : r = _) => ?_); subst hr; conv => whnf) | (refine (ka).callq rfl rfl (fun r (hr : r = _) => ?_); subst hr; conv => whnf) | (refine (hw).callq rfl rfl (fun r (hr : r = _) => ?_); subst hr; conv => whnf) | (refine wIn (by omega) ?_; conv => whnf) | (refine nI (by omega) ?_; conv => whnf)))
    all_goals rfl
  rw [ha] at ka
  unfold Frm.ask at ha
  obtain ⟨⟨hi0, hi1⟩, hr0, hr1⟩ := of_decide_eq_true ha
  obtain ⟨j, rfl⟩ := Int.eq_ofNat_of_zero_le hi0
  have hj : j < f.ss.length := by omega
  have hpos : f.pos (j : Nat) r = 0 := pos_zero hok (by omega) ⟨hr0, hr1⟩
  have hup := upto_ok hok j
  have hposu : (f.upto j).pos (j : Nat) r = 0 := pos_zero hup (by simp [Frm.upto]; omega) ⟨hr0, hr1⟩
  have hju : j < (f.upto j).ss.length := by simp [Frm.upto]; omega
  have k1 := k25 f hok
  have k2 := k23 f hok
  have k3 := k29 f hok
  have k4 := k20 f j r hpos
  have k5 := k20 (f.upto j) j r hposu
  rw [upto_bnd hj] at k5
  have k6 := k27 f j hok hj
  have k7 := k27 (f.upto j) j hup hju
  rw [upto_turnK hj] at k7
  have k8 := k16 f j r hpos
  have hb := blame_len f
  have hbl : (f.blame.map natAV).length = f.blame.length := by simp
  have hbn := @blame_opens f
  have h12 := opens_123 f
  have hfo := first_opens hok
  have hd := Frm.dist_bd hok j (show 0 ≤ r by have := hok.2.2.2.1; unfold okSpan at this; omega) (by have := hok.2.2.2.1; unfold okSpan at this; omega)
  have hcase : (f.opens = 1 ∧ f.firstAV = .tup [.int .i64 0, .int .i64 0, .int .i64 3] ∧ f.blame.length = 0) ∨ (∃ a b : Int, f.opens = 3 ∧ f.firstAV = .tup [.int .i64 a, .int .i64 b, .int .i64 0] ∧ f.blame.length = 0) ∨ (∃ a b : Int, f.opens = 2 ∧ f.firstAV = .tup [.int .i64 a, .int .i64 b, .int .i64 0] ∧ 1 ≤ f.blame.length) := by
    have hbe : f.opens ≠ 2 → f.blame.length = 0 := fun h => by
      by_cases h' : f.blame = []
      · rw [h']; rfl
      · exact absurd (hbn.1 h') h
    unfold Frm.firstAV
    cases hf : f.first with
    | none => left; exact ⟨hfo.1 hf, rfl, hbe (by have := hfo.1 hf; omega)⟩
    | some x =>
      right
      obtain ⟨a, b⟩ := x
      have : f.opens ≠ 1 := fun h => by rw [hfo.2 h] at hf; cases hf
      rcases h12 with h | h | h
      · exact absurd h this
      · right; exact ⟨a, b, h, rfl, List.length_pos_iff.2 (hbn.2 h)⟩
      · left; exact ⟨a, b, h, rfl, hbe (by omega)⟩
  clear hbn hfo h12
  rcases hcase with ⟨c1, c2, c3⟩ | ⟨x, y, c1, c2, c3⟩ | ⟨x, y, c1, c2, c3⟩
  all_goals
    rw [c1] at k1
    rw [c2] at k2
    clear c1 c2
    (conv => whnf); (repeat' (first | (refine bT ?_; conv => whnf) | (refine bF ?_; conv => whnf) | (refine bN ?_) | (refine bD (fun hh => ?_) (fun hh => ?_) <;> first | (exfalso; omega) | (conv => whnf)) | (refine bEq (fun hh => ?_) (fun hh => ?_) <;> first | (exfalso; omega) | (conv => whnf)) | (refine bNe (fun hh => ?_) (fun hh => ?_) <;> first | (exfalso; omega) | (conv => whnf)) | (refine (kr).callq rfl rfl (fun r (hr : r = _) => ?_); subst hr; conv => whnf) | (refine (ka).callq rfl rfl (fun r (hr : r = _) => ?_); subst hr; conv => whnf) | (refine (k1).callq rfl rfl (fun r (hr : r = _) => ?_); subst hr; conv => whnf) | (refine (k2).callq rfl rfl (fun r (hr : r = _) => ?_); subst hr; conv => whnf) | (refine (k3).callzq rfl rfl (fun r (hr : r = _) => ?_); subst hr; conv => whnf) | (refine (k13 f (by omega)).callzq rfl rfl (fun r (hr : r = _) => ?_); subst hr; conv => whnf) | (refine wIn (by omega) ?_; conv => whnf) | (refine nI (by omega) ?_; conv => whnf)))
  all_goals first
    | exact absurd (by rw [hbl, c3]; rfl) hh
    | exact absurd (by rw [hbl]; exact (decide_eq_true (by omega)).symm) hh
    | skip
  all_goals
    refine slI (es := f.ss.map Sec.av) (lo := 0) (hi := (j : Int) + 1) (es' := (f.ss.take (j + 1)).map Sec.av) (by omega) (by omega) (by omega) (fun e he => ?_) ?_ ?_
    · obtain ⟨s, _, rfl⟩ := List.mem_map.1 he; rfl
    · simp only [Int.toNat_zero, List.drop_zero, List.map_take]; congr 1
    (conv => whnf); (repeat' (first | (refine bT ?_; conv => whnf) | (refine bF ?_; conv => whnf) | (refine bN ?_) | (refine bD (fun hh => ?_) (fun hh => ?_) <;> first | (exfalso; omega) | (conv => whnf)) | (refine bEq (fun hh => ?_) (fun hh => ?_) <;> first | (exfalso; omega) | (conv => whnf)) | (refine bNe (fun hh => ?_) (fun hh => ?_) <;> first | (exfalso; omega) | (conv => whnf)) | (refine (k4).callq rfl rfl (fun r (hr : r = _) => ?_); subst hr; conv => whnf) | (refine (k5).callq rfl rfl (fun r (hr : r = _) => ?_); subst hr; conv => whnf) | (refine (k6).callq rfl rfl (fun r (hr : r = _) => ?_); subst hr; conv => whnf) | (refine (k7).callq rfl rfl (fun r (hr : r = _) => ?_); subst hr; conv => whnf) | (refine (k8).callq rfl rfl (fun r (hr : r = _) => ?_); subst hr; conv => whnf) | (refine (hw).callq rfl rfl (fun r (hr : r = _) => ?_); subst hr; conv => whnf) | (refine wIn (by omega) ?_; conv => whnf) | (refine nI (by omega) ?_; conv => whnf)))
  all_goals (clear k1 k2 k3 k4 k5 k6 k7 k8 kr ka)
  all_goals first
    | (exfalso; have : j = 0 := by omega
       subst this; exact absurd (dist_zero f r) (by assumption))
    | skip
  all_goals
    refine iaI (by omega) (by omega) (show (f.ss.map Sec.av).getD (j : Int).toNat [] = (f.sec j).av from f.sec_get hj) ?_
    have hj1 : j - 1 + 1 = j := by omega
    have k9 := k16 f (j - 1) r (pos_zero hok (by omega) ⟨hr0, hr1⟩)
    rw [show ((j - 1 : Nat) : Int) = (j : Int) - 1 from by omega] at k9
    have hr2 := hok.2.2.2.1
    unfold okSpan at hr2
    have hd' := Frm.dist_bd hok (j - 1) (show 0 ≤ r by omega) (by omega)
    have hs := Frm.sec_ok hok hj
    have hg := hs.2.2.2
    have hbs := hs.2.2.1
    unfold okPart at hg
    have hm := mul_bd 6000 20 hd'.1 hd'.2 hg.2.2.1 (show (f.sec j).num ≤ 20 by omega)
    have ht := tdiv_bd hd'.1 hg.2.2.1 hg.2.2.2 (by omega)
    have he := dist_succ (f := f) (i := j - 1) (by omega) r
    rw [hj1] at he
    (conv => whnf); (repeat' (first | (refine bT ?_; conv => whnf) | (refine bF ?_; conv => whnf) | (refine bN ?_) | (refine bD (fun hh => ?_) (fun hh => ?_) <;> first | (exfalso; omega) | (conv => whnf)) | (refine bEq (fun hh => ?_) (fun hh => ?_) <;> first | (exfalso; omega) | (conv => whnf)) | (refine bNe (fun hh => ?_) (fun hh => ?_) <;> first | (exfalso; omega) | (conv => whnf)) | (refine (k9).callq rfl rfl (fun r (hr : r = _) => ?_); subst hr; conv => whnf) | (refine (hw).callq rfl rfl (fun r (hr : r = _) => ?_); subst hr; conv => whnf) | (refine wIn (by omega) ?_; conv => whnf) | (refine nI (by omega) ?_; conv => whnf)))
  all_goals rfl
end Go.Proofs
