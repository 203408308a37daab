/- What each function of this program answers, proved by walking its body: the contracts that the law rests on, part 1. -/
import Derived.Test.YtkpdkhidlhaaiaaGreatCode
set_option linter.unusedSimpArgs false
set_option linter.unusedVariables false
set_option linter.unusedSectionVars false
namespace Go.Proofs
open Go.Eng
attribute [local irreducible] Go.Eng.brB Go.Eng.need Go.Eng.wrE Go.Eng.iaE Go.Eng.slE Go.Eng.apE Go.Eng.CallZ Go.Eng.CallE Go.Eng.VCallE Go.Eng.YldE Go.Eng.GoC Go.Eng.MeetsE Go.Eng.FnA Go.Eng.FnV Go.Eng.ItA
set_option maxRecDepth 100000

structure Sec where
  (al ah sl sh base num den : Int)
def Sec.av (s : Sec) : List AV := [.int .i64 s.al, .int .i64 s.ah, .int .i64 s.sl, .int .i64 s.sh, .int .i64 s.base, .int .i64 s.num, .int .i64 s.den]
structure Frm where
  ss : List Sec
  (lo hi en ed rod cs : Int)
def Frm.cells (f : Frm) : List AV := [.isl (f.ss.map Sec.av), .int .i64 f.lo, .int .i64 f.hi, .int .i64 f.en, .int .i64 f.ed, .int .i64 f.rod, .int .i64 f.cs]

def okSpan (a b p : Int) : Prop := 1 ≤ a ∧ a ≤ b ∧ b ≤ 2000 ∧ b - a ≤ p
def okPart (n d : Int) : Prop := 1 ≤ d ∧ d ≤ 20 ∧ 0 ≤ n ∧ n ≤ d
instance (a b p : Int) : Decidable (okSpan a b p) := by unfold okSpan; infer_instance
instance (n d : Int) : Decidable (okPart n d) := by unfold okPart; infer_instance
def Sec.ok (s : Sec) : Prop := okSpan s.al s.ah 6 ∧ okSpan s.sl s.sh 6 ∧ (0 ≤ s.base ∧ s.base ≤ 2000) ∧ okPart s.num s.den
instance (s : Sec) : Decidable s.ok := by unfold Sec.ok; infer_instance
def Frm.ok (f : Frm) : Prop := 1 ≤ f.ss.length ∧ f.ss.length ≤ 3 ∧ (∀ s ∈ f.ss, s.ok) ∧ okSpan f.lo f.hi 200 ∧ okPart f.en f.ed ∧ (0 ≤ f.rod ∧ f.rod ≤ 4000) ∧ (0 ≤ f.cs ∧ f.cs ≤ 4000)
instance (f : Frm) : Decidable f.ok := by unfold Frm.ok; infer_instance

theorem k73 (n lo hi : Int) : FnA Tryz.prog 89 [.int .i64 n, .int .i64 lo, .int .i64 hi] (· = .bool (decide (lo ≤ n ∧ n ≤ hi))) := by
  refine fnA 2 ok89 (by simp) ?_
  (conv => whnf); (repeat' (first | (refine bT ?_; conv => whnf) | (refine bF ?_; conv => whnf) | (refine bN ?_) | (refine bD (fun hh => ?_) (fun hh => ?_) <;> first | (exfalso; omega) | (conv => whnf)) | (refine bEq (fun hh => ?_) (fun hh => ?_) <;> first | (exfalso; omega) | (conv => whnf)) | (refine bNe (fun hh => ?_) (fun hh => ?_) <;> first | (exfalso; omega) | (conv => whnf)) | (refine wIn (by omega) ?_; conv => whnf) | (refine nI (by omega) ?_; conv => whnf)))
  all_goals first | rfl | exact congrArg AV.bool (decide_eq_decide.2 (by omega)) | exact congrArg AV.bool (decide_eq_true (by omega)).symm | exact congrArg AV.bool (decide_eq_false (by omega)).symm
theorem k71 (a b p : Int) : FnA Tryz.prog 87 [.agg [.int .i64 a, .int .i64 b], .int .i64 p] (· = .bool (decide (okSpan a b p))) := by
  refine fnA 2 ok87 (by simp) ?_
  unfold okSpan
  (conv => whnf); (repeat' (first | (refine bT ?_; conv => whnf) | (refine bF ?_; conv => whnf) | (refine bN ?_) | (refine bD (fun hh => ?_) (fun hh => ?_) <;> first | (exfalso; omega) | (conv => whnf)) | (refine bEq (fun hh => ?_) (fun hh => ?_) <;> first | (exfalso; omega) | (conv => whnf)) | (refine bNe (fun hh => ?_) (fun hh => ?_) <;> first | (exfalso; omega) | (conv => whnf)) | (refine (k73 _ _ _).callq rfl rfl (fun r (hr : r = _) => ?_); subst hr; conv => whnf) | (refine wIn (by omega) ?_; conv => whnf) | (refine nI (by omega) ?_; conv => whnf)))
  all_goals first | rfl | exact congrArg AV.bool (decide_eq_decide.2 (by omega)) | exact congrArg AV.bool (decide_eq_true (by omega)).symm | exact congrArg AV.bool (decide_eq_false (by omega)).symm
theorem k72 (a b : Int) : FnA Tryz.prog 88 [.agg [.int .i64 a, .int .i64 b]] (· = .bool (decide (okPart a b))) := by
  refine fnA 2 ok88 (by simp) ?_
  unfold okPart
  (conv => whnf); (repeat' (first | (refine bT ?_; conv => whnf) | (refine bF ?_; conv => whnf) | (refine bN ?_) | (refine bD (fun hh => ?_) (fun hh => ?_) <;> first | (exfalso; omega) | (conv => whnf)) | (refine bEq (fun hh => ?_) (fun hh => ?_) <;> first | (exfalso; omega) | (conv => whnf)) | (refine bNe (fun hh => ?_) (fun hh => ?_) <;> first | (exfalso; omega) | (conv => whnf)) | (refine (k73 _ _ _).callq rfl rfl (fun r (hr : r = _) => ?_); subst hr; conv => whnf) | (refine wIn (by omega) ?_; conv => whnf) | (refine nI (by omega) ?_; conv => whnf)))
  all_goals first | rfl | exact congrArg AV.bool (decide_eq_decide.2 (by omega)) | exact congrArg AV.bool (decide_eq_true (by omega)).symm | exact congrArg AV.bool (decide_eq_false (by omega)).symm
theorem k70 (s : Sec) : FnA Tryz.prog 86 [.agg s.av] (· = .bool (decide s.ok)) := by
  refine fnA 2 ok86 (by simp) ?_
  unfold Sec.ok
  (conv => whnf); (repeat' (first | (refine bT ?_; conv => whnf) | (refine bF ?_; conv => whnf) | (refine bN ?_) | (refine bD (fun hh => ?_) (fun hh => ?_) <;> (conv => whnf)) | (refine bEq (fun hh => ?_) (fun hh => ?_) <;> (conv => whnf)) | (refine bNe (fun hh => ?_) (fun hh => ?_) <;> (conv => whnf)) | (refine (k71 _ _ _).callq rfl rfl (fun r (hr : r = _) => ?_); subst hr; conv => whnf) | (refine (k72 _ _).callq rfl rfl (fun r (hr : r = _) => ?_); subst hr; conv => whnf) | (refine (k73 _ _ _).callq rfl rfl (fun r (hr : r = _) => ?_); subst hr; conv => whnf) | (refine wIn (by omega) ?_; conv => whnf) | (refine nI (by omega) ?_; conv => whnf)))
  all_goals (simp [*])
theorem k76 (a b c d : Int) (h1 : -9000000000000000000 ≤ a * d ∧ a * d ≤ 9000000000000000000) (h2 : -9000000000000000000 ≤ c * b ∧ c * b ≤ 9000000000000000000) : FnA Tryz.prog 93 [.agg [.int .i64 a, .int .i64 b], .agg [.int .i64 c, .int .i64 d]] (· = .bool (decide (a * d < c * b))) := by
  refine fnA 2 ok93 (by simp) ?_
  (conv => whnf); (repeat' (first | (refine bT ?_; conv => whnf) | (refine bF ?_; conv => whnf) | (refine bN ?_) | (refine bD (fun hh => ?_) (fun hh => ?_) <;> first | (exfalso; omega) | (conv => whnf)) | (refine bEq (fun hh => ?_) (fun hh => ?_) <;> first | (exfalso; omega) | (conv => whnf)) | (refine bNe (fun hh => ?_) (fun hh => ?_) <;> first | (exfalso; omega) | (conv => whnf)) | (refine wIn (by omega) ?_; conv => whnf) | (refine nI (by omega) ?_; conv => whnf)))
  all_goals rfl
theorem getD_map {α : Type} (f : α → List AV) (l : List α) (i : Nat) (h : i < l.length) : (l.map f).getD i [] = f l[i] := by
  simp [List.getD_eq_getElem?_getD, h]
theorem all_take {α : Type} {p : α → Prop} {l : List α} {i : Nat} (h : i < l.length) (h1 : ∀ s ∈ l.take i, p s) (h2 : p l[i]) : ∀ s ∈ l.take (i + 1), p s := by
  intro s hs
  rw [List.take_succ_eq_append_getElem h] at hs
  rcases List.mem_append.1 hs with hs | hs
  · exact h1 s hs
  · simp at hs; subst hs; exact h2
theorem k48 (f : Frm) : FnA Tryz.prog 73 [.agg f.cells] (· = .bool (decide f.ok)) := by
  have hL : (f.ss.map Sec.av).length = f.ss.length := by simp
  refine fnA 2 ok73 (by simp) ?_
  (conv => whnf); (repeat' (first | (refine bT ?_; conv => whnf) | (refine bF ?_; conv => whnf) | (refine bN ?_) | (refine bD (fun hh => ?_) (fun hh => ?_) <;> first | (exfalso; omega) | (conv => whnf)) | (refine bEq (fun hh => ?_) (fun hh => ?_) <;> first | (exfalso; omega) | (conv => whnf)) | (refine bNe (fun hh => ?_) (fun hh => ?_) <;> first | (exfalso; omega) | (conv => whnf)) | (refine wIn (by omega) ?_; conv => whnf) | (refine nI (by omega) ?_; conv => whnf)))
  all_goals try (refine congrArg AV.bool (decide_eq_false fun h => ?_).symm; unfold Frm.ok at h; omega)
  refine loop_i (α := Nat) (fun k => [(18, .int .i64 k), (17, .int .i64 ↑(f.ss.map Sec.av).length), (16, .isl (f.ss.map Sec.av)), (1, .own 0 0)]) (fun k => [.box false f.cells, .fresh]) (fun k => k ≤ f.ss.length ∧ ∀ s ∈ f.ss.take k, s.ok) (fun k => f.ss.length - k) 0 (meets_id (by (repeat' apply And.intro) <;> first | rfl | exact True.intro | (intro hh; cases hh))) ⟨by omega, by simp⟩ ?_
  rintro k ⟨h1, h2⟩
  conv => whnf
  refine bD (fun h3 => ?_) (fun h3 => ?_)
  · conv => whnf
    refine iaI (by omega) (by omega) (getD_map Sec.av f.ss k (by omega)) ?_
    conv => whnf
    have hk : k < f.ss.length := by omega
    refine (k70 f.ss[k]).callq rfl rfl (fun r (hr : r = _) => ?_)
    subst hr
    conv => whnf
    refine bN (bD (fun h4 => ?_) (fun h4 => ?_))
    · conv => whnf
      refine wIn (by omega) ?_
      exact ⟨k + 1, (meets_id (by (repeat' apply And.intro) <;> first | rfl | exact True.intro | (intro hh; cases hh))), ⟨by omega, all_take hk h2 h4⟩, by omega⟩
    · conv => whnf
      refine congrArg AV.bool (decide_eq_false fun h => h4 ?_).symm
      exact h.2.2.1 _ (List.getElem_mem hk)
  · have e : k = f.ss.length := by omega
    subst e
    rw [List.take_length] at h2
    have hiff : f.ok ↔ (okSpan f.lo f.hi 200 ∧ okPart f.en f.ed ∧ (0 ≤ f.rod ∧ f.rod ≤ 4000) ∧ (0 ≤ f.cs ∧ f.cs ≤ 4000)) := ⟨fun h => h.2.2.2, fun h => ⟨by omega, by omega, h2, h⟩⟩
    clear h3 h1 h2
    (conv => whnf); (repeat' (first | (refine bT ?_; conv => whnf) | (refine bF ?_; conv => whnf) | (refine bN ?_) | (refine bD (fun hh => ?_) (fun hh => ?_) <;> first | (exfalso; omega) | (conv => whnf)) | (refine bEq (fun hh => ?_) (fun hh => ?_) <;> first | (exfalso; omega) | (conv => whnf)) | (refine bNe (fun hh => ?_) (fun hh => ?_) <;> first | (exfalso; omega) | (conv => whnf)) | (refine (k71 _ _ _).callq rfl rfl (fun r (hr : r = _) => ?_); subst hr; conv => whnf) | (refine (k72 _ _).callq rfl rfl (fun r (hr : r = _) => ?_); subst hr; conv => whnf) | (refine (k73 _ _ _).callq rfl rfl (fun r (hr : r = _) => ?_); subst hr; conv => whnf) | (refine wIn (by omega) ?_; conv => whnf) | (refine nI (by omega) ?_; conv => whnf)))
    all_goals (simp [*])
theorem k14 (f : Frm) : FnA Tryz.prog 50 [.agg f.cells] (· = .int .i64 (if f.ok then 0 else 10)) := by
  refine fnA 2 ok50 (by simp) ?_
  (conv => whnf); (repeat' (first | (refine bT ?_; conv => whnf) | (refine bF ?_; conv => whnf) | (refine bN ?_) | (refine bD (fun hh => ?_) (fun hh => ?_) <;> (conv => whnf)) | (refine bEq (fun hh => ?_) (fun hh => ?_) <;> (conv => whnf)) | (refine bNe (fun hh => ?_) (fun hh => ?_) <;> (conv => whnf)) | (refine (k48 f).callq rfl rfl (fun r (hr : r = _) => ?_); subst hr; conv => whnf) | (refine wIn (by omega) ?_; conv => whnf) | (refine nI (by omega) ?_; conv => whnf)))
  all_goals simp [*]
theorem k67 (f : Frm) (i : Int) : FnA Tryz.prog 90 [.agg f.cells, .int .i64 i] (· = .int .i64 (if f.ok then (if 0 ≤ i ∧ i < f.ss.length then 0 else 1) else 10)) := by
  have hL : (f.ss.map Sec.av).length = f.ss.length := by simp
  refine fnA 2 ok90 (by simp) ?_
  by_cases hok : f.ok
  · have h3 := hok.2.1
    (conv => whnf); (repeat' (first | (refine bT ?_; conv => whnf) | (refine bF ?_; conv => whnf) | (refine bN ?_) | (refine bD (fun hh => ?_) (fun hh => ?_) <;> (conv => whnf)) | (refine bEq (fun hh => ?_) (fun hh => ?_) <;> (conv => whnf)) | (refine bNe (fun hh => ?_) (fun hh => ?_) <;> (conv => whnf)) | (refine (k48 f).callq rfl rfl (fun r (hr : r = _) => ?_); subst hr; conv => whnf) | (refine (k73 _ _ _).callq rfl rfl (fun r (hr : r = _) => ?_); subst hr; conv => whnf) | (refine wIn (by omega) ?_; conv => whnf) | (refine nI (by omega) ?_; conv => whnf)))
    all_goals (simp only [hL] at *)
    all_goals (first | exact absurd hok (by assumption) | skip)
    all_goals (rw [if_pos hok])
    · rw [if_pos (by omega)]
    · rw [if_neg (by omega)]
  · (conv => whnf); (repeat' (first | (refine bT ?_; conv => whnf) | (refine bF ?_; conv => whnf) | (refine bN ?_) | (refine bD (fun hh => ?_) (fun hh => ?_) <;> (conv => whnf)) | (refine bEq (fun hh => ?_) (fun hh => ?_) <;> (conv => whnf)) | (refine bNe (fun hh => ?_) (fun hh => ?_) <;> (conv => whnf)) | (refine (k48 f).callq rfl rfl (fun r (hr : r = _) => ?_); subst hr; conv => whnf) | (refine (k73 _ _ _).callq rfl rfl (fun r (hr : r = _) => ?_); subst hr; conv => whnf) | (refine wIn (by omega) ?_; conv => whnf) | (refine nI (by omega) ?_; conv => whnf)))
    all_goals (first | exact absurd (by assumption) hok | rw [if_neg hok])
def Frm.pos (f : Frm) (i r : Int) : Int := if f.ok then (if (0 ≤ i ∧ i < f.ss.length) ∧ f.lo ≤ r ∧ r ≤ f.hi then 0 else 1) else 10
theorem k52 (f : Frm) (i r : Int) : FnA Tryz.prog 74 [.agg f.cells, .int .i64 i, .int .i64 r] (· = .int .i64 (f.pos i r)) := by
  refine fnA 2 ok74 (by simp) ?_
  by_cases hok : f.ok
  · by_cases hi : 0 ≤ i ∧ i < f.ss.length
    · (conv => whnf); (repeat' (first | (refine bT ?_; conv => whnf) | (refine bF ?_; conv => whnf) | (refine bN ?_) | (refine bD (fun hh => ?_) (fun hh => ?_) <;> (conv => whnf)) | (refine bEq (fun hh => ?_) (fun hh => ?_) <;> (conv => whnf)) | (refine bNe (fun hh => ?_) (fun hh => ?_) <;> (conv => whnf)) | (refine (k67 f _).callq rfl rfl (fun r (hr : r = _) => ?_); subst hr; conv => whnf) | (refine (k73 _ _ _).callq rfl rfl (fun r (hr : r = _) => ?_); subst hr; conv => whnf) | (refine wIn (by omega) ?_; conv => whnf) | (refine nI (by omega) ?_; conv => whnf)))
      all_goals simp_all [Frm.pos]
      all_goals omega
    · (conv => whnf); (repeat' (first | (refine bT ?_; conv => whnf) | (refine bF ?_; conv => whnf) | (refine bN ?_) | (refine bD (fun hh => ?_) (fun hh => ?_) <;> (conv => whnf)) | (refine bEq (fun hh => ?_) (fun hh => ?_) <;> (conv => whnf)) | (refine bNe (fun hh => ?_) (fun hh => ?_) <;> (conv => whnf)) | (refine (k67 f _).callq rfl rfl (fun r (hr : r = _) => ?_); subst hr; conv => whnf) | (refine (k73 _ _ _).callq rfl rfl (fun r (hr : r = _) => ?_); subst hr; conv => whnf) | (refine wIn (by omega) ?_; conv => whnf) | (refine nI (by omega) ?_; conv => whnf)))
      all_goals simp_all [Frm.pos]
      all_goals (rw [if_neg (by omega), if_neg (by omega)])
  · (conv => whnf); (repeat' (first | (refine bT ?_; conv => whnf) | (refine bF ?_; conv => whnf) | (refine bN ?_) | (refine bD (fun hh => ?_) (fun hh => ?_) <;> (conv => whnf)) | (refine bEq (fun hh => ?_) (fun hh => ?_) <;> (conv => whnf)) | (refine bNe (fun hh => ?_) (fun hh => ?_) <;> (conv => whnf)) | (refine (k67 f _).callq rfl rfl (fun r (hr : r = _) => ?_); subst hr; conv => whnf) | (refine (k73 _ _ _).callq rfl rfl (fun r (hr : r = _) => ?_); subst hr; conv => whnf) | (refine wIn (by omega) ?_; conv => whnf) | (refine nI (by omega) ?_; conv => whnf)))
    all_goals simp_all [Frm.pos]
theorem tdiv_bd {a n m : Int} (ha : 0 ≤ a) (h0 : 0 ≤ n) (h1 : n ≤ m) (h2 : 1 ≤ m) : 0 ≤ (a * n).tdiv m ∧ (a * n).tdiv m ≤ a := by
  have h3 : 0 ≤ a * n := Int.mul_nonneg ha h0
  rw [Int.tdiv_eq_ediv_of_nonneg h3]
  refine ⟨Int.ediv_nonneg h3 (by omega), ?_⟩
  have h4 : a * n ≤ a * m := Int.mul_le_mul_of_nonneg_left h1 ha
  calc a * n / m ≤ a * m / m := Int.ediv_le_ediv (by omega) h4
    _ = a := Int.mul_ediv_cancel _ (by omega)
theorem mul_bd {a b : Int} (A B : Int) (h1 : 0 ≤ a) (h2 : a ≤ A) (h3 : 0 ≤ b) (h4 : b ≤ B) : 0 ≤ a * b ∧ a * b ≤ A * B :=
  ⟨Int.mul_nonneg h1 h3, Int.mul_le_mul h2 h4 h3 (by omega)⟩
def dstep (d : Int) (s : Sec) : Int := s.base + (d * s.num).tdiv s.den
def Frm.dist (f : Frm) (i : Nat) (r : Int) : Int := ((f.ss.take (i + 1)).drop 1).foldl dstep r
theorem dstep_bd {d D : Int} {s : Sec} (h : s.ok) (h0 : 0 ≤ d) (h1 : d ≤ D) : 0 ≤ dstep d s ∧ dstep d s ≤ D + 2000 := by
  obtain ⟨_, _, h2, h3⟩ := h
  have := tdiv_bd h0 h3.2.2.1 h3.2.2.2 h3.1
  unfold dstep; omega
theorem fold_bd {l : List Sec} (h : ∀ s ∈ l, s.ok) : ∀ {d D : Int}, 0 ≤ d → d ≤ D → 0 ≤ l.foldl dstep d ∧ l.foldl dstep d ≤ D + 2000 * l.length := by
  induction l with
  | nil => intro d D h0 h1; simp; omega
  | cons s l ih =>
    intro d D h0 h1
    have h2 := dstep_bd (h s (by simp)) h0 h1
    have := ih (fun s hs => h s (by simp [hs])) h2.1 h2.2
    simp only [List.foldl_cons, List.length_cons]
    omega
theorem Frm.dist_bd {f : Frm} (h : f.ok) (i : Nat) {r : Int} (h0 : 0 ≤ r) (h1 : r ≤ 2000) : 0 ≤ f.dist i r ∧ f.dist i r ≤ 6000 := by
  have h2 := h.2.1
  have h3 : ∀ s ∈ (f.ss.take (i + 1)).drop 1, s.ok := fun s hs => h.2.2.1 s (List.mem_of_mem_take (List.mem_of_mem_drop hs))
  have h4 := fold_bd h3 h0 h1
  have h5 : ((f.ss.take (i + 1)).drop 1).length ≤ 2 := by simp; omega
  unfold Frm.dist; omega
theorem k53 (f : Frm) (i : Nat) (r : Int) (hok : f.ok) (hi : i < f.ss.length) (h0 : 0 ≤ r) (h1 : r ≤ 2000) : FnA Tryz.prog 75 [.agg f.cells, .int .i64 i, .int .i64 r] (· = .int .i64 (f.dist i r)) := by
  have h2 := hok.2.1
  have hL : (f.ss.map Sec.av).length = f.ss.length := by simp
  generalize hl : (f.ss.take (i + 1)).drop 1 = l
  have hlo : ∀ s ∈ l, s.ok := fun s hs => hok.2.2.1 s (List.mem_of_mem_take (List.mem_of_mem_drop (hl ▸ hs)))
  have hll : (l.map Sec.av).length = l.length := by simp
  have hl2 : l.length ≤ 2 := by rw [← hl]; simp; omega
  refine fnA 2 ok75 (by simp) ?_
  (conv => whnf); (repeat' (first | (refine bT ?_; conv => whnf) | (refine bF ?_; conv => whnf) | (refine bN ?_) | (refine bD (fun hh => ?_) (fun hh => ?_) <;> (conv => whnf)) | (refine bEq (fun hh => ?_) (fun hh => ?_) <;> (conv => whnf)) | (refine bNe (fun hh => ?_) (fun hh => ?_) <;> (conv => whnf)) | (refine wIn (by omega) ?_; conv => whnf) | (refine nI (by omega) ?_; conv => whnf)))
  refine slI (es' := l.map Sec.av) (by omega) (by omega) (by omega) (fun e he => ?_) ?_ ?_
  · obtain ⟨s, _, rfl⟩ := List.mem_map.1 he; rfl
  · rw [← hl]; simp only [List.map_drop, List.map_take]; congr 1
  conv => whnf
  refine loop_i (α := Nat) (fun k => [(17, .int .i64 k), (16, .int .i64 ↑(l.map Sec.av).length), (15, .isl (l.map Sec.av)), (7, .int .i64 ((l.take k).foldl dstep r))]) (fun k => [.box false f.cells, .fresh]) (fun k => k ≤ l.length) (fun k => l.length - k) 0 (meets_id (by (repeat' apply And.intro) <;> first | rfl | exact True.intro | (intro hh; cases hh))) (by omega) ?_
  intro k hk
  conv => whnf
  refine bD (fun h3 => ?_) (fun h3 => ?_)
  · conv => whnf
    have hk : k < l.length := by omega
    refine iaI (by omega) (by omega) (getD_map Sec.av l k hk) ?_
    conv => whnf
    have hs := hlo l[k] (List.getElem_mem hk)
    have hf := fold_bd (l := l.take k) (fun s hs => hlo s (List.mem_of_mem_take hs)) h0 h1
    have hkl : (l.take k).length ≤ 2 := by simp; omega
    have hm := mul_bd 6000 20 hf.1 (by omega) hs.2.2.2.2.2.1 (by have := hs.2.2.2; unfold okPart at this; omega)
    have ht := tdiv_bd hf.1 hs.2.2.2.2.2.1 hs.2.2.2.2.2.2 hs.2.2.2.1
    have hd := hs.2.2.2.1
    have hb := hs.2.2.1
    have hst : (l.take (k + 1)).foldl dstep r = l[k].base + ((l.take k).foldl dstep r * l[k].num).tdiv l[k].den := by
      rw [List.take_succ_eq_append_getElem hk, List.foldl_append]; rfl
    (conv => whnf); (repeat' (first | (refine bT ?_; conv => whnf) | (refine bF ?_; conv => whnf) | (refine bN ?_) | (refine bD (fun hh => ?_) (fun hh => ?_) <;> first | (exfalso; omega) | (conv => whnf)) | (refine bEq (fun hh => ?_) (fun hh => ?_) <;> first | (exfalso; omega) | (conv => whnf)) | (refine bNe (fun hh => ?_) (fun hh => ?_) <;> first | (exfalso; omega) | (conv => whnf)) | (refine wIn (by omega) ?_; conv => whnf) | (refine nI (by omega) ?_; conv => whnf)))
    refine ⟨k + 1, ?_, by omega, by omega⟩
    rw [hst]
    exact (meets_id (by (repeat' apply And.intro) <;> first | rfl | exact True.intro | (intro hh; cases hh)))
  · conv => whnf
    have : k = l.length := by omega
    subst this
    rw [List.take_length, Frm.dist, hl]

/-! Sides of a section: each arm with each stretcher. -/
def Sec.na (s : Sec) : Nat := (s.ah + 1 - s.al).toNat
def Sec.nb (s : Sec) : Nat := (s.sh + 1 - s.sl).toNat
def Sec.side (s : Sec) (k : Nat) : Int × Int := (s.al + ((k / s.nb : Nat) : Int), s.sl + ((k % s.nb : Nat) : Int))
def Sec.sides (s : Sec) : List (Int × Int) := (List.range (s.na * s.nb)).map s.side
def pairAV (p : Int × Int) : List AV := [.int .i64 p.1, .int .i64 p.2]
theorem side_ij (s : Sec) (i j : Nat) (hj : j < s.nb) : s.side (i * s.nb + j) = (s.al + i, s.sl + j) := by
  unfold Sec.side
  have h1 : (i * s.nb + j) / s.nb = i := by
    rw [Nat.mul_comm, Nat.mul_add_div (by omega), Nat.div_eq_of_lt hj]; rfl
  have h2 : (i * s.nb + j) % s.nb = j := by
    rw [Nat.mul_comm, Nat.mul_add_mod]; exact Nat.mod_eq_of_lt hj
  rw [h1, h2]
theorem sides_get (s : Sec) (i j : Nat) (hi : i < s.na) (hj : j < s.nb) : (s.sides.map pairAV)[i * s.nb + j]? = some [.int .i64 (s.al + i), .int .i64 (s.sl + j)] := by
  have hlt : i * s.nb + j < s.na * s.nb := by
    have : (i + 1) * s.nb ≤ s.na * s.nb := Nat.mul_le_mul_right _ hi
    rw [Nat.add_mul] at this; omega
  simp only [Sec.sides, List.map_map, List.getElem?_map, List.getElem?_range hlt, Option.map_some]
  simp only [Function.comp, side_ij s i j hj, pairAV]
theorem sides_len (s : Sec) : (s.sides.map pairAV).length = s.na * s.nb := by simp [Sec.sides]
theorem mem_sides {s : Sec} {p : Int × Int} : p ∈ s.sides ↔ (s.al ≤ p.1 ∧ p.1 ≤ s.ah) ∧ s.sl ≤ p.2 ∧ p.2 ≤ s.sh := by
  simp only [Sec.sides, List.mem_map, List.mem_range]
  constructor
  · rintro ⟨k, hk, rfl⟩
    have hnb : 0 < s.nb := by
      cases h : s.nb with
      | zero => rw [h] at hk; simp at hk
      | succ n => omega
    have h1 : k / s.nb < s.na := (Nat.div_lt_iff_lt_mul hnb).2 hk
    have h2 := Nat.mod_lt k hnb
    generalize hq : k / s.nb = q at *
    generalize hr : k % s.nb = r at *
    unfold Sec.side
    rw [hq, hr]
    simp only [Sec.na, Sec.nb] at h1 h2
    omega
  · rintro ⟨⟨h1, h2⟩, h3, h4⟩
    have hj : (p.2 - s.sl).toNat < s.nb := by unfold Sec.nb; omega
    have hi : (p.1 - s.al).toNat < s.na := by unfold Sec.na; omega
    refine ⟨(p.1 - s.al).toNat * s.nb + (p.2 - s.sl).toNat, ?_, ?_⟩
    · have : ((p.1 - s.al).toNat + 1) * s.nb ≤ s.na * s.nb := Nat.mul_le_mul_right _ hi
      rw [Nat.add_mul] at this; omega
    · rw [side_ij s _ _ hj]
      ext <;> simp <;> omega

theorem i83 (s : Sec) (hok : s.ok) : ItA Tryz.prog 107 [.ipt s.av] (s.sides.map pairAV) := by
  have h1 := hok.1
  have h2 := hok.2.1
  unfold okSpan at h1 h2
  refine itA 2 ok107 (by simp) ?_
  conv => whnf
  refine loop_y (α := Nat) (fun i => [(3, .int .i64 (s.al + i)), (1, .ipt s.av), (0, .yld)]) (fun i => [.fresh, .fresh]) (fun i => ⟨[], i * s.nb, false⟩) (fun i => i ≤ s.na) (fun i => s.na - i) 0 ?_ (by omega) ?_
  · simp only [Int.natCast_zero, Int.add_zero, Nat.zero_mul]; exact (meets_id (by (repeat' apply And.intro) <;> first | rfl | exact True.intro | (intro hh; cases hh)))
  intro i hi
  conv => whnf
  have ena : (s.na : Int) = s.ah + 1 - s.al := by unfold Sec.na; omega
  have enb : (s.nb : Int) = s.sh + 1 - s.sl := by unfold Sec.nb; omega
  refine bD (fun h3 => ?_) (fun h3 => ?_)
  · conv => whnf
    refine loop_y (α := Nat) (fun j => [(4, .int .i64 (s.sl + j)), (3, .int .i64 (s.al + i)), (1, .ipt s.av), (0, .yld)]) (fun j => [.fresh, .fresh]) (fun j => ⟨[], i * s.nb + j, false⟩) (fun j => j ≤ s.nb) (fun j => s.nb - j) 0 ?_ (by omega) ?_
    · simp only [Int.natCast_zero, Int.add_zero, Nat.add_zero]; exact (meets_id (by (repeat' apply And.intro) <;> first | rfl | exact True.intro | (intro hh; cases hh)))
    intro j hj
    conv => whnf
    refine bD (fun h4 => ?_) (fun h4 => ?_)
    · conv => whnf
      refine yI rfl (sides_get s i j (by omega) (by omega)) rfl ?_ ?_
      · conv => whnf
        refine bN (bT ?_)
        conv => whnf
        refine wIn (by omega) ?_
        refine ⟨j + 1, ?_, by omega, by omega⟩
        simp only [Int.natCast_add, Int.natCast_one, ← Int.add_assoc, ← Nat.add_assoc]
        exact (meets_id (by (repeat' apply And.intro) <;> first | rfl | exact True.intro | (intro hh; cases hh)))
      · conv => whnf
        refine bN (bF ?_)
        conv => whnf
        exact .inl rfl
    · conv => whnf
      refine wIn (by omega) ?_
      have : j = s.nb := by omega
      subst this
      refine ⟨i + 1, ?_, by omega, by omega⟩
      simp only [Int.natCast_add, Int.natCast_one, ← Int.add_assoc, Nat.add_mul, Nat.one_mul]
      exact (meets_id (by (repeat' apply And.intro) <;> first | rfl | exact True.intro | (intro hh; cases hh)))
  · conv => whnf
    right
    have : i = s.na := by omega
    subst this
    rw [sides_len]

theorem k75 (s : Sec) : FnA Tryz.prog 92 [.agg s.av] (· = .fn 107 [.ipt s.av]) := by
  refine fnA 2 ok92 (by simp) ?_
  (conv => whnf); (repeat' (first | (refine bT ?_; conv => whnf) | (refine bF ?_; conv => whnf) | (refine bN ?_) | (refine bD (fun hh => ?_) (fun hh => ?_) <;> (conv => whnf)) | (refine bEq (fun hh => ?_) (fun hh => ?_) <;> (conv => whnf)) | (refine bNe (fun hh => ?_) (fun hh => ?_) <;> (conv => whnf)) | (refine wIn (by omega) ?_; conv => whnf) | (refine nI (by omega) ?_; conv => whnf)))
  all_goals rfl

/-- a cosine, not reduced -/
def cosN (d a t : Int) : Int := d * d + a * a - t * t
def cosD (d a : Int) : Int := 2 * d * a
theorem k74 (d a t : Int) (hd : 0 ≤ d ∧ d ≤ 6000) (ha : 0 ≤ a ∧ a ≤ 2000) (ht : 0 ≤ t ∧ t ≤ 2000) : FnA Tryz.prog 91 [.int .i64 d, .int .i64 a, .int .i64 t] (· = .agg [.int .i64 (cosN d a t), .int .i64 (cosD d a)]) := by
  have h1 := mul_bd 6000 6000 hd.1 hd.2 hd.1 hd.2
  have h2 := mul_bd 2000 2000 ha.1 ha.2 ha.1 ha.2
  have h3 := mul_bd 2000 2000 ht.1 ht.2 ht.1 ht.2
  have h4 := mul_bd (a := 2 * d) 12000 2000 (by omega) (by omega) ha.1 ha.2
  refine fnA 2 ok91 (by simp) ?_
  (conv => whnf); (repeat' (first | (refine bT ?_; conv => whnf) | (refine bF ?_; conv => whnf) | (refine bN ?_) | (refine bD (fun hh => ?_) (fun hh => ?_) <;> (conv => whnf)) | (refine bEq (fun hh => ?_) (fun hh => ?_) <;> (conv => whnf)) | (refine bNe (fun hh => ?_) (fun hh => ?_) <;> (conv => whnf)) | (refine wIn (by omega) ?_; conv => whnf) | (refine nI (by omega) ?_; conv => whnf)))
  all_goals rfl
theorem cosN_bd {d a t : Int} (hd : 0 ≤ d ∧ d ≤ 6000) (ha : 0 ≤ a ∧ a ≤ 2000) (ht : 0 ≤ t ∧ t ≤ 2000) : -4000000 ≤ cosN d a t ∧ cosN d a t ≤ 40000000 := by
  have h1 := mul_bd 6000 6000 hd.1 hd.2 hd.1 hd.2
  have h2 := mul_bd 2000 2000 ha.1 ha.2 ha.1 ha.2
  have h3 := mul_bd 2000 2000 ht.1 ht.2 ht.1 ht.2
  unfold cosN; omega
theorem cosD_bd {d a : Int} (hd : 0 ≤ d ∧ d ≤ 6000) (ha : 0 ≤ a ∧ a ≤ 2000) : 0 ≤ cosD d a ∧ cosD d a ≤ 24000000 := by
  have h4 := mul_bd (a := 2 * d) 12000 2000 (by omega) (by omega) ha.1 ha.2
  unfold cosD; omega

/-! greatest common divisors -/
theorem gcd_step {x y : Int} (h1 : 0 ≤ x) (h2 : 0 ≤ y) : Int.gcd (y % x) x = Int.gcd x y := by
  obtain ⟨n, rfl⟩ := Int.eq_ofNat_of_zero_le h1
  obtain ⟨m, rfl⟩ := Int.eq_ofNat_of_zero_le h2
  rw [← Int.natCast_emod]
  simp only [Int.gcd_natCast_natCast]
  exact (Nat.gcd_rec n m).symm
theorem k77 (a b : Int) (ha : 0 ≤ a ∧ a ≤ 1000000000000) (hb : 0 ≤ b ∧ b ≤ 1000000000000) : FnA Tryz.prog 94 [.int .i64 a, .int .i64 b] (· = .int .i64 (Int.gcd a b)) := by
  refine fnA 2 ok94 (by simp) ?_
  (conv => whnf); (repeat' (first | (refine bT ?_; conv => whnf) | (refine bF ?_; conv => whnf) | (refine bN ?_) | (refine bD (fun hh => ?_) (fun hh => ?_) <;> (conv => whnf)) | (refine bEq (fun hh => ?_) (fun hh => ?_) <;> (conv => whnf)) | (refine bNe (fun hh => ?_) (fun hh => ?_) <;> (conv => whnf)) | (refine wIn (by omega) ?_; conv => whnf) | (refine nI (by omega) ?_; conv => whnf)))
  refine loop_i (α := Int × Int) (fun x => [(0, .int .i64 x.1), (1, .int .i64 x.2)]) (fun x => [.fresh, .fresh]) (fun x => 0 ≤ x.1 ∧ 0 ≤ x.2 ∧ Int.gcd x.1 x.2 = Int.gcd a b) (fun x => x.1.toNat) (a, b) (meets_id (by (repeat' apply And.intro) <;> first | rfl | exact True.intro | (intro hh; cases hh))) ⟨ha.1, hb.1, rfl⟩ ?_
  rintro ⟨x, y⟩ ⟨h1, h2, h3⟩
  simp only at h1 h2 h3
  conv => whnf
  refine bNe (fun h4 => ?_) (fun h4 => ?_)
  · conv => whnf
    refine nI h4 ?_
    conv => whnf
    have e : y.tmod x = y % x := Int.tmod_eq_emod_of_nonneg h2
    have h5 := Int.emod_nonneg y h4
    have h6 := Int.emod_lt_of_pos y (show 0 < x by omega)
    refine ⟨(y.tmod x, x), (meets_id (by (repeat' apply And.intro) <;> first | rfl | exact True.intro | (intro hh; cases hh))), ⟨by simp only [e]; exact h5, h1, ?_⟩, ?_⟩
    · simp only [e]
      rw [← h3]; exact gcd_step h1 h2
    · simp only [e]; omega
  · conv => whnf
    subst h4
    rw [← h3]
    simp; omega

/-! reduced fractions -/
def redN (n d : Int) : Int := n.tdiv (Int.gcd n d)
def redD (n d : Int) : Int := d.tdiv (Int.gcd n d)
theorem gcd_max (n d : Int) : Int.gcd (max n (0 - n)) d = Int.gcd n d := by
  by_cases h : 0 ≤ n
  · rw [Int.max_eq_left (by omega)]
  · rw [Int.max_eq_right (by omega), Int.zero_sub, Int.neg_gcd]
theorem gcd_bd {n d : Int} (hd : 1 ≤ d) : 1 ≤ (Int.gcd n d : Int) ∧ (Int.gcd n d : Int) ≤ d := by
  have h1 : 0 < Int.gcd n d := Int.gcd_pos_of_ne_zero_right n (by omega)
  have h2 := Int.le_of_dvd (by omega) (Int.gcd_dvd_right n d)
  omega
theorem tdiv_abs {a b : Int} (hb : 1 ≤ b) (B : Int) (h1 : -B ≤ a) (h2 : a ≤ B) : -B ≤ a.tdiv b ∧ a.tdiv b ≤ B := by
  by_cases h : 0 ≤ a
  · rw [Int.tdiv_eq_ediv_of_nonneg h]
    have h3 := Int.ediv_nonneg h (show 0 ≤ b by omega)
    have h4 := Int.ediv_le_self b h
    omega
  · have e : a.tdiv b = - ((-a) / b) := by
      have := Int.neg_tdiv (a := -a) (b := b)
      rw [Int.neg_neg] at this
      rw [this, Int.tdiv_eq_ediv_of_nonneg (by omega)]
    have h3 := Int.ediv_nonneg (show 0 ≤ -a by omega) (show 0 ≤ b by omega)
    have h4 := Int.ediv_le_self b (show 0 ≤ -a by omega)
    omega
theorem k58 (n d : Int) (hn : -100000000 ≤ n ∧ n ≤ 100000000) (hd : 1 ≤ d ∧ d ≤ 100000000) : FnA Tryz.prog 77 [.agg [.int .i64 n, .int .i64 d]] (· = .agg [.int .i64 (redN n d), .int .i64 (redD n d)]) := by
  have hg := gcd_bd (n := n) hd.1
  have h1 := tdiv_abs (a := n) hg.1 100000000 (by omega) (by omega)
  have h2 := tdiv_abs (a := d) hg.1 100000000 (by omega) (by omega)
  have hm : max n (0 - n) ≤ 100000000 ∧ 0 ≤ max n (0 - n) := by omega
  refine fnA 2 ok77 (by simp) ?_
  (conv => whnf); (repeat' (first | (refine bT ?_; conv => whnf) | (refine bF ?_; conv => whnf) | (refine bN ?_) | (refine bD (fun hh => ?_) (fun hh => ?_) <;> (conv => whnf)) | (refine bEq (fun hh => ?_) (fun hh => ?_) <;> (conv => whnf)) | (refine bNe (fun hh => ?_) (fun hh => ?_) <;> (conv => whnf)) | (refine wIn (by omega) ?_; conv => whnf) | (refine nI (by omega) ?_; conv => whnf)))
  refine (k77 (max n (0 - n)) d ⟨hm.2, by omega⟩ (by omega)).callq rfl rfl (fun r (hr : r = _) => ?_)
  rw [gcd_max] at hr
  subst hr
  (conv => whnf); (repeat' (first | (refine bT ?_; conv => whnf) | (refine bF ?_; conv => whnf) | (refine bN ?_) | (refine bD (fun hh => ?_) (fun hh => ?_) <;> (conv => whnf)) | (refine bEq (fun hh => ?_) (fun hh => ?_) <;> (conv => whnf)) | (refine bNe (fun hh => ?_) (fun hh => ?_) <;> (conv => whnf)) | (refine wIn (by omega) ?_; conv => whnf) | (refine nI (by omega) ?_; conv => whnf)))
  all_goals rfl

theorem mul_ab {a b : Int} (A B : Int) (h1 : -A ≤ a) (h2 : a ≤ A) (h3 : 0 ≤ b) (h4 : b ≤ B) : -(A * B) ≤ a * b ∧ a * b ≤ A * B := by
  by_cases h : 0 ≤ a
  · have := mul_bd A B h h2 h3 h4
    omega
  · have := mul_bd (a := -a) A B (by omega) (by omega) h3 h4
    rw [Int.neg_mul] at this
    omega

/-- what is known of a section's sides -/
def knw (s : Sec) (p : Int → Int → Bool) : Int := if s.sides.all (fun q => p q.1 q.2) then 1 else if s.sides.any (fun q => p q.1 q.2) then 3 else 2
theorem take_all {α : Type} (l : List α) (p : α → Bool) {k : Nat} {q : α} (h : l[k]? = some q) : (l.take (k + 1)).all p = ((l.take k).all p && p q) := by
  obtain ⟨h1, rfl⟩ := List.getElem?_eq_some_iff.1 h
  rw [List.take_succ_eq_append_getElem h1, List.all_append]; simp
theorem take_any {α : Type} (l : List α) (p : α → Bool) {k : Nat} {q : α} (h : l[k]? = some q) : (l.take (k + 1)).any p = ((l.take k).any p || p q) := by
  obtain ⟨h1, rfl⟩ := List.getElem?_eq_some_iff.1 h
  rw [List.take_succ_eq_append_getElem h1, List.any_append]; simp
abbrev FF := (Int × Int) × (Int × Int)
def cstep (d : Int) (x : FF) (q : Int × Int) : FF :=
  (if cosN d q.1 q.2 * x.1.2 < x.1.1 * cosD d q.1 then (cosN d q.1 q.2, cosD d q.1) else x.1,
   if x.2.1 * cosD d q.1 < cosN d q.1 q.2 * x.2.2 then (cosN d q.1 q.2, cosD d q.1) else x.2)
def cosF (s : Sec) (d : Int) : FF := s.sides.foldl (cstep d) ((cosN d s.al s.sl, cosD d s.al), (cosN d s.al s.sl, cosD d s.al))
def fbd (q : Int × Int) : Prop := (-40000000 ≤ q.1 ∧ q.1 ≤ 40000000) ∧ 0 ≤ q.2 ∧ q.2 ≤ 24000000
theorem cos_fbd {s : Sec} (hok : s.ok) {d : Int} (hd : 0 ≤ d ∧ d ≤ 6000) {q : Int × Int} (hq : q ∈ s.sides) : fbd (cosN d q.1 q.2, cosD d q.1) := by
  have hm := mem_sides.1 hq
  have h1 := hok.1
  have h2 := hok.2.1
  unfold okSpan at h1 h2
  have h3 := cosN_bd (d := d) (a := q.1) (t := q.2) hd (by omega) (by omega)
  have h4 := cosD_bd (d := d) (a := q.1) hd (by omega)
  unfold fbd; omega
theorem k57 (s : Sec) (d : Int) (hok : s.ok) (hd : 0 ≤ d ∧ d ≤ 6000) : FnA Tryz.prog 76 [.agg s.av, .int .i64 d] (· = .tup [.agg [.int .i64 (cosF s d).1.1, .int .i64 (cosF s d).1.2], .agg [.int .i64 (cosF s d).2.1, .int .i64 (cosF s d).2.2]]) := by
  have h1 := hok.1
  have h2 := hok.2.1
  unfold okSpan at h1 h2
  have h0 : (s.al, s.sl) ∈ s.sides := mem_sides.2 ⟨⟨by simp, by simp; omega⟩, by simp, by simp; omega⟩
  have hf0 := cos_fbd hok hd h0
  refine fnA 5 ok76 (by simp) ?_
  (conv => whnf); (repeat' (first | (refine bT ?_; conv => whnf) | (refine bF ?_; conv => whnf) | (refine bN ?_) | (refine bD (fun hh => ?_) (fun hh => ?_) <;> (conv => whnf)) | (refine bEq (fun hh => ?_) (fun hh => ?_) <;> (conv => whnf)) | (refine bNe (fun hh => ?_) (fun hh => ?_) <;> (conv => whnf)) | (refine (k74 _ _ _ hd (by omega) (by omega)).callq rfl rfl (fun r (hr : r = _) => ?_); subst hr; conv => whnf) | (refine (k75 s).callzq rfl rfl (fun r (hr : r = _) => ?_); subst hr; conv => whnf) | (refine wIn (by omega) ?_; conv => whnf) | (refine nI (by omega) ?_; conv => whnf)))
  refine rng_i (α := FF) (s.sides.map pairAV) [0, 1, 2, 3] [(2, .own 0 0), (3, .own 1 0), (4, .own 2 0), (5, .own 3 0)] (fun x => [.box false s.av, .box false [.int .i64 d], .box false [.int .i64 x.1.1, .int .i64 x.1.2], .box false [.int .i64 x.2.1, .int .i64 x.2.2], .fresh])
    (fun k x => x = (s.sides.take k).foldl (cstep d) ((cosN d s.al s.sl, cosD d s.al), (cosN d s.al s.sl, cosD d s.al)) ∧ fbd x.1 ∧ fbd x.2) ((cosN d s.al s.sl, cosD d s.al), (cosN d s.al s.sl, cosD d s.al)) rfl rfl rfl bd107 (i83 s hok) rfl (meets_id (by (repeat' apply And.intro) <;> first | rfl | exact True.intro | (intro hh; cases hh))) rfl ⟨by simp, hf0, hf0⟩ (fun v hv => by obtain ⟨q, _, rfl⟩ := List.mem_map.1 hv; rfl) ?_ ?_
  · rintro k v ⟨⟨ln, ld⟩, hn, hd'⟩ hv ⟨h3, h4, h5⟩
    obtain ⟨q, hq, rfl⟩ : ∃ q, s.sides[k]? = some q ∧ pairAV q = v := by simpa using hv
    have hqm := List.mem_of_getElem? hq
    have hm := mem_sides.1 hqm
    have hc := cos_fbd hok hd hqm
    have hst : (s.sides.take (k + 1)).foldl (cstep d) ((cosN d s.al s.sl, cosD d s.al), (cosN d s.al s.sl, cosD d s.al)) = cstep d ((ln, ld), (hn, hd')) q := by
      obtain ⟨hk, rfl⟩ := List.getElem?_eq_some_iff.1 hq
      rw [List.take_succ_eq_append_getElem hk, List.foldl_append, ← h3]; rfl
    clear h3
    simp only [fbd] at h4 h5 hc
    have m1 := mul_ab 40000000 24000000 hc.1.1 hc.1.2 h4.2.1 h4.2.2
    have m2 := mul_ab 40000000 24000000 h4.1.1 h4.1.2 hc.2.1 hc.2.2
    have m3 := mul_ab 40000000 24000000 h5.1.1 h5.1.2 hc.2.1 hc.2.2
    have m4 := mul_ab 40000000 24000000 hc.1.1 hc.1.2 h5.2.1 h5.2.2
    (conv => whnf); (repeat' (first | (refine bT ?_; conv => whnf) | (refine bF ?_; conv => whnf) | (refine bN ?_) | (refine bD (fun hh => ?_) (fun hh => ?_) <;> (conv => whnf)) | (refine bEq (fun hh => ?_) (fun hh => ?_) <;> (conv => whnf)) | (refine bNe (fun hh => ?_) (fun hh => ?_) <;> (conv => whnf)) | (refine (k74 _ _ _ hd (by omega) (by omega)).callq rfl rfl (fun r (hr : r = _) => ?_); subst hr; conv => whnf) | (refine (k76 (cosN d q.1 q.2) (cosD d q.1) ln ld (by omega) (by omega)).callq rfl rfl (fun r (hr : r = _) => ?_); subst hr; conv => whnf) | (refine (k76 hn hd' (cosN d q.1 q.2) (cosD d q.1) (by omega) (by omega)).callq rfl rfl (fun r (hr : r = _) => ?_); subst hr; conv => whnf) | (refine wIn (by omega) ?_; conv => whnf) | (refine nI (by omega) ?_; conv => whnf)))
    · rename_i b1
      exact ⟨((cosN d q.1 q.2, cosD d q.1), (cosN d q.1 q.2, cosD d q.1)), (meets_id (by (repeat' apply And.intro) <;> first | rfl | exact True.intro | (intro hh; cases hh))), by rw [hst]; simp [cstep, b1, hh], hc, hc⟩
    · rename_i b1
      exact ⟨((cosN d q.1 q.2, cosD d q.1), (hn, hd')), (meets_id (by (repeat' apply And.intro) <;> first | rfl | exact True.intro | (intro hh; cases hh))), by rw [hst]; simp only [cstep, b1, hh, if_true, if_false], hc, h5⟩
    · rename_i b1
      exact ⟨((ln, ld), (cosN d q.1 q.2, cosD d q.1)), (meets_id (by (repeat' apply And.intro) <;> first | rfl | exact True.intro | (intro hh; cases hh))), by rw [hst]; simp only [cstep, b1, hh, if_true, if_false], h4, hc⟩
    · rename_i b1
      exact ⟨((ln, ld), (hn, hd')), (meets_id (by (repeat' apply And.intro) <;> first | rfl | exact True.intro | (intro hh; cases hh))), by rw [hst]; simp only [cstep, b1, hh, if_true, if_false], h4, h5⟩
  · rintro x ⟨h3, _, _⟩
    have hlen : (s.sides.map pairAV).length = s.sides.length := by simp
    rw [hlen, List.take_length] at h3
    have h3 : x = cosF s d := h3
    subst h3
    (conv => whnf); (repeat' (first | (refine bT ?_; conv => whnf) | (refine bF ?_; conv => whnf) | (refine bN ?_) | (refine bD (fun hh => ?_) (fun hh => ?_) <;> (conv => whnf)) | (refine bEq (fun hh => ?_) (fun hh => ?_) <;> (conv => whnf)) | (refine bNe (fun hh => ?_) (fun hh => ?_) <;> (conv => whnf)) | (refine wIn (by omega) ?_; conv => whnf) | (refine nI (by omega) ?_; conv => whnf)))
    all_goals rfl

/-- a section binds, so far out -/
def bind (d a t en ed : Int) : Bool := decide (d = 0) || (!decide (cosN d a t * ed < (ed - en) * cosD d a) || !decide ((0 - (ed - en)) * cosD d a < cosN d a t * ed))
def bcaps (d en ed : Int) : List AV := [.ipt [.int .i64 d], .ipt [.int .i64 (ed - en), .int .i64 ed], .ipt [.int .i64 (0 - (ed - en)), .int .i64 ed]]
instance : Inhabited Sec := ⟨⟨0, 0, 0, 0, 0, 0, 0⟩⟩
theorem sec_ok {f : Frm} (hok : f.ok) {i : Nat} (hi : i < f.ss.length) : (f.ss[i]).ok := hok.2.2.1 _ (List.getElem_mem hi)
theorem pos_ok {f : Frm} {i r : Int} (h : f.pos i r = 0) : f.ok ∧ (0 ≤ i ∧ i < f.ss.length) ∧ f.lo ≤ r ∧ r ≤ f.hi ∧ 1 ≤ r ∧ r ≤ 2000 := by
  unfold Frm.pos at h
  split at h
  · rename_i hok
    split at h
    · rename_i h2
      have h3 := hok.2.2.2.1
      unfold okSpan at h3
      exact ⟨hok, h2.1, h2.2.1, h2.2.2, by omega, by omega⟩
    · cases h
  · cases h
theorem pos_zero {f : Frm} {i r : Int} (hok : f.ok) (hi : 0 ≤ i ∧ i < f.ss.length) (hr : f.lo ≤ r ∧ r ≤ f.hi) : f.pos i r = 0 := by
  unfold Frm.pos; rw [if_pos hok, if_pos ⟨hi, hr⟩]
/-- what is said of binding -/
def Frm.bnd (f : Frm) (i : Nat) (r : Int) : Int := knw (f.ss.getD i default) (fun a t => bind (f.dist i r) a t f.en f.ed)
theorem cosF_mem (s : Sec) (d : Int) (h0 : (s.al, s.sl) ∈ s.sides) : (∃ q ∈ s.sides, (cosF s d).1 = (cosN d q.1 q.2, cosD d q.1)) ∧ ∃ q ∈ s.sides, (cosF s d).2 = (cosN d q.1 q.2, cosD d q.1) := by
  have key : ∀ (l : List (Int × Int)) (x : FF), (∀ q ∈ l, q ∈ s.sides) → (∃ q ∈ s.sides, x.1 = (cosN d q.1 q.2, cosD d q.1)) → (∃ q ∈ s.sides, x.2 = (cosN d q.1 q.2, cosD d q.1)) → (∃ q ∈ s.sides, (l.foldl (cstep d) x).1 = (cosN d q.1 q.2, cosD d q.1)) ∧ ∃ q ∈ s.sides, (l.foldl (cstep d) x).2 = (cosN d q.1 q.2, cosD d q.1) := by
    intro l
    induction l with
    | nil => intro x _ h1 h2; exact ⟨h1, h2⟩
    | cons q l ih =>
      intro x hl h1 h2
      refine ih _ (fun q hq => hl q (by simp [hq])) ?_ ?_
      · simp only [cstep]; split
        · exact ⟨q, hl q (by simp), rfl⟩
        · exact h1
      · simp only [cstep]; split
        · exact ⟨q, hl q (by simp), rfl⟩
        · exact h2
  exact key s.sides _ (fun _ h => h) ⟨_, h0, rfl⟩ ⟨_, h0, rfl⟩
theorem fst_side {s : Sec} (hok : s.ok) : (s.al, s.sl) ∈ s.sides := by
  have h1 := hok.1
  have h2 := hok.2.1
  unfold okSpan at h1 h2
  exact mem_sides.2 ⟨⟨by simp, by simp; omega⟩, by simp, by simp; omega⟩
theorem cos_rbd {s : Sec} (hok : s.ok) {d : Int} (hd : 1 ≤ d ∧ d ≤ 6000) {q : Int × Int} (hq : q ∈ s.sides) : (-100000000 ≤ cosN d q.1 q.2 ∧ cosN d q.1 q.2 ≤ 100000000) ∧ 1 ≤ cosD d q.1 ∧ cosD d q.1 ≤ 100000000 := by
  have h := cos_fbd hok (d := d) (by omega) hq
  have hm := mem_sides.1 hq
  have h1 := hok.1
  unfold okSpan at h1
  have h2 : 1 * 1 ≤ d * q.1 := Int.mul_le_mul hd.1 (by omega) (by omega) (by omega)
  unfold fbd at h
  have h3 : cosD d q.1 = 2 * (d * q.1) := by unfold cosD; rw [Int.mul_assoc]
  omega
theorem cosF_bd {s : Sec} (hok : s.ok) {d : Int} (hd : 1 ≤ d ∧ d ≤ 6000) : ((-100000000 ≤ (cosF s d).1.1 ∧ (cosF s d).1.1 ≤ 100000000) ∧ 1 ≤ (cosF s d).1.2 ∧ (cosF s d).1.2 ≤ 100000000) ∧ (-100000000 ≤ (cosF s d).2.1 ∧ (cosF s d).2.1 ≤ 100000000) ∧ 1 ≤ (cosF s d).2.2 ∧ (cosF s d).2.2 ≤ 100000000 := by
  obtain ⟨⟨q, hq, e⟩, ⟨q', hq', e'⟩⟩ := cosF_mem s d (fst_side hok)
  rw [e, e']
  exact ⟨cos_rbd hok hd hq, cos_rbd hok hd hq'⟩
def fz : AV := .agg [.int .i64 0, .int .i64 0]
def fr (q : Int × Int) : AV := .agg [.int .i64 (redN q.1 q.2), .int .i64 (redD q.1 q.2)]
theorem k18 (f : Frm) (i : Nat) (r : Int) (h : f.pos i r = 0) : FnA Tryz.prog 59 [.agg f.cells, .int .i64 i, .int .i64 r] (· = if f.dist i r = 0 then .tup [fz, fz, .int .i64 3] else .tup [fr (cosF (f.ss.getD i default) (f.dist i r)).1, fr (cosF (f.ss.getD i default) (f.dist i r)).2, .int .i64 0]) := by
  obtain ⟨hok, hi, h1, h2, h3, h4⟩ := pos_ok h
  have hi' : i < f.ss.length := by omega
  have hL : (f.ss.map Sec.av).length = f.ss.length := by simp
  have hs := sec_ok hok hi'
  have hd := Frm.dist_bd hok i (show 0 ≤ r by omega) h4
  have hsec : f.ss.getD i default = f.ss[i] := by simp [List.getD_eq_getElem?_getD, hi']
  rw [hsec]
  refine fnA 3 ok59 (by simp) ?_
  (conv => whnf); (repeat' (first | (refine bT ?_; conv => whnf) | (refine bF ?_; conv => whnf) | (refine bN ?_) | (refine bD (fun hh => ?_) (fun hh => ?_) <;> (conv => whnf)) | (refine bEq (fun hh => ?_) (fun hh => ?_) <;> (conv => whnf)) | (refine bNe (fun hh => ?_) (fun hh => ?_) <;> (conv => whnf)) | (refine (k52 f _ _).callq rfl rfl (fun r (hr : r = _) => ?_); subst hr; conv => whnf) | (refine (k53 f i r hok hi' (by omega) h4).callq rfl rfl (fun r (hr : r = _) => ?_); subst hr; conv => whnf) | (refine wIn (by omega) ?_; conv => whnf) | (refine nI (by omega) ?_; conv => whnf)))
  all_goals (first | exact absurd h (by assumption) | skip)
  · rw [if_pos (by assumption)]; rfl
  · have hne : f.dist i r ≠ 0 := by assumption
    have hb := cosF_bd hs (d := f.dist i r) (by omega)
    refine iaI (by omega) (by omega) (getD_map Sec.av f.ss i hi') ?_
    (conv => whnf); (repeat' (first | (refine bT ?_; conv => whnf) | (refine bF ?_; conv => whnf) | (refine bN ?_) | (refine bD (fun hh => ?_) (fun hh => ?_) <;> (conv => whnf)) | (refine bEq (fun hh => ?_) (fun hh => ?_) <;> (conv => whnf)) | (refine bNe (fun hh => ?_) (fun hh => ?_) <;> (conv => whnf)) | (refine (k57 f.ss[i] _ hs hd).callq rfl rfl (fun r (hr : r = _) => ?_); subst hr; conv => whnf) | (refine (k58 _ _ hb.1.1 hb.1.2).callq rfl rfl (fun r (hr : r = _) => ?_); subst hr; conv => whnf) | (refine (k58 _ _ hb.2.1 hb.2.2).callq rfl rfl (fun r (hr : r = _) => ?_); subst hr; conv => whnf) | (refine wIn (by omega) ?_; conv => whnf) | (refine nI (by omega) ?_; conv => whnf)))
    all_goals (rw [if_neg hne]; rfl)

/-! The specification's own functions. -/
theorem k50 (n lo hi : Int) : FnA Tryz.prog 57 [.int .i64 n, .int .i64 lo, .int .i64 hi] (· = .bool (decide (lo ≤ n ∧ n ≤ hi))) := by
  refine fnA 2 ok57 (by simp) ?_
  (conv => whnf); (repeat' (first | (refine bT ?_; conv => whnf) | (refine bF ?_; conv => whnf) | (refine bN ?_) | (refine bD (fun hh => ?_) (fun hh => ?_) <;> first | (exfalso; omega) | (conv => whnf)) | (refine bEq (fun hh => ?_) (fun hh => ?_) <;> first | (exfalso; omega) | (conv => whnf)) | (refine bNe (fun hh => ?_) (fun hh => ?_) <;> first | (exfalso; omega) | (conv => whnf)) | (refine wIn (by omega) ?_; conv => whnf) | (refine nI (by omega) ?_; conv => whnf)))
  all_goals first | rfl | exact congrArg AV.bool (decide_eq_decide.2 (by omega)) | exact congrArg AV.bool (decide_eq_true (by omega)).symm | exact congrArg AV.bool (decide_eq_false (by omega)).symm
theorem k49 (a b : Int) : FnA Tryz.prog 56 [.agg [.int .i64 a, .int .i64 b]] (· = .bool (decide (okSpan a b 6))) := by
  refine fnA 2 ok56 (by simp) ?_
  unfold okSpan
  (conv => whnf); (repeat' (first | (refine bT ?_; conv => whnf) | (refine bF ?_; conv => whnf) | (refine bN ?_) | (refine bD (fun hh => ?_) (fun hh => ?_) <;> first | (exfalso; omega) | (conv => whnf)) | (refine bEq (fun hh => ?_) (fun hh => ?_) <;> first | (exfalso; omega) | (conv => whnf)) | (refine bNe (fun hh => ?_) (fun hh => ?_) <;> first | (exfalso; omega) | (conv => whnf)) | (refine (k50 _ _ _).callq rfl rfl (fun r (hr : r = _) => ?_); subst hr; conv => whnf) | (refine wIn (by omega) ?_; conv => whnf) | (refine nI (by omega) ?_; conv => whnf)))
  all_goals first | rfl | exact congrArg AV.bool (decide_eq_decide.2 (by omega)) | exact congrArg AV.bool (decide_eq_true (by omega)).symm | exact congrArg AV.bool (decide_eq_false (by omega)).symm
theorem k51 (a b : Int) : FnA Tryz.prog 58 [.agg [.int .i64 a, .int .i64 b]] (· = .bool (decide (okPart a b))) := by
  refine fnA 2 ok58 (by simp) ?_
  unfold okPart
  (conv => whnf); (repeat' (first | (refine bT ?_; conv => whnf) | (refine bF ?_; conv => whnf) | (refine bN ?_) | (refine bD (fun hh => ?_) (fun hh => ?_) <;> first | (exfalso; omega) | (conv => whnf)) | (refine bEq (fun hh => ?_) (fun hh => ?_) <;> first | (exfalso; omega) | (conv => whnf)) | (refine bNe (fun hh => ?_) (fun hh => ?_) <;> first | (exfalso; omega) | (conv => whnf)) | (refine (k50 _ _ _).callq rfl rfl (fun r (hr : r = _) => ?_); subst hr; conv => whnf) | (refine wIn (by omega) ?_; conv => whnf) | (refine nI (by omega) ?_; conv => whnf)))
  all_goals first | rfl | exact congrArg AV.bool (decide_eq_decide.2 (by omega)) | exact congrArg AV.bool (decide_eq_true (by omega)).symm | exact congrArg AV.bool (decide_eq_false (by omega)).symm
theorem k15 (f : Frm) (hn : f.ss.length ≤ 1000000000000) : FnA Tryz.prog 29 [.agg f.cells] (· = .int .i64 (if f.ok then 0 else 10)) := by
  have hL : (f.ss.map Sec.av).length = f.ss.length := by simp
  refine fnA 2 ok29 (by simp) ?_
  (conv => whnf); (repeat' (first | (refine bT ?_; conv => whnf) | (refine bF ?_; conv => whnf) | (refine bN ?_) | (refine bD (fun hh => ?_) (fun hh => ?_) <;> (conv => whnf)) | (refine bEq (fun hh => ?_) (fun hh => ?_) <;> (conv => whnf)) | (refine bNe (fun hh => ?_) (fun hh => ?_) <;> (conv => whnf)) | (refine wIn (by omega) ?_; conv => whnf) | (refine nI (by omega) ?_; conv => whnf)))
  refine loop_i (α := Nat) (fun k => [(3, .int .i64 k), (1, .own 0 0)]) (fun k => [.box false f.cells, .fresh]) (fun k => k ≤ f.ss.length ∧ ∀ s ∈ f.ss.take k, s.ok) (fun k => f.ss.length - k) 0 (meets_id (by (repeat' apply And.intro) <;> first | rfl | exact True.intro | (intro hh; cases hh))) ⟨by omega, by simp⟩ ?_
  rintro k ⟨h1, h2⟩
  conv => whnf
  refine bD (fun h3 => ?_) (fun h3 => ?_)
  · conv => whnf
    have hk : k < f.ss.length := by omega
    refine iaI (by omega) (by omega) (getD_map Sec.av f.ss k hk) ?_
    generalize hsk : f.ss[k] = s
    have hms : s ∈ f.ss := hsk ▸ List.getElem_mem hk
    by_cases hs : s.ok
    · obtain ⟨s1, s2, s3, s4⟩ := hs
      (conv => whnf); (repeat' (first | (refine bT ?_; conv => whnf) | (refine bF ?_; conv => whnf) | (refine bN ?_) | (refine bD (fun hh => ?_) (fun hh => ?_) <;> (conv => whnf)) | (refine bEq (fun hh => ?_) (fun hh => ?_) <;> (conv => whnf)) | (refine bNe (fun hh => ?_) (fun hh => ?_) <;> (conv => whnf)) | (refine (k49 _ _).callq rfl rfl (fun r (hr : r = _) => ?_); subst hr; conv => whnf) | (refine (k51 _ _).callq rfl rfl (fun r (hr : r = _) => ?_); subst hr; conv => whnf) | (refine (k50 _ _ _).callq rfl rfl (fun r (hr : r = _) => ?_); subst hr; conv => whnf) | (refine wIn (by omega) ?_; conv => whnf) | (refine nI (by omega) ?_; conv => whnf)))
      all_goals first
        | exact absurd s1 (by assumption)
        | exact absurd s2 (by assumption)
        | exact absurd s3 (by assumption)
        | exact absurd s4 (by assumption)
        | skip
      refine ⟨k + 1, (meets_id (by (repeat' apply And.intro) <;> first | rfl | exact True.intro | (intro hh; cases hh))), ⟨by omega, all_take hk h2 ?_⟩, by omega⟩
      rw [hsk]; exact ⟨s1, s2, s3, s4⟩
    · have hno : ¬ f.ok := fun h => hs (h.2.2.1 s hms)
      rw [if_neg hno]
      (conv => whnf); (repeat' (first | (refine bT ?_; conv => whnf) | (refine bF ?_; conv => whnf) | (refine bN ?_) | (refine bD (fun hh => ?_) (fun hh => ?_) <;> (conv => whnf)) | (refine bEq (fun hh => ?_) (fun hh => ?_) <;> (conv => whnf)) | (refine bNe (fun hh => ?_) (fun hh => ?_) <;> (conv => whnf)) | (refine (k49 _ _).callq rfl rfl (fun r (hr : r = _) => ?_); subst hr; conv => whnf) | (refine (k51 _ _).callq rfl rfl (fun r (hr : r = _) => ?_); subst hr; conv => whnf) | (refine (k50 _ _ _).callq rfl rfl (fun r (hr : r = _) => ?_); subst hr; conv => whnf) | (refine wIn (by omega) ?_; conv => whnf) | (refine nI (by omega) ?_; conv => whnf)))
      all_goals first
        | rfl
        | (exfalso; refine hs ⟨?_, ?_, ?_, ?_⟩ <;> assumption)
  · have e : k = f.ss.length := by omega
    subst e
    rw [List.take_length] at h2
    have hiff : f.ok ↔ (1 ≤ (f.ss.length : Int) ∧ (f.ss.length : Int) ≤ 3) ∧ okSpan f.lo f.hi 200 ∧ okPart f.en f.ed ∧ (0 ≤ f.rod ∧ f.rod ≤ 4000) ∧ (0 ≤ f.cs ∧ f.cs ≤ 4000) := ⟨fun h => ⟨⟨by have := h.1; omega, by have := h.2.1; omega⟩, h.2.2.2⟩, fun h => ⟨by omega, by omega, h2, h.2⟩⟩
    clear h3 h1 h2
    simp only [hiff, okSpan]
    rw [← hL]
    (conv => whnf); (repeat' (first | (refine bT ?_; conv => whnf) | (refine bF ?_; conv => whnf) | (refine bN ?_) | (refine bD (fun hh => ?_) (fun hh => ?_) <;> first | (exfalso; omega) | (conv => whnf)) | (refine bEq (fun hh => ?_) (fun hh => ?_) <;> first | (exfalso; omega) | (conv => whnf)) | (refine bNe (fun hh => ?_) (fun hh => ?_) <;> first | (exfalso; omega) | (conv => whnf)) | (refine (k51 _ _).callq rfl rfl (fun r (hr : r = _) => ?_); subst hr; conv => whnf) | (refine (k50 _ _ _).callq rfl rfl (fun r (hr : r = _) => ?_); subst hr; conv => whnf) | (refine wIn (by omega) ?_; conv => whnf) | (refine nI (by omega) ?_; conv => whnf)))
    all_goals first
      | (rw [if_pos ⟨by assumption, by omega, by assumption, by assumption, by assumption⟩])
      | (rw [if_neg fun h => ?_]; first | exact absurd h.2.2.1 (by assumption) | omega)

/-- the cosine falls between two distances -/
def falls (n r a t : Int) : Bool := decide (0 < n) && (decide (0 < r) && decide (cosN r a t * cosD n a < cosN n a t * cosD r a))
def Frm.np (f : Frm) : Nat := (f.hi + 1 - f.lo).toNat
def Frm.poss (f : Frm) : List Int := (List.range f.np).map fun k => f.hi - (k : Nat)
def rAV (r : Int) : List AV := [.int .i64 r]
theorem poss_len (f : Frm) : (f.poss.map rAV).length = f.np := by simp [Frm.poss]
theorem poss_get (f : Frm) (k : Nat) (h : k < f.np) : (f.poss.map rAV)[k]? = some [.int .i64 (f.hi - k)] := by
  simp [Frm.poss, h, rAV]
theorem mem_poss {f : Frm} {r : Int} : r ∈ f.poss ↔ f.lo ≤ r ∧ r ≤ f.hi := by
  simp only [Frm.poss, List.mem_map, List.mem_range, Frm.np]
  constructor
  · rintro ⟨k, hk, rfl⟩; omega
  · intro h; exact ⟨(f.hi - r).toNat, by omega, by omega⟩
theorem poss_k {f : Frm} {k : Nat} {r : Int} (h : f.poss[k]? = some r) : f.lo ≤ r ∧ r ≤ f.hi ∧ r = f.hi - k := by
  have h1 := mem_poss.1 (List.mem_of_getElem? h)
  have h2 : k < f.np := by
    have := (List.getElem?_eq_some_iff.1 h).1
    simpa [Frm.poss] using this
  simp [Frm.poss, h2] at h
  exact ⟨h1.1, h1.2, h.symm⟩

def Frm.bindsF (f : Frm) (i : Nat) (a t r : Int) : Bool := bind (f.dist i r) a t f.en f.ed
def Frm.smw (f : Frm) (i : Nat) (a t : Int) : Bool := f.poss.any (fun r => f.bindsF i a t r)
def Frm.turnF (f : Frm) (i : Nat) (a t r : Int) : Bool := decide (f.lo < r) && falls (f.dist i (r - 1)) (f.dist i r) a t
def Frm.turn (f : Frm) (i : Nat) (a t : Int) : Bool := f.poss.any (fun r => f.turnF i a t r)

theorem k18e (f : Frm) (i : Int) (r : Int) (h : f.pos i r ≠ 0) : FnA Tryz.prog 59 [.agg f.cells, .int .i64 i, .int .i64 r] (· = .tup [fz, fz, .int .i64 (f.pos i r)]) := by
  refine fnA 3 ok59 (by simp) ?_
  (conv => whnf); (repeat' (first | (refine bT ?_; conv => whnf) | (refine bF ?_; conv => whnf) | (refine bN ?_) | (refine bD (fun hh => ?_) (fun hh => ?_) <;> first | (exfalso; omega) | (conv => whnf)) | (refine bEq (fun hh => ?_) (fun hh => ?_) <;> first | (exfalso; omega) | (conv => whnf)) | (refine bNe (fun hh => ?_) (fun hh => ?_) <;> first | (exfalso; omega) | (conv => whnf)) | (refine (k52 f _ _).callq rfl rfl (fun r (hr : r = _) => ?_); subst hr; conv => whnf) | (refine wIn (by omega) ?_; conv => whnf) | (refine nI (by omega) ?_; conv => whnf)))
  all_goals rfl
def Frm.sec (f : Frm) (i : Nat) : Sec := f.ss.getD i default
theorem Frm.sec_eq {f : Frm} {i : Nat} (h : i < f.ss.length) : f.sec i = f.ss[i] := by simp [Frm.sec, List.getD_eq_getElem?_getD, h]
theorem Frm.sec_ok {f : Frm} (hok : f.ok) {i : Nat} (h : i < f.ss.length) : (f.sec i).ok := by rw [Frm.sec_eq h]; exact Go.Proofs.sec_ok hok h
theorem Frm.sec_get (f : Frm) {i : Nat} (h : i < f.ss.length) : (f.ss.map Sec.av).getD i [] = (f.sec i).av := by rw [Frm.sec_eq h]; exact getD_map Sec.av f.ss i h
theorem side_bd {s : Sec} (h : s.ok) {x y : Int} (hx : s.al ≤ x ∧ x ≤ s.ah) (hy : s.sl ≤ y ∧ y ≤ s.sh) : (0 ≤ x ∧ x ≤ 2000) ∧ 0 ≤ y ∧ y ≤ 2000 := by
  have h1 := h.1
  have h2 := h.2.1
  unfold okSpan at h1 h2
  omega
def Frm.someK (f : Frm) (i : Nat) : Int := knw (f.sec i) (f.smw i)
def Frm.turnK (f : Frm) (i : Nat) : Int := knw (f.sec i) (f.turn i)

theorem knw_123 (s : Sec) (p : Int → Int → Bool) : knw s p = 1 ∨ knw s p = 2 ∨ knw s p = 3 := by
  unfold knw; split
  · simp
  · split <;> simp
theorem range_all (k : Nat) (p : Nat → Bool) : (List.range (k + 1)).all p = ((List.range k).all p && p k) := by
  rw [List.range_succ, List.all_append]; simp
def Frm.opens (f : Frm) : Int := if (List.range f.ss.length).all (fun i => decide (f.someK i = 2)) then 1 else if (List.range f.ss.length).all (fun i => decide (f.someK i ≠ 1)) then 3 else 2
def mxl (l : List Sec) (a : Int) : Int := l.foldl (fun m s => max m s.al) a
def mxh (l : List Sec) (a : Int) : Int := l.foldl (fun m s => max m s.ah) a
def Frm.closes (f : Frm) : Int := if f.rod + mxh f.ss 0 ≤ f.cs then 1 else if f.rod + mxl f.ss 0 ≤ f.cs then 3 else 2
theorem mx_bd {l : List Sec} (h : ∀ s ∈ l, s.ok) : ∀ {a b : Int}, (0 ≤ a ∧ a ≤ 2000) → (0 ≤ b ∧ b ≤ 2000) → (0 ≤ mxl l a ∧ mxl l a ≤ 2000) ∧ 0 ≤ mxh l b ∧ mxh l b ≤ 2000 := by
  induction l with
  | nil => intro a b h0 h1; simp [mxl, mxh]; omega
  | cons s l ih =>
    intro a b h0 h1
    have h2 := (h s (by simp)).1
    unfold okSpan at h2
    exact ih (fun s hs => h s (by simp [hs])) (a := max a s.al) (b := max b s.ah) (by omega) (by omega)

def natAV (i : Nat) : List AV := [.int .i64 i]
def Frm.blame (f : Frm) : List Nat := (List.range f.ss.length).filter (fun i => decide (f.someK i = 1))
theorem range_filter (k : Nat) (p : Nat → Bool) : (List.range (k + 1)).filter p = if p k then (List.range k).filter p ++ [k] else (List.range k).filter p := by
  rw [List.range_succ, List.filter_append]; simp only [List.filter_cons, List.filter_nil]; split <;> simp
def Frm.firstS (f : Frm) (r : Int) : Option Nat := (List.range f.ss.length).find? (fun i => decide (f.bnd i r ≠ 2))
def Frm.first (f : Frm) : Option (Nat × Int) := f.poss.findSome? (fun r => (f.firstS r).map (fun i => (i, r)))
def Frm.firstAV (f : Frm) : AV := match f.first with
  | some (i, r) => .tup [.int .i64 i, .int .i64 r, .int .i64 0]
  | none => .tup [.int .i64 0, .int .i64 0, .int .i64 3]
theorem find_some {n : Nat} {p : Nat → Bool} {k : Nat} (hk : k < n) (h1 : ∀ i < k, p i = false) (h2 : p k = true) : (List.range n).find? p = some k := by
  rw [List.find?_range_eq_some]
  exact ⟨h2, List.mem_range.2 hk, fun j hj => by simp [h1 j hj]⟩
theorem find_none {n : Nat} {p : Nat → Bool} (h1 : ∀ i < n, p i = false) : (List.range n).find? p = none := by
  rw [List.find?_eq_none]
  intro i hi; simp [h1 i (List.mem_range.1 hi)]
theorem findSome_at {α β : Type} {g : α → Option β} : ∀ {l : List α} {k : Nat} {a : α} {b : β}, l[k]? = some a → (∀ x ∈ l.take k, g x = none) → g a = some b → l.findSome? g = some b
  | x :: l, 0, a, b, h, _, hb => by simp at h; subst h; simp [hb]
  | x :: l, k + 1, a, b, h, h1, hb => by
    simp only [List.take_succ_cons, List.mem_cons, forall_eq_or_imp] at h1
    simp only [List.findSome?_cons, h1.1]
    exact findSome_at (by simpa using h) h1.2 hb

def Frm.far (f : Frm) : Bool := decide (40 < f.ss.length) || (decide f.ok && decide (60 ≤ f.hi - f.lo))
def Frm.rdy (f : Frm) : Bool := !f.far && decide f.ok
theorem rdy_ok {f : Frm} (h : f.rdy = true) : f.ok ∧ f.far = false := by
  unfold Frm.rdy at h; simpa [and_comm] using h
def Frm.ask (f : Frm) (i r : Int) : Bool := decide ((0 ≤ i ∧ i < f.ss.length) ∧ f.lo ≤ r ∧ r ≤ f.hi)
theorem k13 (f : Frm) (hn : f.ss.length ≤ 1000) : FnA Tryz.prog 27 [.agg f.cells] (· = .agg f.cells) := by
  have hL : (f.ss.map Sec.av).length = f.ss.length := by simp
  refine fnA 5 ok27 (by simp) ?_
  (conv => whnf); (repeat' (first | (refine bT ?_; conv => whnf) | (refine bF ?_; conv => whnf) | (refine bN ?_) | (refine bD (fun hh => ?_) (fun hh => ?_) <;> first | (exfalso; omega) | (conv => whnf)) | (refine bEq (fun hh => ?_) (fun hh => ?_) <;> first | (exfalso; omega) | (conv => whnf)) | (refine bNe (fun hh => ?_) (fun hh => ?_) <;> first | (exfalso; omega) | (conv => whnf)) | (refine wIn (by omega) ?_; conv => whnf) | (refine nI (by omega) ?_; conv => whnf)))
  refine apI (fun e he => ?_) (by simp; omega) ?_
  · obtain ⟨s, _, rfl⟩ := List.mem_map.1 he; exact ⟨rfl, rfl⟩
  (conv => whnf); (repeat' (first | (refine bT ?_; conv => whnf) | (refine bF ?_; conv => whnf) | (refine bN ?_) | (refine bD (fun hh => ?_) (fun hh => ?_) <;> first | (exfalso; omega) | (conv => whnf)) | (refine bEq (fun hh => ?_) (fun hh => ?_) <;> first | (exfalso; omega) | (conv => whnf)) | (refine bNe (fun hh => ?_) (fun hh => ?_) <;> first | (exfalso; omega) | (conv => whnf)) | (refine wIn (by omega) ?_; conv => whnf) | (refine nI (by omega) ?_; conv => whnf)))
  all_goals rfl

theorem sides_ne {s : Sec} (hok : s.ok) : ∃ q, q ∈ s.sides := ⟨_, fst_side hok⟩
theorem knw1 {s : Sec} (p : Int → Int → Bool) : knw s p = 1 ↔ ∀ q ∈ s.sides, p q.1 q.2 = true := by
  unfold knw
  constructor
  · intro h
    split at h
    · rename_i h1; exact List.all_eq_true.1 h1
    · split at h <;> omega
  · intro h
    rw [if_pos (List.all_eq_true.2 h)]
theorem knw2 {s : Sec} (hok : s.ok) (p : Int → Int → Bool) : knw s p = 2 ↔ ∀ q ∈ s.sides, p q.1 q.2 = false := by
  obtain ⟨q0, hq0⟩ := sides_ne hok
  unfold knw
  constructor
  · intro h q hq
    split at h
    · omega
    · split at h
      · omega
      · rename_i h1
        simp only [List.any_eq_true, not_exists, not_and] at h1
        simpa using h1 q hq
  · intro h
    rw [if_neg fun h1 => by have := List.all_eq_true.1 h1 q0 hq0; rw [h q0 hq0] at this; cases this]
    rw [if_neg fun h1 => by obtain ⟨q, hq, h2⟩ := List.any_eq_true.1 h1; rw [h q hq] at h2; cases h2]
theorem smw_f {f : Frm} {i : Nat} {a t : Int} : f.smw i a t = false ↔ ∀ r ∈ f.poss, f.bindsF i a t r = false := by
  simp [Frm.smw, List.any_eq_false]
theorem smw_t {f : Frm} {i : Nat} {a t : Int} : f.smw i a t = true ↔ ∃ r ∈ f.poss, f.bindsF i a t r = true := by
  simp [Frm.smw]
theorem bnd1 {f : Frm} (i : Nat) (r : Int) : f.bnd i r = 1 ↔ ∀ q ∈ (f.sec i).sides, f.bindsF i q.1 q.2 r = true := knw1 (s := f.sec i) _
theorem bnd2 {f : Frm} (hok : f.ok) {i : Nat} (hi : i < f.ss.length) (r : Int) : f.bnd i r = 2 ↔ ∀ q ∈ (f.sec i).sides, f.bindsF i q.1 q.2 r = false := knw2 (Frm.sec_ok hok hi) _
theorem someK2 {f : Frm} (hok : f.ok) {i : Nat} (hi : i < f.ss.length) : f.someK i = 2 ↔ ∀ r ∈ f.poss, f.bnd i r = 2 := by
  unfold Frm.someK
  rw [knw2 (Frm.sec_ok hok hi)]
  simp only [bnd2 hok hi, smw_f]
  exact ⟨fun h r hr q hq => h q hq r hr, fun h q hq r hr => h r hr q hq⟩
theorem someK1 {f : Frm} {i : Nat} : f.someK i = 1 ↔ ∀ q ∈ (f.sec i).sides, ∃ r ∈ f.poss, f.bindsF i q.1 q.2 r = true := by
  unfold Frm.someK
  rw [knw1]
  simp only [smw_t]
theorem opens1 {f : Frm} : f.opens = 1 ↔ ∀ i < f.ss.length, f.someK i = 2 := by
  unfold Frm.opens
  constructor
  · intro h
    split at h
    · rename_i h1; simpa using h1
    · split at h <;> omega
  · intro h; rw [if_pos (by simpa using h)]
theorem opens2 {f : Frm} : f.opens = 2 ↔ ∃ i < f.ss.length, f.someK i = 1 := by
  unfold Frm.opens
  constructor
  · intro h
    split at h
    · omega
    · split at h
      · omega
      · rename_i h1; simpa using h1
  · rintro ⟨i, hi, h⟩
    rw [if_neg (by simp; exact ⟨i, hi, by omega⟩), if_neg (by simp; exact ⟨i, hi, h⟩)]
theorem opens_123 (f : Frm) : f.opens = 1 ∨ f.opens = 2 ∨ f.opens = 3 := by
  unfold Frm.opens; split
  · simp
  · split <;> simp
theorem firstS_none {f : Frm} {r : Int} : f.firstS r = none ↔ ∀ i < f.ss.length, f.bnd i r = 2 := by
  unfold Frm.firstS; simp
theorem first_none {f : Frm} : f.first = none ↔ ∀ r ∈ f.poss, ∀ i < f.ss.length, f.bnd i r = 2 := by
  unfold Frm.first
  simp [firstS_none]
theorem first_opens {f : Frm} (hok : f.ok) : f.first = none ↔ f.opens = 1 := by
  rw [first_none, opens1]
  constructor
  · intro h i hi; rw [someK2 hok hi]; exact fun r hr => h r hr i hi
  · intro h r hr i hi; exact (someK2 hok hi).1 (h i hi) r hr
theorem blame_opens {f : Frm} : f.blame ≠ [] ↔ f.opens = 2 := by
  rw [opens2, Frm.blame, Ne, List.filter_eq_nil_iff]
  simp
theorem blame_len (f : Frm) : f.blame.length ≤ f.ss.length := by
  unfold Frm.blame
  refine Nat.le_trans (List.length_filter_le _ _) ?_; simp

/-! the frame of the sections up to one -/
def Frm.upto (f : Frm) (i : Nat) : Frm := { f with ss := f.ss.take (i + 1) }
theorem upto_ok {f : Frm} (hok : f.ok) (i : Nat) : (f.upto i).ok := by
  refine ⟨?_, ?_, fun s hs => hok.2.2.1 s (List.mem_of_mem_take hs), hok.2.2.2⟩
  · have := hok.1; simp [Frm.upto]; omega
  · have := hok.2.1; simp [Frm.upto]; omega
theorem upto_sec {f : Frm} {i : Nat} (hi : i < f.ss.length) : (f.upto i).sec i = f.sec i := by
  simp [Frm.sec, Frm.upto, List.getD_eq_getElem?_getD, List.getElem?_take]
theorem upto_dist {f : Frm} (i : Nat) (r : Int) : (f.upto i).dist i r = f.dist i r := by
  simp [Frm.dist, Frm.upto, List.take_take]
theorem upto_bnd {f : Frm} {i : Nat} (hi : i < f.ss.length) (r : Int) : (f.upto i).bnd i r = f.bnd i r := by
  show knw ((f.upto i).sec i) _ = knw (f.sec i) _
  rw [upto_sec hi]
  simp only [upto_dist]; rfl
theorem upto_turnK {f : Frm} {i : Nat} (hi : i < f.ss.length) : (f.upto i).turnK i = f.turnK i := by
  unfold Frm.turnK
  rw [upto_sec hi]
  have : (f.upto i).turn i = f.turn i := by
    funext a t
    unfold Frm.turn Frm.turnF
    simp only [upto_dist]; rfl
  rw [this]
theorem dist_zero (f : Frm) (r : Int) : f.dist 0 r = r := by
  unfold Frm.dist
  cases f.ss <;> simp
theorem dist_succ {f : Frm} {i : Nat} (hi : i + 1 < f.ss.length) (r : Int) : f.dist (i + 1) r = (f.sec (i + 1)).base + (f.dist i r * (f.sec (i + 1)).num).tdiv (f.sec (i + 1)).den := by
  unfold Frm.dist
  rw [List.take_succ_eq_append_getElem hi, List.drop_append_of_le_length (by simp; omega), List.foldl_append, Frm.sec_eq hi]
  rfl

theorem findSome_ix {α β : Type} {g : α → Option β} : ∀ {l : List α} {b : β}, l.findSome? g = some b → ∃ k a, l[k]? = some a ∧ g a = some b ∧ ∀ x ∈ l.take k, g x = none
  | [], b, h => by simp at h
  | x :: l, b, h => by
    simp only [List.findSome?_cons] at h
    split at h
    · rename_i c hc
      cases h
      exact ⟨0, x, rfl, hc, by simp⟩
    · rename_i hc
      obtain ⟨k, a, h1, h2, h3⟩ := findSome_ix h
      refine ⟨k + 1, a, by simpa using h1, h2, ?_⟩
      simp only [List.take_succ_cons, List.mem_cons, forall_eq_or_imp]
      exact ⟨hc, h3⟩
theorem firstS_some {f : Frm} {r : Int} {i : Nat} (h : f.firstS r = some i) : i < f.ss.length ∧ f.bnd i r ≠ 2 ∧ ∀ j < i, f.bnd j r = 2 := by
  unfold Frm.firstS at h
  rw [List.find?_range_eq_some] at h
  refine ⟨List.mem_range.1 h.2.1, by simpa using h.1, fun j hj => by simpa using h.2.2 j hj⟩
theorem first_some {f : Frm} {r : Int} {i : Nat} (h : f.first = some (i, r)) : (f.lo ≤ r ∧ r ≤ f.hi) ∧ i < f.ss.length ∧ f.bnd i r ≠ 2 ∧ (∀ j < i, f.bnd j r = 2) ∧ ∀ s, r < s → s ≤ f.hi → ∀ j < f.ss.length, f.bnd j s = 2 := by
  unfold Frm.first at h
  obtain ⟨k, a, h1, h2, h3⟩ := findSome_ix h
  obtain ⟨i', h4, h5⟩ := Option.map_eq_some_iff.1 h2
  cases h5
  obtain ⟨p1, p2, p3⟩ := poss_k h1
  obtain ⟨h6, h7, h8⟩ := firstS_some h4
  refine ⟨⟨p1, p2⟩, h6, h7, h8, fun s hs1 hs2 => ?_⟩
  have hk := (List.getElem?_eq_some_iff.1 h1).1
  have hm : (f.hi - s).toNat < k := by omega
  have hg : f.poss[(f.hi - s).toNat]? = some s := by
    have : (f.hi - s).toNat < f.np := by simp [Frm.poss] at hk; omega
    simp [Frm.poss, this]; omega
  have : s ∈ f.poss.take k := by
    refine List.mem_of_getElem? (i := (f.hi - s).toNat) ?_
    rw [List.getElem?_take, if_pos hm, hg]
  have := h3 s this
  rw [Option.map_eq_none_iff, firstS_none] at this
  exact this
theorem first_is {f : Frm} {r : Int} {j : Nat} (hr : f.lo ≤ r ∧ r ≤ f.hi) (hj : j < f.ss.length) (hb : f.bnd j r ≠ 2) : ∃ i s, f.first = some (i, s) ∧ r ≤ s := by
  cases h : f.first with
  | none => exact absurd (first_none.1 h r (mem_poss.2 hr) j hj) hb
  | some x =>
    obtain ⟨i, s⟩ := x
    refine ⟨i, s, rfl, ?_⟩
    obtain ⟨_, _, _, _, h5⟩ := first_some h
    by_cases hrs : r ≤ s
    · exact hrs
    · exact absurd (h5 r (by omega) hr.2 j hj) hb

/-! more ease -/
theorem bind_mono {d a t en ed en' ed' : Int} (hD : 0 ≤ cosD d a) (h1 : 1 ≤ ed) (h2 : 1 ≤ ed') (h3 : en * ed' ≤ en' * ed) (h : bind d a t en ed = true) : bind d a t en' ed' = true := by
  unfold bind at h ⊢
  simp only [Bool.or_eq_true, decide_eq_true_eq, Bool.not_eq_true', decide_eq_false_iff_not, Int.not_lt] at h ⊢
  have hK : (ed' - en') * ed ≤ (ed - en) * ed' := by
    have e1 : (ed' - en') * ed = ed' * ed - en' * ed := Int.sub_mul ..
    have e2 : (ed - en) * ed' = ed' * ed - en * ed' := by rw [Int.sub_mul, Int.mul_comm ed ed']
    omega
  have hK2 : (ed' - en') * ed * cosD d a ≤ (ed - en) * ed' * cosD d a := Int.mul_le_mul_of_nonneg_right hK hD
  rcases h with h | h | h
  · exact .inl h
  · right; left
    have h4 : (ed - en) * cosD d a * ed' ≤ cosN d a t * ed * ed' := Int.mul_le_mul_of_nonneg_right h (by omega)
    have h5 : (ed' - en') * cosD d a * ed ≤ cosN d a t * ed' * ed := by
      have e1 : (ed' - en') * cosD d a * ed = (ed' - en') * ed * cosD d a := Int.mul_right_comm ..
      have e2 : (ed - en) * cosD d a * ed' = (ed - en) * ed' * cosD d a := Int.mul_right_comm ..
      have e3 : cosN d a t * ed * ed' = cosN d a t * ed' * ed := Int.mul_right_comm ..
      omega
    exact Int.le_of_mul_le_mul_right h5 (by omega)
  · right; right
    have h4 : cosN d a t * ed * ed' ≤ (0 - (ed - en)) * cosD d a * ed' := Int.mul_le_mul_of_nonneg_right h (by omega)
    have h5 : cosN d a t * ed' * ed ≤ (0 - (ed' - en')) * cosD d a * ed := by
      have e1 : (0 - (ed' - en')) * cosD d a * ed = - ((ed' - en') * ed * cosD d a) := by rw [Int.zero_sub, Int.neg_mul, Int.neg_mul, Int.mul_right_comm]
      have e2 : (0 - (ed - en)) * cosD d a * ed' = - ((ed - en) * ed' * cosD d a) := by rw [Int.zero_sub, Int.neg_mul, Int.neg_mul, Int.mul_right_comm]
      have e3 : cosN d a t * ed * ed' = cosN d a t * ed' * ed := Int.mul_right_comm ..
      omega
    exact Int.le_of_mul_le_mul_right h5 (by omega)
theorem bind_one {d a t e e' : Int} (h : e = e') : bind d a t e e' = true := by
  subst h
  unfold bind
  simp only [Bool.or_eq_true, decide_eq_true_eq, Bool.not_eq_true', decide_eq_false_iff_not, Int.not_lt]
  simp
  omega
def Frm.eas (f : Frm) (a b : Int) : Frm := { f with en := a, ed := b }
section
variable {f : Frm} {a b : Int} (hok : f.ok) (hok' : (f.eas a b).ok) (hle : f.en * b ≤ a * f.ed)
include hok hok' hle
theorem eas_binds {i : Nat} (hi : i < f.ss.length) {q : Int × Int} (hq : q ∈ (f.sec i).sides) {r : Int} (hr : f.lo ≤ r ∧ r ≤ f.hi) (h : f.bindsF i q.1 q.2 r = true) : (f.eas a b).bindsF i q.1 q.2 r = true := by
  have hm := mem_sides.1 hq
  have hb := side_bd (Frm.sec_ok hok hi) hm.1 hm.2
  have hr2 := hok.2.2.2.1
  unfold okSpan at hr2
  have hd := Frm.dist_bd hok i (show 0 ≤ r by omega) (by omega)
  exact bind_mono (cosD_bd hd hb.1).1 hok.2.2.2.2.1.1 hok'.2.2.2.2.1.1 hle h
theorem eas_bnd1 {i : Nat} (hi : i < f.ss.length) {r : Int} (hr : f.lo ≤ r ∧ r ≤ f.hi) (h : f.bnd i r = 1) : (f.eas a b).bnd i r = 1 := by
  rw [bnd1] at h ⊢
  exact fun q hq => eas_binds hok hok' hle hi hq hr (h q hq)
theorem eas_bnd2 {i : Nat} (hi : i < f.ss.length) {r : Int} (hr : f.lo ≤ r ∧ r ≤ f.hi) (h : (f.eas a b).bnd i r = 2) : f.bnd i r = 2 := by
  rw [bnd2 hok' hi] at h
  rw [bnd2 hok hi]
  intro q hq
  cases hh : f.bindsF i q.1 q.2 r
  · rfl
  · have := h q hq
    rw [eas_binds hok hok' hle hi hq hr hh] at this; cases this
theorem eas_opens2 (h : f.opens = 2) : (f.eas a b).opens = 2 := by
  rw [opens2] at h ⊢
  obtain ⟨i, hi, h⟩ := h
  refine ⟨i, hi, ?_⟩
  rw [someK1] at h ⊢
  intro q hq
  obtain ⟨r, hr, h2⟩ := h q hq
  exact ⟨r, hr, eas_binds hok hok' hle hi hq (mem_poss.1 hr) h2⟩
theorem eas_opens1 (h : (f.eas a b).opens = 1) : f.opens = 1 := by
  rw [← first_opens hok', first_none] at h
  rw [← first_opens hok, first_none]
  exact fun r hr i hi => eas_bnd2 hok hok' hle hi (mem_poss.1 hr) (h r hr i hi)
theorem eas_first {i : Nat} {r : Int} (h : f.first = some (i, r)) : ∃ j s, (f.eas a b).first = some (j, s) ∧ r ≤ s := by
  obtain ⟨h1, h2, h3, _, _⟩ := first_some h
  exact first_is (f := f.eas a b) h1 h2 (fun h4 => h3 (eas_bnd2 hok hok' hle h2 h1 h4))
end
theorem one_bnd {f : Frm} (h : f.en = f.ed) (i : Nat) (r : Int) : f.bnd i r = 1 := by
  rw [bnd1]; intro q _; exact bind_one h
theorem one_opens {f : Frm} (hok : f.ok) (h : f.en = f.ed) : f.opens = 2 := by
  rw [opens2]
  have h1 := hok.1
  have hr2 := hok.2.2.2.1
  unfold okSpan at hr2
  refine ⟨0, by omega, ?_⟩
  rw [someK1]
  exact fun q _ => ⟨f.hi, mem_poss.2 (by omega), bind_one h⟩
theorem one_first {f : Frm} (hok : f.ok) (h : f.en = f.ed) : ∃ i, f.first = some (i, f.hi) := by
  have h1 := hok.1
  have hr2 := hok.2.2.2.1
  unfold okSpan at hr2
  obtain ⟨i, s, h2, h3⟩ := first_is (f := f) (r := f.hi) (j := 0) (by omega) (by omega) (by rw [one_bnd h]; omega)
  obtain ⟨h4, _⟩ := first_some h2
  have : s = f.hi := by omega
  subst this
  exact ⟨i, h2⟩

theorem first_case (f : Frm) : (f.first = none ∧ f.firstAV = .tup [.int .i64 0, .int .i64 0, .int .i64 3]) ∨ ∃ i r, f.first = some (i, r) ∧ f.firstAV = .tup [.int .i64 (i : Nat), .int .i64 r, .int .i64 0] := by
  unfold Frm.firstAV
  cases h : f.first with
  | none => exact .inl ⟨rfl, rfl⟩
  | some x => exact .inr ⟨x.1, x.2, rfl, rfl⟩
theorem bnd_123 (f : Frm) (i : Nat) (r : Int) : f.bnd i r = 1 ∨ f.bnd i r = 2 ∨ f.bnd i r = 3 := knw_123 _ _

theorem gcd_step2 {x y : Int} (h1 : 0 ≤ x) (h2 : 0 ≤ y) : Int.gcd y (x % y) = Int.gcd x y := by
  rw [Int.gcd_comm, gcd_step h2 h1, Int.gcd_comm]
theorem k69 (n d : Int) (hn : -100000000 ≤ n ∧ n ≤ 100000000) (hd : 1 ≤ d ∧ d ≤ 100000000) : FnA Tryz.prog 95 [.int .i64 n, .int .i64 d] (· = .agg [.int .i64 (redN n d), .int .i64 (redD n d)]) := by
  have hg := gcd_bd (n := n) hd.1
  have h1 := tdiv_abs (a := n) hg.1 100000000 (by omega) (by omega)
  have h2 := tdiv_abs (a := d) hg.1 100000000 (by omega) (by omega)
  refine fnA 1 ok95 (by simp) ?_
  (conv => whnf); (repeat' (first | (refine bT ?_; conv => whnf) | (refine bF ?_; conv => whnf) | (refine bN ?_) | (refine bD (fun hh => ?_) (fun hh => ?_) <;> (conv => whnf)) | (refine bEq (fun hh => ?_) (fun hh => ?_) <;> (conv => whnf)) | (refine bNe (fun hh => ?_) (fun hh => ?_) <;> (conv => whnf)) | (refine wIn (by omega) ?_; conv => whnf) | (refine nI (by omega) ?_; conv => whnf)))
  refine loop_i (α := Int × Int) (fun x => [(5, .int .i64 x.1), (6, .int .i64 x.2), (0, .int .i64 n), (1, .int .i64 d), (4, .own 0 0)]) (fun x => [.box false [.int .i64 0, .int .i64 0]]) (fun x => 0 ≤ x.1 ∧ 0 ≤ x.2 ∧ Int.gcd x.1 x.2 = Int.gcd n d) (fun x => x.2.toNat) (max n (0 - n), d) (meets_id (by (repeat' apply And.intro) <;> first | rfl | exact True.intro | (intro hh; cases hh))) ⟨by simp only; omega, by simp only; omega, gcd_max n d⟩ ?_
  rintro ⟨x, y⟩ ⟨h3, h4, h5⟩
  simp only at h3 h4 h5
  conv => whnf
  refine bNe (fun h6 => ?_) (fun h6 => ?_)
  · conv => whnf
    refine nI h6 ?_
    conv => whnf
    have e : x.tmod y = x % y := Int.tmod_eq_emod_of_nonneg h3
    have h7 := Int.emod_nonneg x h6
    have h8 := Int.emod_lt_of_pos x (show 0 < y by omega)
    refine ⟨(y, x.tmod y), (meets_id (by (repeat' apply And.intro) <;> first | rfl | exact True.intro | (intro hh; cases hh))), ⟨h4, by simp only [e]; exact h7, ?_⟩, ?_⟩
    · simp only [e]; rw [← h5]; exact gcd_step2 h3 h4
    · simp only [e]; omega
  · conv => whnf
    subst h6
    have e : x = Int.gcd n d := by rw [← h5]; simp; omega
    subst e
    have h1' : -100000000 ≤ n.tdiv (((Int.gcd n d : Nat) : Int), (0 : Int)).fst ∧ n.tdiv (((Int.gcd n d : Nat) : Int), (0 : Int)).fst ≤ 100000000 := h1
    have h2' : -100000000 ≤ d.tdiv (((Int.gcd n d : Nat) : Int), (0 : Int)).fst ∧ d.tdiv (((Int.gcd n d : Nat) : Int), (0 : Int)).fst ≤ 100000000 := h2
    have hg' : 1 ≤ (((Int.gcd n d : Nat) : Int), (0 : Int)).fst := hg.1
    (conv => whnf); (repeat' (first | (refine bT ?_; conv => whnf) | (refine bF ?_; conv => whnf) | (refine bN ?_) | (refine bD (fun hh => ?_) (fun hh => ?_) <;> first | (exfalso; omega) | (conv => whnf)) | (refine bEq (fun hh => ?_) (fun hh => ?_) <;> first | (exfalso; omega) | (conv => whnf)) | (refine bNe (fun hh => ?_) (fun hh => ?_) <;> first | (exfalso; omega) | (conv => whnf)) | (refine wIn (by omega) ?_; conv => whnf) | (refine nI (by omega) ?_; conv => whnf)))
    all_goals rfl
/-- comparing reduced fractions -/
theorem red_eq {n d : Int} (hd : 1 ≤ d) : n = Int.gcd n d * redN n d ∧ d = Int.gcd n d * redD n d ∧ 1 ≤ redD n d := by
  have hg := gcd_bd (n := n) hd
  have e1 : d = Int.gcd n d * redD n d := (Int.mul_tdiv_cancel' (Int.gcd_dvd_right n d)).symm
  refine ⟨(Int.mul_tdiv_cancel' (Int.gcd_dvd_left n d)).symm, e1, ?_⟩
  by_cases h : 1 ≤ redD n d
  · exact h
  · have : (Int.gcd n d : Int) * redD n d ≤ 0 := Int.mul_nonpos_of_nonneg_of_nonpos (by omega) (by omega)
    omega
theorem red_lt {n d L M : Int} (hd : 1 ≤ d) : redN n d * M < L * redD n d ↔ n * M < L * d := by
  obtain ⟨h1, h2, h3⟩ := red_eq (n := n) hd
  have hg := gcd_bd (n := n) hd
  generalize (Int.gcd n d : Int) = g at *
  have e1 : n * M = g * (redN n d * M) := by rw [← Int.mul_assoc, ← h1]
  have e2 : L * d = g * (L * redD n d) := by rw [Int.mul_left_comm, ← h2]
  rw [e1, e2]
  exact (Int.mul_lt_mul_left (show 0 < g by omega)).symm
theorem red_gt {n d L M : Int} (hd : 1 ≤ d) : L * redD n d < redN n d * M ↔ L * d < n * M := by
  obtain ⟨h1, h2, h3⟩ := red_eq (n := n) hd
  have hg := gcd_bd (n := n) hd
  generalize (Int.gcd n d : Int) = g at *
  have e1 : n * M = g * (redN n d * M) := by rw [← Int.mul_assoc, ← h1]
  have e2 : L * d = g * (L * redD n d) := by rw [Int.mul_left_comm, ← h2]
  rw [e1, e2]
  exact (Int.mul_lt_mul_left (show 0 < g by omega)).symm
theorem red_bd {n d : Int} (hn : -100000000 ≤ n ∧ n ≤ 100000000) (hd : 1 ≤ d ∧ d ≤ 100000000) : (-100000000 ≤ redN n d ∧ redN n d ≤ 100000000) ∧ 1 ≤ redD n d ∧ redD n d ≤ 100000000 := by
  have hg := gcd_bd (n := n) hd.1
  have h1 := tdiv_abs (a := n) hg.1 100000000 (by omega) (by omega)
  have h2 := tdiv_abs (a := d) hg.1 100000000 (by omega) (by omega)
  have h3 := (red_eq (n := n) hd.1).2.2
  unfold redN redD at *
  omega
theorem k38z (a t : Int) : FnA Tryz.prog 78 [.int .i64 0, .agg [.int .i64 a, .int .i64 t]] (· = .tup [fz, .bool false]) := by
  refine fnA 2 ok78 (by simp) ?_
  (conv => whnf); (repeat' (first | (refine bT ?_; conv => whnf) | (refine bF ?_; conv => whnf) | (refine bN ?_) | (refine bD (fun hh => ?_) (fun hh => ?_) <;> first | (exfalso; omega) | (conv => whnf)) | (refine bEq (fun hh => ?_) (fun hh => ?_) <;> first | (exfalso; omega) | (conv => whnf)) | (refine bNe (fun hh => ?_) (fun hh => ?_) <;> first | (exfalso; omega) | (conv => whnf)) | (refine wIn (by omega) ?_; conv => whnf) | (refine nI (by omega) ?_; conv => whnf)))
  all_goals rfl
theorem cos_bd2 {d a t : Int} (hd : 1 ≤ d ∧ d ≤ 6000) (ha : 1 ≤ a ∧ a ≤ 2000) (ht : 0 ≤ t ∧ t ≤ 2000) : (-100000000 ≤ cosN d a t ∧ cosN d a t ≤ 100000000) ∧ 1 ≤ cosD d a ∧ cosD d a ≤ 100000000 := by
  have h := cosN_bd (d := d) (a := a) (t := t) (by omega) (by omega) ht
  have h' := cosD_bd (d := d) (a := a) (by omega) (by omega)
  have h2 : 1 * 1 ≤ d * a := Int.mul_le_mul hd.1 ha.1 (by omega) (by omega)
  have h3 : cosD d a = 2 * (d * a) := by unfold cosD; rw [Int.mul_assoc]
  omega
theorem k38 (d a t : Int) (hd : 1 ≤ d ∧ d ≤ 6000) (ha : 1 ≤ a ∧ a ≤ 2000) (ht : 0 ≤ t ∧ t ≤ 2000) : FnA Tryz.prog 78 [.int .i64 d, .agg [.int .i64 a, .int .i64 t]] (· = .tup [fr (cosN d a t, cosD d a), .bool true]) := by
  have h1 := mul_bd (a := d) (b := d) 6000 6000 (by omega) hd.2 (by omega) hd.2
  have h2 := mul_bd (a := a) (b := a) 2000 2000 (by omega) ha.2 (by omega) ha.2
  have h3 := mul_bd (a := t) (b := t) 2000 2000 ht.1 ht.2 ht.1 ht.2
  have h4 := mul_bd (a := 2 * d) 12000 2000 (by omega) (by omega) (show 0 ≤ a by omega) ha.2
  have hb := cos_bd2 hd ha ht
  refine fnA 2 ok78 (by simp) ?_
  (conv => whnf); (repeat' (first | (refine bT ?_; conv => whnf) | (refine bF ?_; conv => whnf) | (refine bN ?_) | (refine bD (fun hh => ?_) (fun hh => ?_) <;> first | (exfalso; omega) | (conv => whnf)) | (refine bEq (fun hh => ?_) (fun hh => ?_) <;> first | (exfalso; omega) | (conv => whnf)) | (refine bNe (fun hh => ?_) (fun hh => ?_) <;> first | (exfalso; omega) | (conv => whnf)) | (refine (k69 (cosN d a t) (cosD d a) hb.1 hb.2).callq rfl rfl (fun r (hr : r = _) => ?_); subst hr; conv => whnf) | (refine wIn (by omega) ?_; conv => whnf) | (refine nI (by omega) ?_; conv => whnf)))
  all_goals rfl

def Sec.rows (s : Sec) (k : Nat) : List (List AV) := ((List.range k).map s.side).map pairAV
theorem rows_succ (s : Sec) (k : Nat) : s.rows (k + 1) = s.rows k ++ [pairAV (s.side k)] := by simp [Sec.rows, List.range_succ]
theorem rows_len (s : Sec) (k : Nat) : (s.rows k).length = k := by simp [Sec.rows]
theorem nab {s : Sec} (hok : s.ok) : (s.na : Int) = s.ah + 1 - s.al ∧ (s.nb : Int) = s.sh + 1 - s.sl ∧ s.na ≤ 7 ∧ s.nb ≤ 7 ∧ 1 ≤ s.na ∧ 1 ≤ s.nb := by
  have h1 := hok.1
  have h2 := hok.2.1
  unfold okSpan at h1 h2
  unfold Sec.na Sec.nb; omega

def cnt (s : Sec) (P : Int → Int → Bool) (k : Nat) : Int := (((s.sides.take k).countP (fun q => P q.1 q.2) : Nat) : Int)
theorem cnt_zero (s : Sec) (P : Int → Int → Bool) : cnt s P 0 = 0 := by simp [cnt]
theorem cnt_succ {s : Sec} {P : Int → Int → Bool} {k : Nat} {q : Int × Int} (h : s.sides[k]? = some q) : cnt s P (k + 1) = if P q.1 q.2 then cnt s P k + 1 else cnt s P k := by
  obtain ⟨h1, rfl⟩ := List.getElem?_eq_some_iff.1 h
  unfold cnt
  rw [List.take_succ_eq_append_getElem h1, List.countP_append]
  simp only [List.countP_cons, List.countP_nil]
  split <;> simp
theorem cnt_bd (s : Sec) (P : Int → Int → Bool) (k : Nat) : 0 ≤ cnt s P k ∧ cnt s P k ≤ k := by
  unfold cnt
  have := List.countP_le_length (p := fun q : Int × Int => P q.1 q.2) (l := s.sides.take k)
  simp at this ⊢; omega
def Sec.n (s : Sec) : Nat := s.na * s.nb
theorem sides_n (s : Sec) : s.sides.length = s.n := by simp [Sec.sides, Sec.n]
theorem sides_rows (s : Sec) : (s.sides.map pairAV).length = s.n := by simp [sides_n]
theorem n_bd {s : Sec} (h : s.ok) : 1 ≤ s.n ∧ s.n ≤ 49 := by
  obtain ⟨_, _, h1, h2, h3, h4⟩ := nab h
  have h5 : 1 * 1 ≤ s.na * s.nb := Nat.mul_le_mul h3 h4
  have h6 : s.na * s.nb ≤ 7 * 7 := Nat.mul_le_mul h1 h2
  unfold Sec.n; omega
theorem cnt_knw {s : Sec} (h : s.ok) (P : Int → Int → Bool) : (if cnt s P s.n = (s.n : Int) then (1 : Int) else if cnt s P s.n = 0 then 2 else 3) = knw s P := by
  have hn := n_bd h
  have e : s.sides.take s.n = s.sides := List.take_of_length_le (by rw [sides_n]; omega)
  have hc : cnt s P s.n = ((s.sides.countP (fun q => P q.1 q.2) : Nat) : Int) := by unfold cnt; rw [e]
  rw [hc, ← sides_n]
  by_cases h1 : ∀ q ∈ s.sides, P q.1 q.2 = true
  · rw [(knw1 P).2 h1, if_pos]
    exact congrArg Nat.cast (List.countP_eq_length.2 h1)
  · have h2 : ¬ s.sides.countP (fun q => P q.1 q.2) = s.sides.length := fun h => h1 (List.countP_eq_length.1 h)
    rw [if_neg (by omega)]
    by_cases h3 : ∀ q ∈ s.sides, P q.1 q.2 = false
    · rw [(knw2 h P).2 h3, if_pos]
      exact congrArg Nat.cast (List.countP_eq_zero.2 fun q hq => by simp [h3 q hq])
    · have h4 : ¬ s.sides.countP (fun q => P q.1 q.2) = 0 := fun h => h3 fun q hq => by simpa using (List.countP_eq_zero.1 h) q hq
      rw [if_neg (by omega)]
      rcases knw_123 s P with h5 | h5 | h5
      · exact absurd ((knw1 P).1 h5) h1
      · exact absurd ((knw2 h P).1 h5) h3
      · exact h5.symm
theorem side_get (s : Sec) {k : Nat} (h : k < s.n) : ∃ q, s.sides[k]? = some q ∧ (s.sides.map pairAV).getD k [] = pairAV q := by
  have h' : k < s.sides.length := by rw [sides_n]; exact h
  exact ⟨s.sides[k], List.getElem?_eq_getElem h', getD_map pairAV s.sides k h'⟩
theorem side_b {s : Sec} (hok : s.ok) {q : Int × Int} (hq : q ∈ s.sides) : (1 ≤ q.1 ∧ q.1 ≤ 2000) ∧ 0 ≤ q.2 ∧ q.2 ≤ 2000 := by
  have hm := mem_sides.1 hq
  have h1 := hok.1
  have h2 := hok.2.1
  unfold okSpan at h1 h2
  omega

theorem turn_f {f : Frm} {i : Nat} {a t : Int} : f.turn i a t = false ↔ ∀ r, f.lo < r → r ≤ f.hi → falls (f.dist i (r - 1)) (f.dist i r) a t = false := by
  unfold Frm.turn
  simp only [List.any_eq_false, Frm.turnF, mem_poss, Bool.and_eq_true, decide_eq_true_eq, not_and, Bool.not_eq_true]
  exact ⟨fun h r h1 h2 => h r ⟨by omega, h2⟩ h1, fun h r h1 h2 => h r h2 h1.2⟩
theorem turn_t {f : Frm} {i : Nat} {a t r : Int} (h1 : f.lo < r) (h2 : r ≤ f.hi) (h : falls (f.dist i (r - 1)) (f.dist i r) a t = true) : f.turn i a t = true := by
  unfold Frm.turn
  exact List.any_eq_true.2 ⟨r, mem_poss.2 ⟨by omega, h2⟩, by simp [Frm.turnF, h1, h]⟩
theorem falls_red {n r a t : Int} (hn : 1 ≤ n ∧ n ≤ 6000) (hr : 1 ≤ r ∧ r ≤ 6000) (ha : 1 ≤ a ∧ a ≤ 2000) (ht : 0 ≤ t ∧ t ≤ 2000) :
    falls n r a t = decide (redN (cosN r a t) (cosD r a) * redD (cosN n a t) (cosD n a) < redN (cosN n a t) (cosD n a) * redD (cosN r a t) (cosD r a)) := by
  have b1 := cos_bd2 hn ha ht
  have b2 := cos_bd2 hr ha ht
  unfold falls
  rw [decide_eq_true (show 0 < n by omega), decide_eq_true (show 0 < r by omega), Bool.true_and, Bool.true_and]
  refine decide_eq_decide.2 ?_
  rw [red_lt b2.2.1, red_gt b1.2.1]
theorem falls_z1 {n r a t : Int} (h : n = 0 ∨ r = 0) (hn : 0 ≤ n) (hr : 0 ≤ r) : falls n r a t = false := by
  unfold falls
  rcases h with h | h <;> subst h <;> simp

theorem pos_no {f : Frm} {i r : Int} (h : ¬ f.ok) : f.pos i r = 10 := by unfold Frm.pos; rw [if_neg h]
theorem pos_one {f : Frm} {i r : Int} (h : f.ok) (h2 : ¬((0 ≤ i ∧ i < f.ss.length) ∧ f.lo ≤ r ∧ r ≤ f.hi)) : f.pos i r = 1 := by unfold Frm.pos; rw [if_pos h, if_neg h2]

theorem cnt0 {s : Sec} (h : s.ok) (P : Int → Int → Bool) : cnt s P s.n = 0 ↔ knw s P = 2 := by
  have := cnt_knw h P
  have hn := n_bd h
  rw [← this]
  constructor
  · intro h1; rw [if_neg (by omega), if_pos h1]
  · intro h1; split at h1
    · omega
    · split at h1 <;> omega
def Frm.freeK (f : Frm) (i : Nat) : Int := knw (f.sec i) (fun a t => !f.smw i a t)
theorem freeK2 {f : Frm} (hok : f.ok) {i : Nat} (hi : i < f.ss.length) : f.freeK i = 2 ↔ f.someK i = 1 := by
  unfold Frm.freeK Frm.someK
  rw [knw2 (Frm.sec_ok hok hi), knw1]; simp
theorem freeK1 {f : Frm} (hok : f.ok) {i : Nat} (hi : i < f.ss.length) : f.freeK i = 1 ↔ f.someK i = 2 := by
  unfold Frm.freeK Frm.someK
  rw [knw2 (Frm.sec_ok hok hi), knw1]; simp
theorem freeK_123 (f : Frm) (i : Nat) : f.freeK i = 1 ∨ f.freeK i = 2 ∨ f.freeK i = 3 := knw_123 _ _
theorem k15t {f : Frm} (hok : f.ok) : FnA Tryz.prog 29 [.agg f.cells] (· = .int .i64 0) := by
  have := k15 f (by have := hok.2.1; omega); rwa [if_pos hok] at this
theorem k15f {f : Frm} (hn : f.ss.length ≤ 1000) (hok : ¬ f.ok) : FnA Tryz.prog 29 [.agg f.cells] (· = .int .i64 10) := by
  have := k15 f (by omega); rwa [if_neg hok] at this

def cini (s : Sec) (d : Int) : FF := ((cosN d s.al s.sl, cosD d s.al), (cosN d s.al s.sl, cosD d s.al))
def cpart (s : Sec) (d : Int) (k : Nat) : FF := (s.sides.take k).foldl (cstep d) (cini s d)
theorem cpart_succ {s : Sec} {d : Int} {k : Nat} {q : Int × Int} (h : s.sides[k]? = some q) : cpart s d (k + 1) = cstep d (cpart s d k) q := by
  obtain ⟨hk, rfl⟩ := List.getElem?_eq_some_iff.1 h
  unfold cpart
  rw [List.take_succ_eq_append_getElem hk, List.foldl_append]; rfl
theorem side_zero {s : Sec} (hok : s.ok) : s.sides[0]? = some (s.al, s.sl) := by
  have hn := n_bd hok
  have h : 0 < s.na * s.nb := hn.1
  simp [Sec.sides, h, Sec.side]
def bdF (q : Int × Int) : Prop := (-100000000 ≤ q.1 ∧ q.1 ≤ 100000000) ∧ 1 ≤ q.2 ∧ q.2 ≤ 100000000
theorem cpart_bd {s : Sec} (hok : s.ok) {d : Int} (hd : 1 ≤ d ∧ d ≤ 6000) : ∀ k, bdF (cpart s d k).1 ∧ bdF (cpart s d k).2
  | 0 => by
    have := cos_rbd hok hd (fst_side hok)
    exact ⟨this, this⟩
  | k + 1 => by
    have ih := cpart_bd hok hd k
    cases h : s.sides[k]? with
    | none =>
      have : cpart s d (k + 1) = cpart s d k := by
        have h' : s.sides.length ≤ k := List.getElem?_eq_none_iff.1 h
        unfold cpart; rw [List.take_of_length_le (by omega), List.take_of_length_le h']
      rw [this]; exact ih
    | some q =>
      rw [cpart_succ h]
      have := cos_rbd hok hd (List.mem_of_getElem? h)
      unfold cstep
      constructor
      · simp only; split
        · exact this
        · exact ih.1
      · simp only; split
        · exact this
        · exact ih.2
theorem cpart_all (s : Sec) (d : Int) : cpart s d s.n = cosF s d := by
  unfold cpart; rw [List.take_of_length_le (by rw [sides_n]; omega)]; rfl
theorem cpart_one {s : Sec} (hok : s.ok) (d : Int) : cpart s d 1 = cini s d := by
  rw [cpart_succ (side_zero hok)]
  simp [cpart, cini, cstep]

theorem bKT {A B : Prop} {b : Bool} (hb : b = true) (hA : A) : BrB b A B := bS (fun _ => hA) (fun h => absurd h (by simp [hb]))
theorem bKF {A B : Prop} {b : Bool} (hb : b = false) (hB : B) : BrB b A B := bS (fun h => absurd h (by simp [hb])) (fun _ => hB)
theorem far_len {f : Frm} (h : f.far = false) : f.ss.length ≤ 40 := by unfold Frm.far at h; simp at h; omega

def leF (x y : Int × Int) : Prop := x.1 * y.2 ≤ y.1 * x.2
theorem leF_trans {x y z : Int × Int} (hx : 1 ≤ x.2) (hy : 1 ≤ y.2) (hz : 1 ≤ z.2) (h1 : leF x y) (h2 : leF y z) : leF x z := by
  unfold leF at *
  have e1 : x.1 * y.2 * z.2 ≤ y.1 * x.2 * z.2 := Int.mul_le_mul_of_nonneg_right h1 (by omega)
  have e2 : y.1 * z.2 * x.2 ≤ z.1 * y.2 * x.2 := Int.mul_le_mul_of_nonneg_right h2 (by omega)
  have e3 : x.1 * z.2 * y.2 ≤ z.1 * x.2 * y.2 := by
    have a1 : x.1 * z.2 * y.2 = x.1 * y.2 * z.2 := Int.mul_right_comm ..
    have a2 : y.1 * x.2 * z.2 = y.1 * z.2 * x.2 := Int.mul_right_comm ..
    have a3 : z.1 * x.2 * y.2 = z.1 * y.2 * x.2 := Int.mul_right_comm ..
    omega
  exact Int.le_of_mul_le_mul_right e3 (by omega)
def cosQ (d : Int) (q : Int × Int) : Int × Int := (cosN d q.1 q.2, cosD d q.1)
theorem cpart_ends {s : Sec} (hok : s.ok) {d : Int} (hd : 1 ≤ d ∧ d ≤ 6000) : ∀ k, ∀ q ∈ s.sides.take k, leF (cpart s d k).1 (cosQ d q) ∧ leF (cosQ d q) (cpart s d k).2
  | 0, q, h => by simp at h
  | k + 1, q, h => by
    have ih := cpart_ends hok hd k
    have hb := cpart_bd hok hd k
    cases hk : s.sides[k]? with
    | none =>
      have h' : s.sides.length ≤ k := List.getElem?_eq_none_iff.1 hk
      have e : cpart s d (k + 1) = cpart s d k := by
        unfold cpart; rw [List.take_of_length_le (by omega), List.take_of_length_le h']
      rw [e]
      rw [List.take_of_length_le (by omega)] at h
      rw [List.take_of_length_le h'] at ih
      exact ih q h
    | some p =>
      have hpm := List.mem_of_getElem? hk
      have hpb : bdF (cosQ d p) := cos_rbd hok hd hpm
      rw [cpart_succ hk]
      obtain ⟨hk1, rfl⟩ := List.getElem?_eq_some_iff.1 hk
      rw [List.take_succ_eq_append_getElem hk1] at h
      generalize hL : cpart s d k = L at *
      generalize hp : s.sides[k] = p at *
      have hs1 : (cstep d L p).1 = if cosN d p.1 p.2 * L.1.2 < L.1.1 * cosD d p.1 then cosQ d p else L.1 := rfl
      have hs2 : (cstep d L p).2 = if L.2.1 * cosD d p.1 < cosN d p.1 p.2 * L.2.2 then cosQ d p else L.2 := rfl
      rw [hs1, hs2]
      rcases List.mem_append.1 h with h | h
      · have h0 := ih q h
        have hqb : bdF (cosQ d q) := cos_rbd hok hd (List.mem_of_mem_take h)
        constructor
        · split
          · rename_i hlt
            exact leF_trans hpb.2.1 hb.1.2.1 hqb.2.1 (show cosN d p.1 p.2 * L.1.2 ≤ L.1.1 * cosD d p.1 by omega) h0.1
          · exact h0.1
        · split
          · rename_i hlt
            exact leF_trans hqb.2.1 hb.2.2.1 hpb.2.1 h0.2 (show L.2.1 * cosD d p.1 ≤ cosN d p.1 p.2 * L.2.2 by omega)
          · exact h0.2
      · simp at h; subst h
        constructor
        · split
          · exact Int.le_refl _
          · rename_i hlt; show L.1.1 * cosD d q.1 ≤ cosN d q.1 q.2 * L.1.2; omega
        · split
          · exact Int.le_refl _
          · rename_i hlt; show cosN d q.1 q.2 * L.2.2 ≤ L.2.1 * cosD d q.1; omega
theorem cosF_ends {s : Sec} (hok : s.ok) {d : Int} (hd : 1 ≤ d ∧ d ≤ 6000) {q : Int × Int} (hq : q ∈ s.sides) : leF (cosF s d).1 (cosQ d q) ∧ leF (cosQ d q) (cosF s d).2 := by
  have := cpart_ends hok hd s.n q (by rw [List.take_of_length_le (by rw [sides_n]; omega)]; exact hq)
  rwa [cpart_all] at this
/-- less, of reduced fractions -/
theorem red_leF {x y : Int × Int} (hx : bdF x) (hy : bdF y) : ¬(redN y.1 y.2 * redD x.1 x.2 < redN x.1 x.2 * redD y.1 y.2) ↔ leF x y := by
  rw [red_lt hy.2.1, red_gt hx.2.1]
  unfold leF; omega
def allFree (f : Frm) (ts : List (Int × Int)) (k : Nat) : Bool := (List.range k).all fun i => !f.smw i (ts.getD i (0, 0)).1 (ts.getD i (0, 0)).2
def longT (ts : List (Int × Int)) (k : Nat) : Int := (ts.take k).foldl (fun m q => max m q.1) 0
theorem longT_succ {ts : List (Int × Int)} {k : Nat} (h : k < ts.length) : longT ts (k + 1) = max (longT ts k) (ts[k]).1 := by
  unfold longT
  rw [List.take_succ_eq_append_getElem h, List.foldl_append]; rfl
theorem mx_long {ts : List (Int × Int)} {ss : List Sec} (hl : ts.length = ss.length) : ∀ k ≤ ts.length, (∀ i (h : i < ts.length) (h' : i < ss.length), i < k → ss[i].al ≤ (ts[i]).1 ∧ (ts[i]).1 ≤ ss[i].ah) → mxl (ss.take k) 0 ≤ longT ts k ∧ longT ts k ≤ mxh (ss.take k) 0
  | 0, _, _ => by simp [mxl, mxh, longT]
  | k + 1, hk, h => by
    have ih := mx_long hl k (by omega) fun i h1 h2 h3 => h i h1 h2 (by omega)
    have hk' : k < ss.length := by omega
    rw [longT_succ (by omega), List.take_succ_eq_append_getElem hk']
    have := h k (by omega) hk' (by omega)
    unfold mxl mxh at *
    rw [List.foldl_append, List.foldl_append]
    simp only [List.foldl_cons, List.foldl_nil]
    omega
theorem allFree_succ (f : Frm) (ts : List (Int × Int)) (k : Nat) : allFree f ts (k + 1) = (allFree f ts k && !f.smw k (ts.getD k (0, 0)).1 (ts.getD k (0, 0)).2) := range_all k _
theorem getD_pair (ts : List (Int × Int)) {k : Nat} (h : k < ts.length) : (ts.map pairAV).getD k [] = pairAV (ts.getD k (0, 0)) := by
  rw [getD_map pairAV ts k h]; simp [List.getD_eq_getElem?_getD, h]
theorem free_opens {f : Frm} (hok : f.ok) {ts : List (Int × Int)} (hT : ∀ i < f.ss.length, ts.getD i (0, 0) ∈ (f.sec i).sides) : (f.opens = 1 → allFree f ts f.ss.length = true) ∧ (f.opens = 2 → allFree f ts f.ss.length = false) := by
  constructor
  · intro h
    unfold allFree
    rw [List.all_eq_true]
    intro i hi
    have hi := List.mem_range.1 hi
    have h1 := opens1.1 h i hi
    have h2 := (knw2 (Frm.sec_ok hok hi) (f.smw i)).1 h1 _ (hT i hi)
    simp only [h2]; rfl
  · intro h
    obtain ⟨i, hi, h1⟩ := opens2.1 h
    have h2 := (knw1 (s := f.sec i) (f.smw i)).1 h1 _ (hT i hi)
    unfold allFree
    rw [List.all_eq_false]
    exact ⟨i, List.mem_range.2 hi, by simp only [h2]; simp⟩
end Go.Proofs
