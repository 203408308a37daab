/- What each function of this program answers, proved by walking its body: the contracts that the law rests on, part 1. -/
import Derived.Test.YtkkpokakjblenaaHCode
set_option linter.unusedSimpArgs false
set_option linter.unusedVariables false
set_option linter.unusedSectionVars false
namespace Go.Proofs
open Go.Eng
attribute [local irreducible] Go.Eng.brB Go.Eng.need Go.Eng.wrE Go.Eng.iaE Go.Eng.slE Go.Eng.apE Go.Eng.CallZ Go.Eng.CallE Go.Eng.VCallE Go.Eng.YldE Go.Eng.GoC Go.Eng.MeetsE Go.Eng.FnA Go.Eng.FnV Go.Eng.ItA
set_option maxRecDepth 100000
structure Strip where
  (long lo hi : Int)
def Strip.av (s : Strip) : List AV := [.int .i64 s.long, .int .i64 s.lo, .int .i64 s.hi]
structure Bolt where
  (lo hi : Int)
  ss : List Strip
  wrong : Int
def Bolt.av (b : Bolt) : List AV := [.int .i64 b.lo, .int .i64 b.hi, .isl (b.ss.map Strip.av), .int .i64 b.wrong]
def pairAV (p : Int × Int) : List AV := [.int .i64 p.1, .int .i64 p.2]
def iAV (r : Int) : List AV := [.int .i64 r]
structure Dome where
  bs : List Bolt
  gs : List Int
  loss : Int
  rs : List (Int × Int)
  ws : List Int
  slope : Int
def Dome.cells (d : Dome) : List AV := [.isl (d.bs.map Bolt.av), .isl (d.gs.map iAV), .int .i64 d.loss, .isl (d.rs.map pairAV), .isl (d.ws.map iAV), .int .i64 d.slope]
def okSpan (a b m : Int) : Prop := 0 ≤ a ∧ a ≤ b ∧ b ≤ m
instance (a b m : Int) : Decidable (okSpan a b m) := by unfold okSpan; infer_instance
def Strip.ok (s : Strip) : Prop := (1 ≤ s.long ∧ s.long ≤ 2000) ∧ okSpan s.lo s.hi 4000
instance (s : Strip) : Decidable s.ok := by unfold Strip.ok; infer_instance
def Bolt.ok (b : Bolt) : Prop := okSpan b.lo b.hi 60 ∧ b.ss.length ≤ 8 ∧ (∀ s ∈ b.ss, s.ok) ∧ 0 ≤ b.wrong ∧ b.wrong ≤ 2
instance (b : Bolt) : Decidable b.ok := by unfold Bolt.ok; infer_instance
/-- valid but for its bolts -/
def Dome.ok1 (d : Dome) : Prop := (1 ≤ d.bs.length ∧ d.bs.length ≤ 4) ∧ (3 ≤ d.gs.length ∧ d.gs.length ≤ 16) ∧ (∀ g ∈ d.gs, 0 ≤ g ∧ g < d.bs.length) ∧ (0 ≤ d.loss ∧ d.loss ≤ 20) ∧ (1 ≤ d.rs.length ∧ d.rs.length ≤ 12) ∧ (∀ s ∈ d.rs, okSpan s.1 s.2 40000) ∧ d.ws.length = d.rs.length ∧ (∀ w ∈ d.ws, 2 * d.loss ≤ w ∧ w ≤ 2000) ∧ 0 ≤ d.slope ∧ d.slope ≤ 500
instance (d : Dome) : Decidable d.ok1 := by unfold Dome.ok1; infer_instance
def Dome.okB (d : Dome) : Prop := ∀ b ∈ d.bs, b.ok
instance (d : Dome) : Decidable d.okB := by unfold Dome.okB; infer_instance
def Dome.ok (d : Dome) : Prop := d.ok1 ∧ d.okB
instance (d : Dome) : Decidable d.ok := by unfold Dome.ok; infer_instance
def Dome.chk (d : Dome) : Int := if d.ok1 then (if d.okB then 0 else 21) else 20
theorem getD_map {α : Type} (f : α → List AV) (l : List α) (i : Nat) (h : i < l.length) : (l.map f).getD i [] = f l[i] := by
  simp [List.getD_eq_getElem?_getD, h]
theorem all_take {α : Type} {p : α → Prop} {l : List α} {i : Nat} (h : i < l.length) (h1 : ∀ s ∈ l.take i, p s) (h2 : p l[i]) : ∀ s ∈ l.take (i + 1), p s := by
  intro s hs
  rw [List.take_succ_eq_append_getElem h] at hs
  rcases List.mem_append.1 hs with hs | hs
  · exact h1 s hs
  · simp at hs; subst hs; exact h2
theorem k77 (n lo hi : Int) : FnA Try.prog 116 [.int .i64 n, .int .i64 lo, .int .i64 hi] (· = .bool (decide (lo ≤ n ∧ n ≤ hi))) := by
  refine fnA 0 ok116 (by simp) ?_
  (conv => whnf); (repeat' ((first | refine bT ?_ | refine bF ?_ | refine bN ?_ | ((first | refine bD ?_ ?_ | refine bEq ?_ ?_ | refine bNe ?_ ?_) <;> intro hh <;> try (exfalso; omega)) | refine wIn (by omega) ?_ | refine nI (by omega) ?_) <;> conv => whnf))
  all_goals first | rfl | exact congrArg AV.bool (decide_eq_decide.2 (by omega)) | exact congrArg AV.bool (decide_eq_true (by omega)).symm | exact congrArg AV.bool (decide_eq_false (by omega)).symm
theorem k54 (n lo hi : Int) : FnA Try.prog 87 [.int .i64 n, .int .i64 lo, .int .i64 hi] (· = .bool (decide (lo ≤ n ∧ n ≤ hi))) := by
  refine fnA 0 ok87 (by simp) ?_
  (conv => whnf); (repeat' ((first | refine bT ?_ | refine bF ?_ | refine bN ?_ | ((first | refine bD ?_ ?_ | refine bEq ?_ ?_ | refine bNe ?_ ?_) <;> intro hh <;> try (exfalso; omega)) | refine wIn (by omega) ?_ | refine nI (by omega) ?_) <;> conv => whnf))
  all_goals first | rfl | exact congrArg AV.bool (decide_eq_decide.2 (by omega)) | exact congrArg AV.bool (decide_eq_true (by omega)).symm | exact congrArg AV.bool (decide_eq_false (by omega)).symm
theorem k82 (a b m : Int) : FnA Try.prog 122 [.agg [.int .i64 a, .int .i64 b], .int .i64 m] (· = .bool (decide (okSpan a b m))) := by
  refine fnA 1 ok122 (by simp) ?_
  unfold okSpan
  (conv => whnf); (repeat' ((first | refine bT ?_ | refine bF ?_ | refine bN ?_ | ((first | refine bD ?_ ?_ | refine bEq ?_ ?_ | refine bNe ?_ ?_) <;> intro hh <;> try (exfalso; omega)) | (refine (k77 _ _ _).callq rfl rfl fun _ h => ?_; subst h) | refine wIn (by omega) ?_ | refine nI (by omega) ?_) <;> conv => whnf))
  all_goals first | rfl | exact congrArg AV.bool (decide_eq_decide.2 (by omega)) | exact congrArg AV.bool (decide_eq_true (by omega)).symm | exact congrArg AV.bool (decide_eq_false (by omega)).symm
theorem k55 (a b m : Int) : FnA Try.prog 97 [.agg [.int .i64 a, .int .i64 b], .int .i64 m] (· = .bool (decide (okSpan a b m))) := by
  refine fnA 1 ok97 (by simp) ?_
  unfold okSpan
  (conv => whnf); (repeat' ((first | refine bT ?_ | refine bF ?_ | refine bN ?_ | ((first | refine bD ?_ ?_ | refine bEq ?_ ?_ | refine bNe ?_ ?_) <;> intro hh <;> try (exfalso; omega)) | refine wIn (by omega) ?_ | refine nI (by omega) ?_) <;> conv => whnf))
  all_goals first | rfl | exact congrArg AV.bool (decide_eq_decide.2 (by omega)) | exact congrArg AV.bool (decide_eq_true (by omega)).symm | exact congrArg AV.bool (decide_eq_false (by omega)).symm
theorem k81 (a b : Int) : FnA Try.prog 121 [.agg [.int .i64 a, .int .i64 b]] (· = .bool (decide (okSpan a b 40000))) := by
  refine fnA 1 ok121 (by simp) ?_
  (conv => whnf); (repeat' ((first | refine bT ?_ | refine bF ?_ | refine bN ?_ | ((first | refine bD ?_ ?_ | refine bEq ?_ ?_ | refine bNe ?_ ?_) <;> intro hh <;> try (exfalso; omega)) | (refine (k82 _ _ _).callq rfl rfl fun _ h => ?_; subst h) | refine wIn (by omega) ?_ | refine nI (by omega) ?_) <;> conv => whnf))
  all_goals rfl
theorem k85 (s : Strip) : FnA Try.prog 125 [.agg s.av] (· = .bool (decide s.ok)) := by
  refine fnA 1 ok125 (by simp) ?_
  unfold Strip.ok
  (conv => whnf); (repeat' ((first | refine bT ?_ | refine bF ?_ | refine bN ?_ | ((first | refine bD ?_ ?_ | refine bEq ?_ ?_ | refine bNe ?_ ?_) <;> intro hh <;> try (exfalso; omega)) | (refine (k77 _ _ _).callq rfl rfl fun _ h => ?_; subst h) | (refine (k82 _ _ _).callq rfl rfl fun _ h => ?_; subst h) | refine wIn (by omega) ?_ | refine nI (by omega) ?_) <;> conv => whnf))
  all_goals simp [*]
theorem each_step {α : Type} {p : α → Bool} {l : List α} {k : Nat} (hk : k < l.length) (h : (l.take k).all p = true) (h2 : p l[k] = true) : (l.take (k + 1)).all p = true := by
  rw [List.take_succ_eq_append_getElem hk, List.all_append, h]; simpa using h2
theorem each_no {α : Type} {p : α → Bool} {l : List α} {k : Nat} (hk : k < l.length) (h2 : p l[k] = false) : l.all p = false := by
  rw [List.all_eq_false]; exact ⟨_, List.getElem_mem hk, by simp [h2]⟩
theorem k84 (l : List Strip) (hl : l.length ≤ 1000) (h : FuncId) (p : Strip → Bool) (hg : ∀ x ∈ l, FnV Try.prog (.fn h []) [.agg x.av] (· = .bool (p x))) : FnA Try.prog 124 [.isl (l.map Strip.av), .fn h []] (· = .bool (l.all p)) := by
  have hL : (l.map Strip.av).length = l.length := by simp
  refine fnA 1 ok124 (by simp) ?_
  (conv => whnf); (repeat' ((first | refine bT ?_ | refine bF ?_ | refine bN ?_ | ((first | refine bD ?_ ?_ | refine bEq ?_ ?_ | refine bNe ?_ ?_) <;> intro hh <;> try (exfalso; omega)) | refine wIn (by omega) ?_ | refine nI (by omega) ?_) <;> conv => whnf))
  refine loop_i (α := Nat) (fun k => [(9, .int .i64 k), (8, .int .i64 ↑(l.map Strip.av).length), (7, .isl (l.map Strip.av)), (1, .fn h [])]) (fun k => [.fresh]) (fun k => k ≤ l.length ∧ (l.take k).all p = true) (fun k => l.length - k) 0 (meets_id (by (repeat' apply And.intro) <;> first | rfl | exact True.intro | (intro hh; cases hh))) ⟨by omega, by simp⟩ ?_
  rintro k ⟨h1, h2⟩
  conv => whnf
  refine bD (fun h3 => ?_) (fun h3 => ?_)
  · have hk : k < l.length := by omega
    (conv => whnf); (repeat' ((first | refine bT ?_ | refine bF ?_ | refine bN ?_ | ((first | refine bD ?_ ?_ | refine bEq ?_ ?_ | refine bNe ?_ ?_) <;> intro hh <;> try (exfalso; omega)) | refine wIn (by omega) ?_ | refine nI (by omega) ?_) <;> conv => whnf))
    refine iaI (by omega) (by omega) (getD_map Strip.av l k hk) ?_
    conv => whnf
    refine (hg l[k] (List.getElem_mem hk)).vcallq rfl rfl rfl rfl (fun r (hr : r = _) => ?_)
    subst hr
    (conv => whnf); (repeat' ((first | refine bT ?_ | refine bF ?_ | refine bN ?_ | ((first | refine bD ?_ ?_ | refine bEq ?_ ?_ | refine bNe ?_ ?_) <;> intro hh <;> try (exfalso; omega)) | refine wIn (by omega) ?_ | refine nI (by omega) ?_ | (refine bS ?_ ?_ <;> intro hh)) <;> conv => whnf))
    · exact ⟨k + 1, (meets_id (by (repeat' apply And.intro) <;> first | rfl | exact True.intro | (intro hh; cases hh))), ⟨by omega, each_step hk h2 hh⟩, by omega⟩
    · rw [each_no hk hh]
  · have : k = l.length := by omega
    subst this
    rw [List.take_length] at h2
    rw [h2]
    (conv => whnf); (repeat' ((first | refine bT ?_ | refine bF ?_ | refine bN ?_ | ((first | refine bD ?_ ?_ | refine bEq ?_ ?_ | refine bNe ?_ ?_) <;> intro hh <;> try (exfalso; omega)) | refine wIn (by omega) ?_ | refine nI (by omega) ?_) <;> conv => whnf))
    all_goals rfl
theorem k62 (l : List Bolt) (hl : l.length ≤ 1000) (h : FuncId) (p : Bolt → Bool) (hg : ∀ x ∈ l, FnV Try.prog (.fn h []) [.agg x.av] (· = .bool (p x))) : FnA Try.prog 100 [.isl (l.map Bolt.av), .fn h []] (· = .bool (l.all p)) := by
  have hL : (l.map Bolt.av).length = l.length := by simp
  refine fnA 1 ok100 (by simp) ?_
  (conv => whnf); (repeat' ((first | refine bT ?_ | refine bF ?_ | refine bN ?_ | ((first | refine bD ?_ ?_ | refine bEq ?_ ?_ | refine bNe ?_ ?_) <;> intro hh <;> try (exfalso; omega)) | refine wIn (by omega) ?_ | refine nI (by omega) ?_) <;> conv => whnf))
  refine loop_i (α := Nat) (fun k => [(9, .int .i64 k), (8, .int .i64 ↑(l.map Bolt.av).length), (7, .isl (l.map Bolt.av)), (1, .fn h [])]) (fun k => [.fresh]) (fun k => k ≤ l.length ∧ (l.take k).all p = true) (fun k => l.length - k) 0 (meets_id (by (repeat' apply And.intro) <;> first | rfl | exact True.intro | (intro hh; cases hh))) ⟨by omega, by simp⟩ ?_
  rintro k ⟨h1, h2⟩
  conv => whnf
  refine bD (fun h3 => ?_) (fun h3 => ?_)
  · have hk : k < l.length := by omega
    (conv => whnf); (repeat' ((first | refine bT ?_ | refine bF ?_ | refine bN ?_ | ((first | refine bD ?_ ?_ | refine bEq ?_ ?_ | refine bNe ?_ ?_) <;> intro hh <;> try (exfalso; omega)) | refine wIn (by omega) ?_ | refine nI (by omega) ?_) <;> conv => whnf))
    refine iaI (by omega) (by omega) (getD_map Bolt.av l k hk) ?_
    conv => whnf
    refine (hg l[k] (List.getElem_mem hk)).vcallq rfl rfl rfl rfl (fun r (hr : r = _) => ?_)
    subst hr
    (conv => whnf); (repeat' ((first | refine bT ?_ | refine bF ?_ | refine bN ?_ | ((first | refine bD ?_ ?_ | refine bEq ?_ ?_ | refine bNe ?_ ?_) <;> intro hh <;> try (exfalso; omega)) | refine wIn (by omega) ?_ | refine nI (by omega) ?_ | (refine bS ?_ ?_ <;> intro hh)) <;> conv => whnf))
    · exact ⟨k + 1, (meets_id (by (repeat' apply And.intro) <;> first | rfl | exact True.intro | (intro hh; cases hh))), ⟨by omega, each_step hk h2 hh⟩, by omega⟩
    · rw [each_no hk hh]
  · have : k = l.length := by omega
    subst this
    rw [List.take_length] at h2
    rw [h2]
    (conv => whnf); (repeat' ((first | refine bT ?_ | refine bF ?_ | refine bN ?_ | ((first | refine bD ?_ ?_ | refine bEq ?_ ?_ | refine bNe ?_ ?_) <;> intro hh <;> try (exfalso; omega)) | refine wIn (by omega) ?_ | refine nI (by omega) ?_) <;> conv => whnf))
    all_goals rfl
theorem k80 (l : List (Int × Int)) (hl : l.length ≤ 1000) (h : FuncId) (p : Int × Int → Bool) (hg : ∀ x ∈ l, FnV Try.prog (.fn h []) [.agg (pairAV x)] (· = .bool (p x))) : FnA Try.prog 120 [.isl (l.map pairAV), .fn h []] (· = .bool (l.all p)) := by
  have hL : (l.map pairAV).length = l.length := by simp
  refine fnA 1 ok120 (by simp) ?_
  (conv => whnf); (repeat' ((first | refine bT ?_ | refine bF ?_ | refine bN ?_ | ((first | refine bD ?_ ?_ | refine bEq ?_ ?_ | refine bNe ?_ ?_) <;> intro hh <;> try (exfalso; omega)) | refine wIn (by omega) ?_ | refine nI (by omega) ?_) <;> conv => whnf))
  refine loop_i (α := Nat) (fun k => [(9, .int .i64 k), (8, .int .i64 ↑(l.map pairAV).length), (7, .isl (l.map pairAV)), (1, .fn h [])]) (fun k => [.fresh]) (fun k => k ≤ l.length ∧ (l.take k).all p = true) (fun k => l.length - k) 0 (meets_id (by (repeat' apply And.intro) <;> first | rfl | exact True.intro | (intro hh; cases hh))) ⟨by omega, by simp⟩ ?_
  rintro k ⟨h1, h2⟩
  conv => whnf
  refine bD (fun h3 => ?_) (fun h3 => ?_)
  · have hk : k < l.length := by omega
    (conv => whnf); (repeat' ((first | refine bT ?_ | refine bF ?_ | refine bN ?_ | ((first | refine bD ?_ ?_ | refine bEq ?_ ?_ | refine bNe ?_ ?_) <;> intro hh <;> try (exfalso; omega)) | refine wIn (by omega) ?_ | refine nI (by omega) ?_) <;> conv => whnf))
    refine iaI (by omega) (by omega) (getD_map pairAV l k hk) ?_
    conv => whnf
    refine (hg l[k] (List.getElem_mem hk)).vcallq rfl rfl rfl rfl (fun r (hr : r = _) => ?_)
    subst hr
    (conv => whnf); (repeat' ((first | refine bT ?_ | refine bF ?_ | refine bN ?_ | ((first | refine bD ?_ ?_ | refine bEq ?_ ?_ | refine bNe ?_ ?_) <;> intro hh <;> try (exfalso; omega)) | refine wIn (by omega) ?_ | refine nI (by omega) ?_ | (refine bS ?_ ?_ <;> intro hh)) <;> conv => whnf))
    · exact ⟨k + 1, (meets_id (by (repeat' apply And.intro) <;> first | rfl | exact True.intro | (intro hh; cases hh))), ⟨by omega, each_step hk h2 hh⟩, by omega⟩
    · rw [each_no hk hh]
  · have : k = l.length := by omega
    subst this
    rw [List.take_length] at h2
    rw [h2]
    (conv => whnf); (repeat' ((first | refine bT ?_ | refine bF ?_ | refine bN ?_ | ((first | refine bD ?_ ?_ | refine bEq ?_ ?_ | refine bNe ?_ ?_) <;> intro hh <;> try (exfalso; omega)) | refine wIn (by omega) ?_ | refine nI (by omega) ?_) <;> conv => whnf))
    all_goals rfl
theorem k78 (l : List Int) (hl : l.length ≤ 1000) (h : FuncId) (a : List AV) (p : Int → Bool) (hg : ∀ x ∈ l, FnV Try.prog (.fn h [.ipt a]) [.int .i64 x] (· = .bool (p x))) : FnA Try.prog 117 [.isl (l.map iAV), .fn h [.ipt a]] (· = .bool (l.all p)) := by
  have hL : (l.map iAV).length = l.length := by simp
  refine fnA 0 ok117 (by simp) ?_
  (conv => whnf); (repeat' ((first | refine bT ?_ | refine bF ?_ | refine bN ?_ | ((first | refine bD ?_ ?_ | refine bEq ?_ ?_ | refine bNe ?_ ?_) <;> intro hh <;> try (exfalso; omega)) | refine wIn (by omega) ?_ | refine nI (by omega) ?_) <;> conv => whnf))
  refine loop_i (α := Nat) (fun k => [(9, .int .i64 k), (8, .int .i64 ↑(l.map iAV).length), (7, .isl (l.map iAV)), (1, .fn h [.ipt a])]) (fun k => []) (fun k => k ≤ l.length ∧ (l.take k).all p = true) (fun k => l.length - k) 0 (meets_id (by (repeat' apply And.intro) <;> first | rfl | exact True.intro | (intro hh; cases hh))) ⟨by omega, by simp⟩ ?_
  rintro k ⟨h1, h2⟩
  conv => whnf
  refine bD (fun h3 => ?_) (fun h3 => ?_)
  · have hk : k < l.length := by omega
    (conv => whnf); (repeat' ((first | refine bT ?_ | refine bF ?_ | refine bN ?_ | ((first | refine bD ?_ ?_ | refine bEq ?_ ?_ | refine bNe ?_ ?_) <;> intro hh <;> try (exfalso; omega)) | refine wIn (by omega) ?_ | refine nI (by omega) ?_) <;> conv => whnf))
    refine iaI (by omega) (by omega) (getD_map iAV l k hk) ?_
    conv => whnf
    refine (hg l[k] (List.getElem_mem hk)).vcallq rfl rfl rfl rfl (fun r (hr : r = _) => ?_)
    subst hr
    (conv => whnf); (repeat' ((first | refine bT ?_ | refine bF ?_ | refine bN ?_ | ((first | refine bD ?_ ?_ | refine bEq ?_ ?_ | refine bNe ?_ ?_) <;> intro hh <;> try (exfalso; omega)) | refine wIn (by omega) ?_ | refine nI (by omega) ?_ | (refine bS ?_ ?_ <;> intro hh)) <;> conv => whnf))
    · exact ⟨k + 1, (meets_id (by (repeat' apply And.intro) <;> first | rfl | exact True.intro | (intro hh; cases hh))), ⟨by omega, each_step hk h2 hh⟩, by omega⟩
    · rw [each_no hk hh]
  · have : k = l.length := by omega
    subst this
    rw [List.take_length] at h2
    rw [h2]
    (conv => whnf); (repeat' ((first | refine bT ?_ | refine bF ?_ | refine bN ?_ | ((first | refine bD ?_ ?_ | refine bEq ?_ ?_ | refine bNe ?_ ?_) <;> intro hh <;> try (exfalso; omega)) | refine wIn (by omega) ?_ | refine nI (by omega) ?_) <;> conv => whnf))
    all_goals rfl
theorem k63 (b : Bolt) : FnA Try.prog 101 [.agg b.av] (· = .bool (decide b.ok)) := by
  have hL : (b.ss.map Strip.av).length = b.ss.length := by simp
  refine fnA 1 ok101 (by simp) ?_
  by_cases h8 : b.ss.length ≤ 8
  · have k := k84 b.ss (by omega) 125 (fun s => decide s.ok) (fun s _ => fnV_of bd125 (k85 s))
    by_cases hall : ∀ s ∈ b.ss, s.ok
    · have e : (b.ss.all fun s => decide s.ok) = true := by simpa using hall
      rw [e] at k
      unfold Bolt.ok
      (conv => whnf); (repeat' ((first | refine bT ?_ | refine bF ?_ | refine bN ?_ | ((first | refine bD ?_ ?_ | refine bEq ?_ ?_ | refine bNe ?_ ?_) <;> intro hh <;> try (exfalso; omega)) | (refine (k82 _ _ _).callq rfl rfl fun _ h => ?_; subst h) | (refine (k).callq rfl rfl fun _ h => ?_; subst h) | (refine (k77 _ _ _).callq rfl rfl fun _ h => ?_; subst h) | refine wIn (by omega) ?_ | refine nI (by omega) ?_) <;> conv => whnf))
      all_goals (simp [*]; try exact fun _ _ => hall)
    · have e : (b.ss.all fun s => decide s.ok) = false := by simpa using hall
      rw [e] at k
      have hno : ¬ b.ok := fun h => hall h.2.2.1
      rw [decide_eq_false hno]
      (conv => whnf); (repeat' ((first | refine bT ?_ | refine bF ?_ | refine bN ?_ | ((first | refine bD ?_ ?_ | refine bEq ?_ ?_ | refine bNe ?_ ?_) <;> intro hh <;> try (exfalso; omega)) | (refine (k82 _ _ _).callq rfl rfl fun _ h => ?_; subst h) | (refine (k).callq rfl rfl fun _ h => ?_; subst h) | (refine (k77 _ _ _).callq rfl rfl fun _ h => ?_; subst h) | refine wIn (by omega) ?_ | refine nI (by omega) ?_) <;> conv => whnf))
      all_goals rfl
  · have hno : ¬ b.ok := fun h => h8 h.2.1
    rw [decide_eq_false hno]
    (conv => whnf); (repeat' ((first | refine bT ?_ | refine bF ?_ | refine bN ?_ | ((first | refine bD ?_ ?_ | refine bEq ?_ ?_ | refine bNe ?_ ?_) <;> intro hh <;> try (exfalso; omega)) | (refine (k82 _ _ _).callq rfl rfl fun _ h => ?_; subst h) | (refine (k77 _ _ _).callq rfl rfl fun _ h => ?_; subst h) | refine wIn (by omega) ?_ | refine nI (by omega) ?_) <;> conv => whnf))
    all_goals rfl
theorem k74 (bs : List Bolt) (i : Int) (hn : bs.length ≤ 1000) : FnA Try.prog 119 [.isl (bs.map Bolt.av), .int .i64 i] (· = .bool (decide (0 ≤ i ∧ i < bs.length))) := by
  have hL : (bs.map Bolt.av).length = bs.length := by simp
  refine fnA 0 ok119 (by simp) ?_
  (conv => whnf); (repeat' ((first | refine bT ?_ | refine bF ?_ | refine bN ?_ | ((first | refine bD ?_ ?_ | refine bEq ?_ ?_ | refine bNe ?_ ?_) <;> intro hh <;> try (exfalso; omega)) | (refine (k77 _ _ _).callq rfl rfl fun _ h => ?_; subst h) | refine wIn (by omega) ?_ | refine nI (by omega) ?_) <;> conv => whnf))
  all_goals exact congrArg AV.bool (decide_eq_decide.2 (by omega))
theorem k79 (d : Dome) (g : Int) (hn : d.bs.length ≤ 1000) : FnA Try.prog 118 [.int .i64 g, .ipt d.cells] (· = .bool (decide (0 ≤ g ∧ g < d.bs.length))) := by
  refine fnA 0 ok118 (by simp) ?_
  (conv => whnf); (repeat' ((first | refine bT ?_ | refine bF ?_ | refine bN ?_ | ((first | refine bD ?_ ?_ | refine bEq ?_ ?_ | refine bNe ?_ ?_) <;> intro hh <;> try (exfalso; omega)) | (refine (k74 d.bs g hn).callq rfl rfl fun _ h => ?_; subst h) | refine wIn (by omega) ?_ | refine nI (by omega) ?_) <;> conv => whnf))
  all_goals rfl
theorem k83 (d : Dome) (w : Int) (hl : 0 ≤ d.loss ∧ d.loss ≤ 20) : FnA Try.prog 123 [.int .i64 w, .ipt d.cells] (· = .bool (decide (2 * d.loss ≤ w ∧ w ≤ 2000))) := by
  refine fnA 0 ok123 (by simp) ?_
  (conv => whnf); (repeat' ((first | refine bT ?_ | refine bF ?_ | refine bN ?_ | ((first | refine bD ?_ ?_ | refine bEq ?_ ?_ | refine bNe ?_ ?_) <;> intro hh <;> try (exfalso; omega)) | (refine (k77 _ _ _).callq rfl rfl fun _ h => ?_; subst h) | refine wIn (by omega) ?_ | refine nI (by omega) ?_) <;> conv => whnf))
  all_goals rfl
theorem all_dec {α : Type} {p : α → Prop} [DecidablePred p] {l : List α} : (l.all fun x => decide (p x)) = decide (∀ x ∈ l, p x) := by
  by_cases h : ∀ x ∈ l, p x
  · rw [decide_eq_true h]; simpa using h
  · rw [decide_eq_false h]; simpa using h
theorem k61 (d : Dome) : FnA Try.prog 99 [.agg d.cells] (· = .bool (decide d.ok1)) := by
  have h1 : (d.bs.map Bolt.av).length = d.bs.length := by simp
  have h2 : (d.gs.map iAV).length = d.gs.length := by simp
  have h3 : (d.rs.map pairAV).length = d.rs.length := by simp
  have h4 : (d.ws.map iAV).length = d.ws.length := by simp
  refine fnA 1 ok99 (by simp) ?_
  by_cases c1 : 1 ≤ d.bs.length ∧ d.bs.length ≤ 4
  case neg =>
    rw [decide_eq_false fun h : d.ok1 => c1 h.1]
    (conv => whnf); (repeat' ((first | refine bT ?_ | refine bF ?_ | refine bN ?_ | ((first | refine bD ?_ ?_ | refine bEq ?_ ?_ | refine bNe ?_ ?_) <;> intro hh <;> try (exfalso; omega)) | (refine (k77 _ _ _).callq rfl rfl fun _ h => ?_; subst h) | refine wIn (by omega) ?_ | refine nI (by omega) ?_) <;> conv => whnf))
    all_goals rfl
  by_cases c2 : 3 ≤ d.gs.length ∧ d.gs.length ≤ 16
  case neg =>
    rw [decide_eq_false fun h : d.ok1 => c2 h.2.1]
    (conv => whnf); (repeat' ((first | refine bT ?_ | refine bF ?_ | refine bN ?_ | ((first | refine bD ?_ ?_ | refine bEq ?_ ?_ | refine bNe ?_ ?_) <;> intro hh <;> try (exfalso; omega)) | (refine (k77 _ _ _).callq rfl rfl fun _ h => ?_; subst h) | refine wIn (by omega) ?_ | refine nI (by omega) ?_) <;> conv => whnf))
    all_goals rfl
  have e78 := k78 d.gs (by omega) 118 d.cells (fun g => decide (0 ≤ g ∧ g < d.bs.length)) (fun g _ => fnV_of bd118 (k79 d g (by omega)))
  rw [all_dec] at e78
  by_cases c3 : ∀ g ∈ d.gs, 0 ≤ g ∧ g < d.bs.length
  case neg =>
    rw [decide_eq_false c3] at e78
    rw [decide_eq_false fun h : d.ok1 => c3 h.2.2.1]
    (conv => whnf); (repeat' ((first | refine bT ?_ | refine bF ?_ | refine bN ?_ | ((first | refine bD ?_ ?_ | refine bEq ?_ ?_ | refine bNe ?_ ?_) <;> intro hh <;> try (exfalso; omega)) | (refine (e78).lendq rfl fun _ h => ?_; subst h; refine ⟨rfl, ?_⟩) | (refine (k77 _ _ _).callq rfl rfl fun _ h => ?_; subst h) | refine wIn (by omega) ?_ | refine nI (by omega) ?_) <;> conv => whnf))
    all_goals rfl
  rw [decide_eq_true c3] at e78
  by_cases c4 : 0 ≤ d.loss ∧ d.loss ≤ 20
  case neg =>
    rw [decide_eq_false fun h : d.ok1 => c4 h.2.2.2.1]
    (conv => whnf); (repeat' ((first | refine bT ?_ | refine bF ?_ | refine bN ?_ | ((first | refine bD ?_ ?_ | refine bEq ?_ ?_ | refine bNe ?_ ?_) <;> intro hh <;> try (exfalso; omega)) | (refine (e78).lendq rfl fun _ h => ?_; subst h; refine ⟨rfl, ?_⟩) | (refine (k77 _ _ _).callq rfl rfl fun _ h => ?_; subst h) | refine wIn (by omega) ?_ | refine nI (by omega) ?_) <;> conv => whnf))
    all_goals rfl
  by_cases c5 : 1 ≤ d.rs.length ∧ d.rs.length ≤ 12
  case neg =>
    rw [decide_eq_false fun h : d.ok1 => c5 h.2.2.2.2.1]
    (conv => whnf); (repeat' ((first | refine bT ?_ | refine bF ?_ | refine bN ?_ | ((first | refine bD ?_ ?_ | refine bEq ?_ ?_ | refine bNe ?_ ?_) <;> intro hh <;> try (exfalso; omega)) | (refine (e78).lendq rfl fun _ h => ?_; subst h; refine ⟨rfl, ?_⟩) | (refine (k77 _ _ _).callq rfl rfl fun _ h => ?_; subst h) | refine wIn (by omega) ?_ | refine nI (by omega) ?_) <;> conv => whnf))
    all_goals rfl
  have e80 := k80 d.rs (by omega) 121 (fun s => decide (okSpan s.1 s.2 40000)) (fun s _ => fnV_of bd121 (k81 s.1 s.2))
  rw [all_dec] at e80
  by_cases c6 : ∀ s ∈ d.rs, okSpan s.1 s.2 40000
  case neg =>
    rw [decide_eq_false c6] at e80
    rw [decide_eq_false fun h : d.ok1 => c6 h.2.2.2.2.2.1]
    (conv => whnf); (repeat' ((first | refine bT ?_ | refine bF ?_ | refine bN ?_ | ((first | refine bD ?_ ?_ | refine bEq ?_ ?_ | refine bNe ?_ ?_) <;> intro hh <;> try (exfalso; omega)) | (refine (e78).lendq rfl fun _ h => ?_; subst h; refine ⟨rfl, ?_⟩) | (refine (e80).callq rfl rfl fun _ h => ?_; subst h) | (refine (k77 _ _ _).callq rfl rfl fun _ h => ?_; subst h) | refine wIn (by omega) ?_ | refine nI (by omega) ?_) <;> conv => whnf))
    all_goals rfl
  rw [decide_eq_true c6] at e80
  by_cases c7 : d.ws.length = d.rs.length
  case neg =>
    rw [decide_eq_false fun h : d.ok1 => c7 h.2.2.2.2.2.2.1]
    (conv => whnf); (repeat' ((first | refine bT ?_ | refine bF ?_ | refine bN ?_ | ((first | refine bD ?_ ?_ | refine bEq ?_ ?_ | refine bNe ?_ ?_) <;> intro hh <;> try (exfalso; omega)) | (refine (e78).lendq rfl fun _ h => ?_; subst h; refine ⟨rfl, ?_⟩) | (refine (e80).callq rfl rfl fun _ h => ?_; subst h) | (refine (k77 _ _ _).callq rfl rfl fun _ h => ?_; subst h) | refine wIn (by omega) ?_ | refine nI (by omega) ?_) <;> conv => whnf))
    all_goals rfl
  have e83 := k78 d.ws (by omega) 123 d.cells (fun w => decide (2 * d.loss ≤ w ∧ w ≤ 2000)) (fun w _ => fnV_of bd123 (k83 d w c4))
  rw [all_dec] at e83
  by_cases c8 : ∀ w ∈ d.ws, 2 * d.loss ≤ w ∧ w ≤ 2000
  case neg =>
    rw [decide_eq_false c8] at e83
    rw [decide_eq_false fun h : d.ok1 => c8 h.2.2.2.2.2.2.2.1]
    (conv => whnf); (repeat' ((first | refine bT ?_ | refine bF ?_ | refine bN ?_ | ((first | refine bD ?_ ?_ | refine bEq ?_ ?_ | refine bNe ?_ ?_) <;> intro hh <;> try (exfalso; omega)) | (refine (e78).lendq rfl fun _ h => ?_; subst h; refine ⟨rfl, ?_⟩) | (refine (e80).callq rfl rfl fun _ h => ?_; subst h) | (refine (e83).lendq rfl fun _ h => ?_; subst h; refine ⟨rfl, ?_⟩) | (refine (k77 _ _ _).callq rfl rfl fun _ h => ?_; subst h) | refine wIn (by omega) ?_ | refine nI (by omega) ?_) <;> conv => whnf))
    all_goals rfl
  rw [decide_eq_true c8] at e83
  have : decide d.ok1 = decide (0 ≤ d.slope ∧ d.slope ≤ 500) := decide_eq_decide.2 ⟨fun h => h.2.2.2.2.2.2.2.2, fun h => ⟨c1, c2, c3, c4, c5, c6, c7, c8, h⟩⟩
  rw [this]
  (conv => whnf); (repeat' ((first | refine bT ?_ | refine bF ?_ | refine bN ?_ | ((first | refine bD ?_ ?_ | refine bEq ?_ ?_ | refine bNe ?_ ?_) <;> intro hh <;> try (exfalso; omega)) | (refine (e78).lendq rfl fun _ h => ?_; subst h; refine ⟨rfl, ?_⟩) | (refine (e80).callq rfl rfl fun _ h => ?_; subst h) | (refine (e83).lendq rfl fun _ h => ?_; subst h; refine ⟨rfl, ?_⟩) | (refine (k77 _ _ _).callq rfl rfl fun _ h => ?_; subst h) | refine wIn (by omega) ?_ | refine nI (by omega) ?_) <;> conv => whnf))
  all_goals rfl
theorem k34 (d : Dome) : FnA Try.prog 72 [.agg d.cells] (· = .int .i64 d.chk) := by
  refine fnA 1 ok72 (by simp) ?_
  have e := k61 d
  unfold Dome.chk
  by_cases h1 : d.ok1
  · rw [decide_eq_true h1] at e
    rw [if_pos h1]
    have e2 := k62 d.bs (by have := h1.1; omega) 101 (fun b => decide b.ok) (fun b _ => fnV_of bd101 (k63 b))
    rw [all_dec] at e2
    by_cases h2 : d.okB
    · rw [decide_eq_true (show ∀ b ∈ d.bs, b.ok from h2)] at e2
      rw [if_pos h2]
      (conv => whnf); (repeat' ((first | refine bT ?_ | refine bF ?_ | refine bN ?_ | ((first | refine bD ?_ ?_ | refine bEq ?_ ?_ | refine bNe ?_ ?_) <;> intro hh <;> try (exfalso; omega)) | (refine (e).callq rfl rfl fun _ h => ?_; subst h) | (refine (e2).callq rfl rfl fun _ h => ?_; subst h) | refine wIn (by omega) ?_ | refine nI (by omega) ?_) <;> conv => whnf))
      all_goals rfl
    · rw [decide_eq_false (show ¬ ∀ b ∈ d.bs, b.ok from h2)] at e2
      rw [if_neg h2]
      (conv => whnf); (repeat' ((first | refine bT ?_ | refine bF ?_ | refine bN ?_ | ((first | refine bD ?_ ?_ | refine bEq ?_ ?_ | refine bNe ?_ ?_) <;> intro hh <;> try (exfalso; omega)) | (refine (e).callq rfl rfl fun _ h => ?_; subst h) | (refine (e2).callq rfl rfl fun _ h => ?_; subst h) | refine wIn (by omega) ?_ | refine nI (by omega) ?_) <;> conv => whnf))
      all_goals rfl
  · rw [decide_eq_false h1] at e
    rw [if_neg h1]
    (conv => whnf); (repeat' ((first | refine bT ?_ | refine bF ?_ | refine bN ?_ | ((first | refine bD ?_ ?_ | refine bEq ?_ ?_ | refine bNe ?_ ?_) <;> intro hh <;> try (exfalso; omega)) | (refine (e).callq rfl rfl fun _ h => ?_; subst h) | refine wIn (by omega) ?_ | refine nI (by omega) ?_) <;> conv => whnf))
    all_goals rfl
theorem k59 (d : Dome) (i : Int) : FnA Try.prog 108 [.agg d.cells, .isl (d.bs.map Bolt.av), .int .i64 i] (· = .int .i64 (if d.ok then (if 0 ≤ i ∧ i < d.bs.length then 0 else 1) else d.chk)) := by
  refine fnA 1 ok108 (by simp) ?_
  have e := k34 d
  by_cases h : d.ok
  · have h0 : d.chk = 0 := by unfold Dome.chk; rw [if_pos h.1, if_pos h.2]
    rw [h0] at e
    rw [if_pos h]
    have hn := h.1.1
    by_cases hi : 0 ≤ i ∧ i < d.bs.length
    · have e2 := k74 d.bs i (by omega)
      rw [decide_eq_true hi] at e2
      rw [if_pos hi]
      (conv => whnf); (repeat' ((first | refine bT ?_ | refine bF ?_ | refine bN ?_ | ((first | refine bD ?_ ?_ | refine bEq ?_ ?_ | refine bNe ?_ ?_) <;> intro hh <;> try (exfalso; omega)) | (refine (e).callq rfl rfl fun _ h => ?_; subst h) | (refine (e2).callq rfl rfl fun _ h => ?_; subst h) | refine wIn (by omega) ?_ | refine nI (by omega) ?_) <;> conv => whnf))
      all_goals rfl
    · have e2 := k74 d.bs i (by omega)
      rw [decide_eq_false hi] at e2
      rw [if_neg hi]
      (conv => whnf); (repeat' ((first | refine bT ?_ | refine bF ?_ | refine bN ?_ | ((first | refine bD ?_ ?_ | refine bEq ?_ ?_ | refine bNe ?_ ?_) <;> intro hh <;> try (exfalso; omega)) | (refine (e).callq rfl rfl fun _ h => ?_; subst h) | (refine (e2).callq rfl rfl fun _ h => ?_; subst h) | refine wIn (by omega) ?_ | refine nI (by omega) ?_) <;> conv => whnf))
      all_goals rfl
  · have h0 : d.chk ≠ 0 := by
      unfold Dome.chk; split
      · rename_i h1; rw [if_neg fun h2 => h ⟨h1, h2⟩]; omega
      · omega
    rw [if_neg h]
    (conv => whnf); (repeat' ((first | refine bT ?_ | refine bF ?_ | refine bN ?_ | ((first | refine bD ?_ ?_ | refine bEq ?_ ?_ | refine bNe ?_ ?_) <;> intro hh <;> try (exfalso; omega)) | (refine (e).callq rfl rfl fun _ h => ?_; subst h) | refine wIn (by omega) ?_ | refine nI (by omega) ?_) <;> conv => whnf))
    all_goals rfl
def pulled (n s : Int) : Int := (n * (1000 + s)).tdiv 1000
theorem mul_le_big {n s : Int} (hn : -4000000 ≤ n ∧ n ≤ 4000000) (hs : 0 ≤ s ∧ s ≤ 2000) : -20000000000 ≤ n * (1000 + s) ∧ n * (1000 + s) ≤ 20000000000 := by
  constructor
  · have h1 : (n + 4000000) * (1000 + s) ≥ 0 := Int.mul_nonneg (by omega) (by omega)
    rw [Int.add_mul] at h1; omega
  · have h1 : (4000000 - n) * (1000 + s) ≥ 0 := Int.mul_nonneg (by omega) (by omega)
    rw [Int.sub_mul] at h1; omega
theorem tdiv_in {x : Int} (h : -20000000000 ≤ x ∧ x ≤ 20000000000) : -9223372036854775808 ≤ x.tdiv 1000 ∧ x.tdiv 1000 ≤ 9223372036854775807 := by
  rcases Int.le_total 0 x with h1 | h1
  · rw [Int.tdiv_eq_ediv_of_nonneg h1]; omega
  · have : x.tdiv 1000 = -((-x).tdiv 1000) := by rw [Int.neg_tdiv]; omega
    rw [this, Int.tdiv_eq_ediv_of_nonneg (by omega)]; omega
theorem k76 (n s : Int) (hn : -4000000 ≤ n ∧ n ≤ 4000000) (hs : 0 ≤ s ∧ s ≤ 2000) : FnA Try.prog 133 [.int .i64 n, .int .i64 s] (· = .int .i64 (pulled n s)) := by
  have h1 := mul_le_big hn hs
  have h2 := tdiv_in h1
  refine fnA 0 ok133 (by simp) ?_
  (conv => whnf); (repeat' ((first | refine bT ?_ | refine bF ?_ | refine bN ?_ | ((first | refine bD ?_ ?_ | refine bEq ?_ ?_ | refine bNe ?_ ?_) <;> intro hh <;> try (exfalso; omega)) | refine wIn (by omega) ?_ | refine nI (by omega) ?_) <;> conv => whnf))
  all_goals rfl
theorem k47 (n s : Int) (hn : -4000000 ≤ n ∧ n ≤ 4000000) (hs : 0 ≤ s ∧ s ≤ 2000) : FnA Try.prog 49 [.int .i64 n, .int .i64 s] (· = .int .i64 (pulled n s)) := by
  have h1 := mul_le_big hn hs
  have h2 := tdiv_in h1
  refine fnA 0 ok49 (by simp) ?_
  (conv => whnf); (repeat' ((first | refine bT ?_ | refine bF ?_ | refine bN ?_ | ((first | refine bD ?_ ?_ | refine bEq ?_ ?_ | refine bNe ?_ ?_) <;> intro hh <;> try (exfalso; omega)) | refine wIn (by omega) ?_ | refine nI (by omega) ?_) <;> conv => whnf))
  all_goals rfl
theorem k73 (a b n : Int) : FnA Try.prog 107 [.agg [.int .i64 a, .int .i64 b], .int .i64 n] (· = .bool (decide (a ≤ n ∧ n ≤ b))) := by
  refine fnA 1 ok107 (by simp) ?_
  (conv => whnf); (repeat' ((first | refine bT ?_ | refine bF ?_ | refine bN ?_ | ((first | refine bD ?_ ?_ | refine bEq ?_ ?_ | refine bNe ?_ ?_) <;> intro hh <;> try (exfalso; omega)) | (refine (k77 _ _ _).callq rfl rfl fun _ h => ?_; subst h) | refine wIn (by omega) ?_ | refine nI (by omega) ?_) <;> conv => whnf))
  all_goals rfl
def Strip.fits (s : Strip) (x : Int) : Bool := decide (s.lo ≤ pulled s.long x ∧ pulled s.long x ≤ s.hi)
def untrue (ss : List Strip) (x : Int) : Nat := (ss.filter fun s => !s.fits x).length
def Bolt.nt (b : Bolt) : Nat := (b.hi + 1 - b.lo).toNat
def Bolt.tries (b : Bolt) : List (Int × Int) := (List.range b.nt).map fun k => (b.lo + (k : Nat), (untrue b.ss (b.lo + (k : Nat)) : Int))
theorem tries_len (b : Bolt) : (b.tries.map pairAV).length = b.nt := by simp [Bolt.tries]
theorem tries_get (b : Bolt) (k : Nat) (h : k < b.nt) : (b.tries.map pairAV)[k]? = some [.int .i64 (b.lo + k), .int .i64 (untrue b.ss (b.lo + k))] := by
  simp [Bolt.tries, h, pairAV]
theorem untrue_le (ss : List Strip) (x : Int) : untrue ss x ≤ ss.length := List.length_filter_le _ _
theorem untrue_yes {ss : List Strip} {x : Int} {k : Nat} (hk : k < ss.length) (h : ss[k].fits x = true) : (untrue (ss.take (k + 1)) x : Int) = untrue (ss.take k) x := by
  unfold untrue
  rw [List.take_succ_eq_append_getElem hk, List.filter_append]; simp [h]
theorem untrue_no {ss : List Strip} {x : Int} {k : Nat} (hk : k < ss.length) (h : ss[k].fits x = false) : (untrue (ss.take (k + 1)) x : Int) = untrue (ss.take k) x + 1 := by
  unfold untrue
  rw [List.take_succ_eq_append_getElem hk, List.filter_append]; simp [h]
theorem i75 (b : Bolt) (hok : b.ok) : ItA Try.prog 145 [.ipt b.av] (b.tries.map pairAV) := by
  have h1 := hok.1
  unfold okSpan at h1
  have h8 := hok.2.1
  have hs := hok.2.2.1
  have hL : (b.ss.map Strip.av).length = b.ss.length := by simp
  have hn : (b.nt : Int) = b.hi + 1 - b.lo := by unfold Bolt.nt; omega
  refine itA 1 ok145 (by simp) ?_
  conv => whnf
  refine loop_y (α := Nat) (fun i => [(3, .int .i64 (b.lo + i)), (1, .ipt b.av), (0, .yld)]) (fun i => [.fresh]) (fun i => ⟨[], i, false⟩) (fun i => i ≤ b.nt) (fun i => b.nt - i) 0 ?_ (by omega) ?_
  · simp only [Int.natCast_zero, Int.add_zero]; exact (meets_id (by (repeat' apply And.intro) <;> first | rfl | exact True.intro | (intro hh; cases hh)))
  intro i hi
  conv => whnf
  refine bD (fun h3 => ?_) (fun h3 => ?_)
  · conv => whnf
    refine loop_y (α := Nat) (fun k => [(20, .int .i64 k), (19, .int .i64 ↑(b.ss.map Strip.av).length), (18, .isl (b.ss.map Strip.av)), (4, .int .i64 (untrue (b.ss.take k) (b.lo + i))), (3, .int .i64 (b.lo + i)), (1, .ipt b.av), (0, .yld)]) (fun k => [.fresh]) (fun k => ⟨[], i, false⟩) (fun k => k ≤ b.ss.length) (fun k => b.ss.length - k) 0 ?_ (by omega) ?_
    · exact (meets_id (by (repeat' apply And.intro) <;> first | rfl | exact True.intro | (intro hh; cases hh)))
    intro k hk0
    conv => whnf
    refine bD (fun h4 => ?_) (fun h4 => ?_)
    · have hk : k < b.ss.length := by omega
      have hst := hs _ (List.getElem_mem hk)
      have hl := hst.1
      conv => whnf
      refine iaI (by omega) (by omega) (getD_map Strip.av b.ss k hk) ?_
      have hu := untrue_le (b.ss.take k) (b.lo + i)
      have hu2 : (b.ss.take k).length ≤ 8 := by rw [List.length_take]; omega
      conv => whnf
      refine (k76 b.ss[k].long (b.lo + i) (by omega) (by omega)).callq rfl rfl (fun r (hr : r = _) => ?_); subst hr
      conv => whnf
      refine (k73 b.ss[k].lo b.ss[k].hi (pulled b.ss[k].long (b.lo + i))).callq rfl rfl (fun r (hr : r = _) => ?_); subst hr
      by_cases hf : b.ss[k].fits (b.lo + i) = true
      · have e1 := untrue_yes hk hf
        unfold Strip.fits at hf
        rw [hf]
        (conv => whnf); (repeat' ((first | refine bT ?_ | refine bF ?_ | refine bN ?_ | ((first | refine bD ?_ ?_ | refine bEq ?_ ?_ | refine bNe ?_ ?_) <;> intro hh <;> try (exfalso; omega)) | refine wIn (by omega) ?_ | refine nI (by omega) ?_) <;> conv => whnf))
        exact ⟨k + 1, by simp only [e1]; exact (meets_id (by (repeat' apply And.intro) <;> first | rfl | exact True.intro | (intro hh; cases hh))), by omega, by omega⟩
      · have hf' : b.ss[k].fits (b.lo + i) = false := by simpa using hf
        have e1 := untrue_no hk hf'
        unfold Strip.fits at hf'
        rw [hf']
        (conv => whnf); (repeat' ((first | refine bT ?_ | refine bF ?_ | refine bN ?_ | ((first | refine bD ?_ ?_ | refine bEq ?_ ?_ | refine bNe ?_ ?_) <;> intro hh <;> try (exfalso; omega)) | refine wIn (by omega) ?_ | refine nI (by omega) ?_) <;> conv => whnf))
        exact ⟨k + 1, by simp only [e1]; exact (meets_id (by (repeat' apply And.intro) <;> first | rfl | exact True.intro | (intro hh; cases hh))), by omega, by omega⟩
    · have : k = b.ss.length := by omega
      subst this
      rw [List.take_length]
      conv => whnf
      refine yI rfl (tries_get b i (by omega)) rfl ?_ ?_
      · conv => whnf
        refine bN (bT ?_)
        conv => whnf
        refine wIn (by omega) ?_
        refine ⟨i + 1, ?_, by omega, by omega⟩
        simp only [Int.natCast_add, Int.natCast_one, ← Int.add_assoc]
        exact (meets_id (by (repeat' apply And.intro) <;> first | rfl | exact True.intro | (intro hh; cases hh)))
      · conv => whnf
        refine bN (bF ?_)
        conv => whnf
        exact .inl rfl
  · conv => whnf
    right
    have : i = b.nt := by omega
    subst this
    rw [tries_len]
theorem k60 (b : Bolt) : FnA Try.prog 142 [.agg b.av] (· = .fn 145 [.ipt b.av]) := by
  refine fnA 1 ok142 (by simp) ?_
  (conv => whnf); (repeat' ((first | refine bT ?_ | refine bF ?_ | refine bN ?_ | ((first | refine bD ?_ ?_ | refine bEq ?_ ?_ | refine bNe ?_ ?_) <;> intro hh) | refine wIn (by omega) ?_ | refine nI (by omega) ?_) <;> conv => whnf))
  all_goals rfl
theorem k66 (b : Bolt) (x : Int) (hok : b.ok) (hx : 0 ≤ x ∧ x ≤ 1000) : FnA Try.prog 88 [.agg b.av, .int .i64 x] (· = .int .i64 (untrue b.ss x)) := by
  have h8 := hok.2.1
  have hs := hok.2.2.1
  have hL : (b.ss.map Strip.av).length = b.ss.length := by simp
  refine fnA 1 ok88 (by simp) ?_
  conv => whnf
  refine loop_i (α := Nat) (fun k => [(6, .int .i64 k), (5, .int .i64 (untrue (b.ss.take k) x)), (2, .own 0 0), (1, .int .i64 x)]) (fun k => [.box false b.av]) (fun k => k ≤ b.ss.length) (fun k => b.ss.length - k) 0 (meets_id (by (repeat' apply And.intro) <;> first | rfl | exact True.intro | (intro hh; cases hh))) (by omega) ?_
  intro k hk0
  conv => whnf
  refine bD (fun h4 => ?_) (fun h4 => ?_)
  · have hk : k < b.ss.length := by omega
    have hst := hs _ (List.getElem_mem hk)
    have hl := hst.1
    have hu := untrue_le (b.ss.take k) x
    have hu2 : (b.ss.take k).length ≤ 8 := by rw [List.length_take]; omega
    conv => whnf
    refine iaI (by omega) (by omega) (getD_map Strip.av b.ss k hk) ?_
    conv => whnf
    refine iaI (by omega) (by omega) (getD_map Strip.av b.ss k hk) ?_
    conv => whnf
    refine iaI (by omega) (by omega) (getD_map Strip.av b.ss k hk) ?_
    conv => whnf
    refine (k47 b.ss[k].long x (by omega) (by omega)).callq rfl rfl (fun r (hr : r = _) => ?_); subst hr
    conv => whnf
    refine (k54 (pulled b.ss[k].long x) b.ss[k].lo b.ss[k].hi).callq rfl rfl (fun r (hr : r = _) => ?_); subst hr
    by_cases hf : b.ss[k].fits x = true
    · have e1 := untrue_yes hk hf
      unfold Strip.fits at hf
      rw [hf]
      (conv => whnf); (repeat' ((first | refine bT ?_ | refine bF ?_ | refine bN ?_ | ((first | refine bD ?_ ?_ | refine bEq ?_ ?_ | refine bNe ?_ ?_) <;> intro hh <;> try (exfalso; omega)) | refine wIn (by omega) ?_ | refine nI (by omega) ?_) <;> conv => whnf))
      exact ⟨k + 1, by simp only [e1]; exact (meets_id (by (repeat' apply And.intro) <;> first | rfl | exact True.intro | (intro hh; cases hh))), by omega, by omega⟩
    · have hf' : b.ss[k].fits x = false := by simpa using hf
      have e1 := untrue_no hk hf'
      unfold Strip.fits at hf'
      rw [hf']
      (conv => whnf); (repeat' ((first | refine bT ?_ | refine bF ?_ | refine bN ?_ | ((first | refine bD ?_ ?_ | refine bEq ?_ ?_ | refine bNe ?_ ?_) <;> intro hh <;> try (exfalso; omega)) | refine wIn (by omega) ?_ | refine nI (by omega) ?_) <;> conv => whnf))
      exact ⟨k + 1, by simp only [e1]; exact (meets_id (by (repeat' apply And.intro) <;> first | rfl | exact True.intro | (intro hh; cases hh))), by omega, by omega⟩
  · have : k = b.ss.length := by omega
    subst this
    rw [List.take_length]
    (conv => whnf); (repeat' ((first | refine bT ?_ | refine bF ?_ | refine bN ?_ | ((first | refine bD ?_ ?_ | refine bEq ?_ ?_ | refine bNe ?_ ?_) <;> intro hh <;> try (exfalso; omega)) | refine wIn (by omega) ?_ | refine nI (by omega) ?_) <;> conv => whnf))
    all_goals rfl
theorem k56 (b : Bolt) : FnA Try.prog 98 [.agg b.av] (· = .bool (decide b.ok)) := by
  have hL : (b.ss.map Strip.av).length = b.ss.length := by simp
  refine fnA 1 ok98 (by simp) ?_
  have e1 := k55 b.lo b.hi 60
  by_cases c1 : okSpan b.lo b.hi 60
  case neg =>
    rw [decide_eq_false c1] at e1
    rw [decide_eq_false fun h : b.ok => c1 h.1]
    (conv => whnf); (repeat' ((first | refine bT ?_ | refine bF ?_ | refine bN ?_ | ((first | refine bD ?_ ?_ | refine bEq ?_ ?_ | refine bNe ?_ ?_) <;> intro hh <;> try (exfalso; omega)) | (refine (e1).callq rfl rfl fun _ h => ?_; subst h) | refine wIn (by omega) ?_ | refine nI (by omega) ?_) <;> conv => whnf))
    all_goals rfl
  rw [decide_eq_true c1] at e1
  by_cases c2 : b.ss.length ≤ 8
  case neg =>
    rw [decide_eq_false fun h : b.ok => c2 h.2.1]
    (conv => whnf); (repeat' ((first | refine bT ?_ | refine bF ?_ | refine bN ?_ | ((first | refine bD ?_ ?_ | refine bEq ?_ ?_ | refine bNe ?_ ?_) <;> intro hh <;> try (exfalso; omega)) | (refine (e1).callq rfl rfl fun _ h => ?_; subst h) | refine wIn (by omega) ?_ | refine nI (by omega) ?_) <;> conv => whnf))
    all_goals rfl
  have e3 := k54 b.wrong 0 2
  by_cases c3 : 0 ≤ b.wrong ∧ b.wrong ≤ 2
  case neg =>
    rw [decide_eq_false c3] at e3
    rw [decide_eq_false fun h : b.ok => c3 h.2.2.2]
    (conv => whnf); (repeat' ((first | refine bT ?_ | refine bF ?_ | refine bN ?_ | ((first | refine bD ?_ ?_ | refine bEq ?_ ?_ | refine bNe ?_ ?_) <;> intro hh <;> try (exfalso; omega)) | (refine (e1).callq rfl rfl fun _ h => ?_; subst h) | (refine (e3).callq rfl rfl fun _ h => ?_; subst h) | refine wIn (by omega) ?_ | refine nI (by omega) ?_) <;> conv => whnf))
    all_goals rfl
  rw [decide_eq_true c3] at e3
  (conv => whnf); (repeat' ((first | refine bT ?_ | refine bF ?_ | refine bN ?_ | ((first | refine bD ?_ ?_ | refine bEq ?_ ?_ | refine bNe ?_ ?_) <;> intro hh <;> try (exfalso; omega)) | (refine (e1).callq rfl rfl fun _ h => ?_; subst h) | (refine (e3).callq rfl rfl fun _ h => ?_; subst h) | refine wIn (by omega) ?_ | refine nI (by omega) ?_) <;> conv => whnf))
  refine loop_i (α := Nat) (fun k => [(3, .int .i64 k), (1, .own 0 0)]) (fun k => [.box false b.av]) (fun k => k ≤ b.ss.length ∧ ∀ s ∈ b.ss.take k, s.ok) (fun k => b.ss.length - k) 0 (meets_id (by (repeat' apply And.intro) <;> first | rfl | exact True.intro | (intro hh; cases hh))) ⟨by omega, by simp⟩ ?_
  rintro k ⟨hk0, hin⟩
  conv => whnf
  refine bD (fun h4 => ?_) (fun h4 => ?_)
  · have hk : k < b.ss.length := by omega
    conv => whnf
    refine iaI (by omega) (by omega) (getD_map Strip.av b.ss k hk) ?_
    conv => whnf
    have e4 := k54 b.ss[k].long 1 2000
    have e5 := k55 b.ss[k].lo b.ss[k].hi 4000
    by_cases c4 : 1 ≤ b.ss[k].long ∧ b.ss[k].long ≤ 2000
    case neg =>
      rw [decide_eq_false c4] at e4
      rw [decide_eq_false fun h : b.ok => c4 (h.2.2.1 _ (List.getElem_mem hk)).1]
      (conv => whnf); (repeat' ((first | refine bT ?_ | refine bF ?_ | refine bN ?_ | ((first | refine bD ?_ ?_ | refine bEq ?_ ?_ | refine bNe ?_ ?_) <;> intro hh <;> try (exfalso; omega)) | (refine (e4).callq rfl rfl fun _ h => ?_; subst h) | refine wIn (by omega) ?_ | refine nI (by omega) ?_) <;> conv => whnf))
      all_goals rfl
    rw [decide_eq_true c4] at e4
    (conv => whnf); (repeat' ((first | refine bT ?_ | refine bF ?_ | refine bN ?_ | ((first | refine bD ?_ ?_ | refine bEq ?_ ?_ | refine bNe ?_ ?_) <;> intro hh <;> try (exfalso; omega)) | (refine (e4).callq rfl rfl fun _ h => ?_; subst h) | refine wIn (by omega) ?_ | refine nI (by omega) ?_) <;> conv => whnf))
    refine iaI (by omega) (by omega) (getD_map Strip.av b.ss k hk) ?_
    conv => whnf
    by_cases c5 : okSpan b.ss[k].lo b.ss[k].hi 4000
    case neg =>
      rw [decide_eq_false c5] at e5
      rw [decide_eq_false fun h : b.ok => c5 (h.2.2.1 _ (List.getElem_mem hk)).2]
      (conv => whnf); (repeat' ((first | refine bT ?_ | refine bF ?_ | refine bN ?_ | ((first | refine bD ?_ ?_ | refine bEq ?_ ?_ | refine bNe ?_ ?_) <;> intro hh <;> try (exfalso; omega)) | (refine (e5).callq rfl rfl fun _ h => ?_; subst h) | refine wIn (by omega) ?_ | refine nI (by omega) ?_) <;> conv => whnf))
      all_goals rfl
    rw [decide_eq_true c5] at e5
    (conv => whnf); (repeat' ((first | refine bT ?_ | refine bF ?_ | refine bN ?_ | ((first | refine bD ?_ ?_ | refine bEq ?_ ?_ | refine bNe ?_ ?_) <;> intro hh <;> try (exfalso; omega)) | (refine (e5).callq rfl rfl fun _ h => ?_; subst h) | refine wIn (by omega) ?_ | refine nI (by omega) ?_) <;> conv => whnf))
    exact ⟨k + 1, (meets_id (by (repeat' apply And.intro) <;> first | rfl | exact True.intro | (intro hh; cases hh))), ⟨by omega, all_take hk hin ⟨c4, c5⟩⟩, by omega⟩
  · have : k = b.ss.length := by omega
    subst this
    rw [List.take_length] at hin
    rw [decide_eq_true (show b.ok from ⟨c1, c2, hin, c3⟩)]
    (conv => whnf); (repeat' ((first | refine bT ?_ | refine bF ?_ | refine bN ?_ | ((first | refine bD ?_ ?_ | refine bEq ?_ ?_ | refine bNe ?_ ?_) <;> intro hh <;> try (exfalso; omega)) | refine wIn (by omega) ?_ | refine nI (by omega) ?_) <;> conv => whnf))
    all_goals rfl
theorem k28 (d : Dome) : FnA Try.prog 70 [.agg d.cells] (· = .int .i64 d.chk) := by
  have l1 : (d.bs.map Bolt.av).length = d.bs.length := by simp
  have l2 : (d.gs.map iAV).length = d.gs.length := by simp
  have l3 : (d.rs.map pairAV).length = d.rs.length := by simp
  have l4 : (d.ws.map iAV).length = d.ws.length := by simp
  have hno : ¬ d.ok1 → d.chk = 20 := fun h => if_neg h
  refine fnA 1 ok70 (by simp) ?_
  have e1 := k54 ↑(d.bs.map Bolt.av).length 1 4
  by_cases c1 : 1 ≤ ((d.bs.map Bolt.av).length : Int) ∧ ((d.bs.map Bolt.av).length : Int) ≤ 4
  case neg =>
    rw [decide_eq_false c1] at e1
    rw [hno fun h => c1 (by have := h.1; omega)]
    (conv => whnf); (repeat' ((first | refine bT ?_ | refine bF ?_ | refine bN ?_ | ((first | refine bD ?_ ?_ | refine bEq ?_ ?_ | refine bNe ?_ ?_) <;> intro hh <;> try (exfalso; omega)) | (refine (e1).callq rfl rfl fun _ h => ?_; subst h) | refine wIn (by omega) ?_ | refine nI (by omega) ?_) <;> conv => whnf))
    all_goals rfl
  rw [decide_eq_true c1] at e1
  have e2 := k54 ↑(d.gs.map iAV).length 3 16
  by_cases c2 : 3 ≤ ((d.gs.map iAV).length : Int) ∧ ((d.gs.map iAV).length : Int) ≤ 16
  case neg =>
    rw [decide_eq_false c2] at e2
    rw [hno fun h => c2 (by have := h.2.1; omega)]
    (conv => whnf); (repeat' ((first | refine bT ?_ | refine bF ?_ | refine bN ?_ | ((first | refine bD ?_ ?_ | refine bEq ?_ ?_ | refine bNe ?_ ?_) <;> intro hh <;> try (exfalso; omega)) | (refine (e1).callq rfl rfl fun _ h => ?_; subst h) | (refine (e2).callq rfl rfl fun _ h => ?_; subst h) | refine wIn (by omega) ?_ | refine nI (by omega) ?_) <;> conv => whnf))
    all_goals rfl
  rw [decide_eq_true c2] at e2
  have e3 := k54 d.loss 0 20
  by_cases c3 : 0 ≤ d.loss ∧ d.loss ≤ 20
  case neg =>
    rw [decide_eq_false c3] at e3
    rw [hno fun h => c3 h.2.2.2.1]
    (conv => whnf); (repeat' ((first | refine bT ?_ | refine bF ?_ | refine bN ?_ | ((first | refine bD ?_ ?_ | refine bEq ?_ ?_ | refine bNe ?_ ?_) <;> intro hh <;> try (exfalso; omega)) | (refine (e1).callq rfl rfl fun _ h => ?_; subst h) | (refine (e2).callq rfl rfl fun _ h => ?_; subst h) | (refine (e3).callq rfl rfl fun _ h => ?_; subst h) | refine wIn (by omega) ?_ | refine nI (by omega) ?_) <;> conv => whnf))
    all_goals rfl
  rw [decide_eq_true c3] at e3
  have e4 := k54 ↑(d.rs.map pairAV).length 1 12
  by_cases c4 : 1 ≤ ((d.rs.map pairAV).length : Int) ∧ ((d.rs.map pairAV).length : Int) ≤ 12
  case neg =>
    rw [decide_eq_false c4] at e4
    rw [hno fun h => c4 (by have := h.2.2.2.2.1; omega)]
    (conv => whnf); (repeat' ((first | refine bT ?_ | refine bF ?_ | refine bN ?_ | ((first | refine bD ?_ ?_ | refine bEq ?_ ?_ | refine bNe ?_ ?_) <;> intro hh <;> try (exfalso; omega)) | (refine (e1).callq rfl rfl fun _ h => ?_; subst h) | (refine (e2).callq rfl rfl fun _ h => ?_; subst h) | (refine (e3).callq rfl rfl fun _ h => ?_; subst h) | (refine (e4).callq rfl rfl fun _ h => ?_; subst h) | refine wIn (by omega) ?_ | refine nI (by omega) ?_) <;> conv => whnf))
    all_goals rfl
  rw [decide_eq_true c4] at e4
  by_cases c5 : d.ws.length = d.rs.length
  case neg =>
    rw [hno fun h => c5 h.2.2.2.2.2.2.1]
    (conv => whnf); (repeat' ((first | refine bT ?_ | refine bF ?_ | refine bN ?_ | ((first | refine bD ?_ ?_ | refine bEq ?_ ?_ | refine bNe ?_ ?_) <;> intro hh <;> try (exfalso; omega)) | (refine (e1).callq rfl rfl fun _ h => ?_; subst h) | (refine (e2).callq rfl rfl fun _ h => ?_; subst h) | (refine (e3).callq rfl rfl fun _ h => ?_; subst h) | (refine (e4).callq rfl rfl fun _ h => ?_; subst h) | refine wIn (by omega) ?_ | refine nI (by omega) ?_) <;> conv => whnf))
    all_goals rfl
  have e6 := k54 d.slope 0 500
  by_cases c6 : 0 ≤ d.slope ∧ d.slope ≤ 500
  case neg =>
    rw [decide_eq_false c6] at e6
    rw [hno fun h => c6 h.2.2.2.2.2.2.2.2]
    (conv => whnf); (repeat' ((first | refine bT ?_ | refine bF ?_ | refine bN ?_ | ((first | refine bD ?_ ?_ | refine bEq ?_ ?_ | refine bNe ?_ ?_) <;> intro hh <;> try (exfalso; omega)) | (refine (e1).callq rfl rfl fun _ h => ?_; subst h) | (refine (e2).callq rfl rfl fun _ h => ?_; subst h) | (refine (e3).callq rfl rfl fun _ h => ?_; subst h) | (refine (e4).callq rfl rfl fun _ h => ?_; subst h) | (refine (e6).callq rfl rfl fun _ h => ?_; subst h) | refine wIn (by omega) ?_ | refine nI (by omega) ?_) <;> conv => whnf))
    all_goals rfl
  rw [decide_eq_true c6] at e6
  (conv => whnf); (repeat' ((first | refine bT ?_ | refine bF ?_ | refine bN ?_ | ((first | refine bD ?_ ?_ | refine bEq ?_ ?_ | refine bNe ?_ ?_) <;> intro hh <;> try (exfalso; omega)) | (refine (e1).callq rfl rfl fun _ h => ?_; subst h) | (refine (e2).callq rfl rfl fun _ h => ?_; subst h) | (refine (e3).callq rfl rfl fun _ h => ?_; subst h) | (refine (e4).callq rfl rfl fun _ h => ?_; subst h) | (refine (e6).callq rfl rfl fun _ h => ?_; subst h) | refine wIn (by omega) ?_ | refine nI (by omega) ?_) <;> conv => whnf))
  refine loop_i (α := Nat) (fun k => [(3, .int .i64 k), (1, .own 0 0)]) (fun k => [.box false d.cells]) (fun k => k ≤ d.gs.length ∧ ∀ g ∈ d.gs.take k, 0 ≤ g ∧ g < d.bs.length) (fun k => d.gs.length - k) 0 (meets_id (by (repeat' apply And.intro) <;> first | rfl | exact True.intro | (intro hh; cases hh))) ⟨by omega, by simp⟩ ?_
  rintro k ⟨hk0, hin⟩
  conv => whnf
  refine bD (fun h4 => ?_) (fun h4 => ?_)
  · have hk : k < d.gs.length := by omega
    conv => whnf
    refine iaI (by omega) (by omega) (getD_map iAV d.gs k hk) ?_
    conv => whnf
    refine wIn (by omega) ?_
    conv => whnf
    have e7 := k54 d.gs[k] 0 (↑(d.bs.map Bolt.av).length - 1)
    by_cases c7 : 0 ≤ d.gs[k] ∧ d.gs[k] ≤ (↑(d.bs.map Bolt.av).length - 1 : Int)
    case neg =>
      rw [decide_eq_false c7] at e7
      rw [hno fun h => c7 (by have := h.2.2.1 _ (List.getElem_mem hk); omega)]
      (conv => whnf); (repeat' ((first | refine bT ?_ | refine bF ?_ | refine bN ?_ | ((first | refine bD ?_ ?_ | refine bEq ?_ ?_ | refine bNe ?_ ?_) <;> intro hh <;> try (exfalso; omega)) | (refine (e7).callq rfl rfl fun _ h => ?_; subst h) | refine wIn (by omega) ?_ | refine nI (by omega) ?_) <;> conv => whnf))
      all_goals rfl
    rw [decide_eq_true c7] at e7
    (conv => whnf); (repeat' ((first | refine bT ?_ | refine bF ?_ | refine bN ?_ | ((first | refine bD ?_ ?_ | refine bEq ?_ ?_ | refine bNe ?_ ?_) <;> intro hh <;> try (exfalso; omega)) | (refine (e7).callq rfl rfl fun _ h => ?_; subst h) | refine wIn (by omega) ?_ | refine nI (by omega) ?_) <;> conv => whnf))
    exact ⟨k + 1, (meets_id (by (repeat' apply And.intro) <;> first | rfl | exact True.intro | (intro hh; cases hh))), ⟨by omega, all_take hk hin (by omega)⟩, by omega⟩
  have : k = d.gs.length := by omega
  subst this
  rw [List.take_length] at hin
  (conv => whnf); (repeat' ((first | refine bT ?_ | refine bF ?_ | refine bN ?_ | ((first | refine bD ?_ ?_ | refine bEq ?_ ?_ | refine bNe ?_ ?_) <;> intro hh <;> try (exfalso; omega)) | refine wIn (by omega) ?_ | refine nI (by omega) ?_) <;> conv => whnf))
  refine loop_i (α := Nat) (fun k => [(4, .int .i64 k), (1, .own 0 0)]) (fun k => [.box false d.cells]) (fun k => k ≤ d.rs.length ∧ (∀ s ∈ d.rs.take k, okSpan s.1 s.2 40000) ∧ ∀ w ∈ d.ws.take k, 2 * d.loss ≤ w ∧ w ≤ 2000) (fun k => d.rs.length - k) 0 (meets_id (by (repeat' apply And.intro) <;> first | rfl | exact True.intro | (intro hh; cases hh))) ⟨by omega, by simp, by simp⟩ ?_
  rintro k ⟨hk0, hin2, hin3⟩
  conv => whnf
  refine bD (fun h4 => ?_) (fun h4 => ?_)
  · have hk : k < d.rs.length := by omega
    have hk' : k < d.ws.length := by omega
    conv => whnf
    refine iaI (by omega) (by omega) (getD_map pairAV d.rs k hk) ?_
    conv => whnf
    have e8 := k55 d.rs[k].1 d.rs[k].2 40000
    by_cases c8 : okSpan d.rs[k].1 d.rs[k].2 40000
    case neg =>
      rw [decide_eq_false c8] at e8
      rw [hno fun h => c8 (h.2.2.2.2.2.1 _ (List.getElem_mem hk))]
      (conv => whnf); (repeat' ((first | refine bT ?_ | refine bF ?_ | refine bN ?_ | ((first | refine bD ?_ ?_ | refine bEq ?_ ?_ | refine bNe ?_ ?_) <;> intro hh <;> try (exfalso; omega)) | (refine (e8).callq rfl rfl fun _ h => ?_; subst h) | refine wIn (by omega) ?_ | refine nI (by omega) ?_) <;> conv => whnf))
      all_goals rfl
    rw [decide_eq_true c8] at e8
    (conv => whnf); (repeat' ((first | refine bT ?_ | refine bF ?_ | refine bN ?_ | ((first | refine bD ?_ ?_ | refine bEq ?_ ?_ | refine bNe ?_ ?_) <;> intro hh <;> try (exfalso; omega)) | (refine (e8).callq rfl rfl fun _ h => ?_; subst h) | refine wIn (by omega) ?_ | refine nI (by omega) ?_) <;> conv => whnf))
    refine iaI (by omega) (by omega) (getD_map iAV d.ws k hk') ?_
    (conv => whnf); (repeat' ((first | refine bT ?_ | refine bF ?_ | refine bN ?_ | ((first | refine bD ?_ ?_ | refine bEq ?_ ?_ | refine bNe ?_ ?_) <;> intro hh <;> try (exfalso; omega)) | refine wIn (by omega) ?_ | refine nI (by omega) ?_) <;> conv => whnf))
    have e9 := k54 d.ws[k] (2 * d.loss) 2000
    by_cases c9 : 2 * d.loss ≤ d.ws[k] ∧ d.ws[k] ≤ 2000
    case neg =>
      rw [decide_eq_false c9] at e9
      rw [hno fun h => c9 (h.2.2.2.2.2.2.2.1 _ (List.getElem_mem hk'))]
      (conv => whnf); (repeat' ((first | refine bT ?_ | refine bF ?_ | refine bN ?_ | ((first | refine bD ?_ ?_ | refine bEq ?_ ?_ | refine bNe ?_ ?_) <;> intro hh <;> try (exfalso; omega)) | (refine (e9).callq rfl rfl fun _ h => ?_; subst h) | refine wIn (by omega) ?_ | refine nI (by omega) ?_) <;> conv => whnf))
      all_goals rfl
    rw [decide_eq_true c9] at e9
    (conv => whnf); (repeat' ((first | refine bT ?_ | refine bF ?_ | refine bN ?_ | ((first | refine bD ?_ ?_ | refine bEq ?_ ?_ | refine bNe ?_ ?_) <;> intro hh <;> try (exfalso; omega)) | (refine (e9).callq rfl rfl fun _ h => ?_; subst h) | refine wIn (by omega) ?_ | refine nI (by omega) ?_) <;> conv => whnf))
    exact ⟨k + 1, (meets_id (by (repeat' apply And.intro) <;> first | rfl | exact True.intro | (intro hh; cases hh))), ⟨by omega, all_take hk hin2 c8, all_take hk' hin3 c9⟩, by omega⟩
  have : k = d.rs.length := by omega
  subst this
  rw [List.take_length] at hin2
  rw [← c5, List.take_length] at hin3
  have hok : d.ok1 := ⟨by omega, by omega, hin, c3, by omega, hin2, c5, hin3, c6⟩
  (conv => whnf); (repeat' ((first | refine bT ?_ | refine bF ?_ | refine bN ?_ | ((first | refine bD ?_ ?_ | refine bEq ?_ ?_ | refine bNe ?_ ?_) <;> intro hh <;> try (exfalso; omega)) | refine wIn (by omega) ?_ | refine nI (by omega) ?_) <;> conv => whnf))
  refine loop_i (α := Nat) (fun k => [(5, .int .i64 k), (1, .own 0 0)]) (fun k => [.box false d.cells]) (fun k => k ≤ d.bs.length ∧ ∀ b ∈ d.bs.take k, b.ok) (fun k => d.bs.length - k) 0 (meets_id (by (repeat' apply And.intro) <;> first | rfl | exact True.intro | (intro hh; cases hh))) ⟨by omega, by simp⟩ ?_
  rintro k ⟨hk0, hin4⟩
  conv => whnf
  refine bD (fun h4 => ?_) (fun h4 => ?_)
  · have hk : k < d.bs.length := by omega
    conv => whnf
    refine iaI (by omega) (by omega) (getD_map Bolt.av d.bs k hk) ?_
    conv => whnf
    have e8 := k56 d.bs[k]
    by_cases c8 : d.bs[k].ok
    case neg =>
      rw [decide_eq_false c8] at e8
      rw [show d.chk = 21 from by unfold Dome.chk; rw [if_pos hok, if_neg fun h => c8 (h _ (List.getElem_mem hk))]]
      (conv => whnf); (repeat' ((first | refine bT ?_ | refine bF ?_ | refine bN ?_ | ((first | refine bD ?_ ?_ | refine bEq ?_ ?_ | refine bNe ?_ ?_) <;> intro hh <;> try (exfalso; omega)) | (refine (e8).callq rfl rfl fun _ h => ?_; subst h) | refine wIn (by omega) ?_ | refine nI (by omega) ?_) <;> conv => whnf))
      all_goals rfl
    rw [decide_eq_true c8] at e8
    (conv => whnf); (repeat' ((first | refine bT ?_ | refine bF ?_ | refine bN ?_ | ((first | refine bD ?_ ?_ | refine bEq ?_ ?_ | refine bNe ?_ ?_) <;> intro hh <;> try (exfalso; omega)) | (refine (e8).callq rfl rfl fun _ h => ?_; subst h) | refine wIn (by omega) ?_ | refine nI (by omega) ?_) <;> conv => whnf))
    exact ⟨k + 1, (meets_id (by (repeat' apply And.intro) <;> first | rfl | exact True.intro | (intro hh; cases hh))), ⟨by omega, all_take hk hin4 c8⟩, by omega⟩
  have : k = d.bs.length := by omega
  subst this
  rw [List.take_length] at hin4
  rw [show d.chk = 0 from by unfold Dome.chk; rw [if_pos hok, if_pos (show d.okB from hin4)]]
  (conv => whnf); (repeat' ((first | refine bT ?_ | refine bF ?_ | refine bN ?_ | ((first | refine bD ?_ ?_ | refine bEq ?_ ?_ | refine bNe ?_ ?_) <;> intro hh <;> try (exfalso; omega)) | refine wIn (by omega) ?_ | refine nI (by omega) ?_) <;> conv => whnf))
  all_goals rfl
theorem chk_ok {d : Dome} (h : d.ok) : d.chk = 0 := by unfold Dome.chk; rw [if_pos h.1, if_pos h.2]
theorem tries_k {b : Bolt} {k : Nat} {q : Int × Int} (h : b.tries[k]? = some q) : q = (b.lo + (k : Nat), (untrue b.ss (b.lo + (k : Nat)) : Int)) ∧ k < b.nt := by
  have h2 : k < b.nt := by
    have := (List.getElem?_eq_some_iff.1 h).1
    simpa [Bolt.tries] using this
  simp [Bolt.tries, h2] at h
  exact ⟨h.symm, h2⟩
theorem chk_pos {d : Dome} (h : ¬ d.ok) : d.chk = 20 ∨ d.chk = 21 := by
  unfold Dome.chk
  by_cases h1 : d.ok1
  · rw [if_pos h1]
    by_cases h2 : d.okB
    · exact absurd ⟨h1, h2⟩ h
    · rw [if_neg h2]; exact .inr rfl
  · rw [if_neg h1]; exact .inl rfl
/-- what a question about a bolt is refused with -/
def Dome.no (d : Dome) (i : Int) : Int := if d.ok then (if 0 ≤ i ∧ i < d.bs.length then 0 else 1) else d.chk
/-- the number is one that the bolt can have -/
def Bolt.can (b : Bolt) (x : Int) : Bool := decide (b.lo ≤ x ∧ x ≤ b.hi) && decide ((untrue b.ss x : Int) ≤ b.wrong)
theorem k44 (b : Bolt) (x : Int) (hok : b.ok) : FnA Try.prog 56 [.agg b.av, .int .i64 x] (· = .bool (b.can x)) := by
  have h1 := hok.1
  unfold okSpan at h1
  refine fnA 1 ok56 (by simp) ?_
  have e54 := k54 x b.lo b.hi
  by_cases c : b.lo ≤ x ∧ x ≤ b.hi
  case neg =>
    unfold Bolt.can
    rw [decide_eq_false c] at e54 ⊢
    (conv => whnf); (repeat' ((first | refine bT ?_ | refine bF ?_ | refine bN ?_ | ((first | refine bD ?_ ?_ | refine bEq ?_ ?_ | refine bNe ?_ ?_) <;> intro hh <;> try (exfalso; omega)) | (refine (e54).callq rfl rfl fun _ h => ?_; subst h) | refine wIn (by omega) ?_ | refine nI (by omega) ?_) <;> conv => whnf))
    all_goals rfl
  unfold Bolt.can
  rw [decide_eq_true c] at e54 ⊢
  (conv => whnf); (repeat' ((first | refine bT ?_ | refine bF ?_ | refine bN ?_ | ((first | refine bD ?_ ?_ | refine bEq ?_ ?_ | refine bNe ?_ ?_) <;> intro hh <;> try (exfalso; omega)) | (refine (e54).callq rfl rfl fun _ h => ?_; subst h) | (refine (k66 b x hok (by omega)).lendq rfl fun _ h => ?_; subst h; refine ⟨rfl, ?_⟩) | refine wIn (by omega) ?_ | refine nI (by omega) ?_) <;> conv => whnf))
  all_goals simp [*]
/-- the numbers that the bolt can have, of the first n of its Stretch -/
def Bolt.numsN (b : Bolt) (n : Nat) : List Int := ((List.range n).map fun k => b.lo + (k : Nat)).filter b.can
def Bolt.nums (b : Bolt) : List Int := b.numsN b.nt
theorem numsN_succ (b : Bolt) (n : Nat) : b.numsN (n + 1) = if b.can (b.lo + (n : Nat)) then b.numsN n ++ [b.lo + (n : Nat)] else b.numsN n := by
  unfold Bolt.numsN
  rw [List.range_succ, List.map_append, List.filter_append]
  simp only [List.map_cons, List.map_nil, List.filter_cons, List.filter_nil]; split <;> simp
theorem numsN_le (b : Bolt) (n : Nat) : (b.numsN n).length ≤ n := by
  unfold Bolt.numsN
  refine Nat.le_trans (List.length_filter_le _ _) ?_; simp
/-- a dome with the numbers of its bolts -/
structure Opn where
  d : Dome
  st : List (List Int)
def rowAV (l : List Int) : List AV := [.isl (l.map iAV)]
def Opn.cells (o : Opn) : List AV := [.isl (o.d.bs.map Bolt.av), .isl (o.d.gs.map iAV), .int .i64 o.d.loss, .isl (o.d.rs.map pairAV), .isl (o.d.ws.map iAV), .int .i64 o.d.slope, .isl (o.st.map rowAV)]
structure Opn.ok (o : Opn) : Prop where
  d : o.d.ok
  len : o.st.length = o.d.bs.length
  row : ∀ l ∈ o.st, 1 ≤ l.length ∧ l.length ≤ 100 ∧ ∀ x ∈ l, 0 ≤ x ∧ x ≤ 60
def sumF (f : Int → Int) (l : List Int) : Int := (l.map f).sum
theorem row_at {l : List Int} {i : Nat} (hi : i < l.length) : (l.map iAV).getD i [] = [.int .i64 (l.getD i 0)] := by
  rw [getD_map iAV l i hi]; simp [iAV, List.getD_eq_getElem?_getD, hi]
def inS (s : Int × Int) (n : Int) : Bool := decide (s.1 ≤ n ∧ n ≤ s.2)
/-- how many gores are of a bolt -/
def Opn.many (o : Opn) (k : Nat) : Nat := (o.d.gs.filter fun g => g == (k : Int)).length
theorem filter_len_yes {p : Int → Bool} {l : List Int} {k : Nat} (hk : k < l.length) (h : p l[k] = true) : (((l.take (k + 1)).filter p).length : Int) = ((l.take k).filter p).length + 1 := by
  rw [List.take_succ_eq_append_getElem hk, List.filter_append]; simp [h]
theorem filter_len_no {p : Int → Bool} {l : List Int} {k : Nat} (hk : k < l.length) (h : p l[k] = false) : (((l.take (k + 1)).filter p).length : Int) = ((l.take k).filter p).length := by
  rw [List.take_succ_eq_append_getElem hk, List.filter_append]; simp [h]
def kAV (L : List Int) : List AV := L.map fun x => .int .i64 x
def tAV (L : List Int) : List AV := L.map fun _ => .bool true
def ins (L : List Int) (x : Int) : List Int := if x ∈ L then L else L ++ [x]
theorem mem_ins {L : List Int} {x y : Int} : y ∈ ins L x ↔ y ∈ L ∨ y = x := by
  unfold ins
  split
  · rename_i h; constructor
    · exact .inl
    · rintro (h1 | rfl)
      · exact h1
      · exact h
  · simp
theorem findK_ints (x : Int) : ∀ (L : List Int) (i : Nat), ∃ r, findK .int (.int .i64 x) (kAV L) i = some r ∧ ((r = none ∧ x ∉ L) ∨ ∃ j, r = some j ∧ x ∈ L)
  | [], i => ⟨none, rfl, .inl ⟨rfl, by simp⟩⟩
  | y :: L, i => by
    have hq : keq .int (.int .i64 x) (.int .i64 y) = some (x == y) := rfl
    by_cases h : x = y
    · subst h
      exact ⟨some i, by simp [kAV, findK, hq], .inr ⟨i, rfl, by simp⟩⟩
    · obtain ⟨r, h1, h2⟩ := findK_ints x L (i + 1)
      have hq' : keq .int (.int .i64 x) (.int .i64 y) = some false := by rw [hq]; simp [h]
      refine ⟨r, by simpa [kAV, findK, hq'] using h1, ?_⟩
      rcases h2 with ⟨h2, h3⟩ | ⟨j, h2, h3⟩
      · exact .inl ⟨h2, by simp [h, h3]⟩
      · exact .inr ⟨j, h2, by simp [h3]⟩
theorem set_true (L : List Int) (j : Nat) : (tAV L).set j (.bool true) = tAV L := by
  apply List.ext_getElem (by simp)
  intro n h1 h2
  rw [List.getElem_set]
  split
  · simp [tAV]
  · rfl
theorem mput_ins (L : List Int) (x : Int) : mput .int (kAV L) (tAV L) (.int .i64 x) (.bool true) = some (kAV (ins L x), tAV (ins L x)) := by
  obtain ⟨r, h1, h2⟩ := findK_ints x L 0
  unfold mput ins
  have hk : keyV .int (.int .i64 x) = true := rfl
  rcases h2 with ⟨rfl, h2⟩ | ⟨j, rfl, h2⟩
  · rw [hk, h1, if_neg h2]; simp [kAV, tAV]
  · rw [hk, h1, if_pos h2]; simp only [set_true]
theorem leftN_lt {seen : List Nat} {n j : Nat} (h : j ∈ leftN seen n) : (leftN (seen ++ [j]) n).length < (leftN seen n).length := by
  obtain ⟨h1, h2⟩ := leftN_mem.1 h
  unfold leftN
  refine Go.filter_lt _ _ (fun x hx => ?_) j ?_ ?_ _ (List.mem_range.2 h1)
  · simp only [Bool.not_eq_true'] at hx ⊢
    cases hq : memN seen x with
    | false => rfl
    | true =>
      have := memN_iff.1 hq
      have h3 : memN (seen ++ [j]) x = true := memN_iff.2 (by simp [this])
      rw [h3] at hx; cases hx
  · simp only [Bool.not_eq_true']
    cases hq : memN seen j with
    | false => rfl
    | true => exact absurd (memN_iff.1 hq) h2
  · have : memN (seen ++ [j]) j = true := memN_iff.2 (by simp)
    simp [this]
theorem numsN_more (b : Bolt) (k : Nat) : ∀ j, ∃ l, b.numsN (k + j) = b.numsN k ++ l
  | 0 => ⟨[], by simp⟩
  | j + 1 => by
    obtain ⟨l, h⟩ := numsN_more b k j
    rw [← Nat.add_assoc, numsN_succ, h]
    split
    · exact ⟨l ++ [b.lo + ((k + j : Nat) : Int)], by simp⟩
    · exact ⟨l, rfl⟩
theorem nums_at (b : Bolt) {k : Nat} (hk : k < b.nt) (hc : b.can (b.lo + (k : Nat)) = true) : (b.nums.map iAV)[(b.numsN k).length]? = some [.int .i64 (b.lo + (k : Nat))] := by
  obtain ⟨l, h⟩ := numsN_more b (k + 1) (b.nt - (k + 1))
  rw [show k + 1 + (b.nt - (k + 1)) = b.nt from by omega, numsN_succ, if_pos hc] at h
  unfold Bolt.nums
  rw [h]
  simp [iAV]
theorem can_iff (b : Bolt) {k : Nat} (hk : k < b.nt) (h1 : b.lo ≤ b.hi) : b.can (b.lo + (k : Nat)) = decide ((untrue b.ss (b.lo + (k : Nat)) : Int) ≤ b.wrong) := by
  have hn : (b.nt : Int) = b.hi + 1 - b.lo := by unfold Bolt.nt; omega
  unfold Bolt.can
  rw [decide_eq_true (show b.lo ≤ b.lo + (k : Nat) ∧ b.lo + (k : Nat) ≤ b.hi by omega), Bool.true_and]
theorem i92 (b : Bolt) (hok : b.ok) : ItA Try.prog 141 [.ipt b.av] (b.nums.map iAV) := by
  have h1 := hok.1
  unfold okSpan at h1
  refine itA 1 ok141 (by simp) ?_
  (conv => whnf); (repeat' ((first | refine bT ?_ | refine bF ?_ | refine bN ?_ | ((first | refine bD ?_ ?_ | refine bEq ?_ ?_ | refine bNe ?_ ?_) <;> intro hh <;> try (exfalso; omega)) | (refine (k60 b).callzq rfl rfl fun _ h => ?_; subst h) | refine wIn (by omega) ?_ | refine nI (by omega) ?_) <;> conv => whnf))
  refine rng_y (α := List Int × Bool) (b.tries.map pairAV) [0] [(2, .own 0 0), (1, .ipt b.av)] (fun a => [.box false [.yld]]) (fun a => a.1.length) (fun a => a.2)
    (fun k a => a = (b.numsN k, false)) ([], false) rfl rfl rfl bd145 (i75 b hok) rfl (meets_id (by (repeat' apply And.intro) <;> first | rfl | exact True.intro | (intro hh; cases hh))) rfl ⟨rfl, rfl⟩ (by simp [Bolt.numsN]) (fun v hv => by obtain ⟨q, _, rfl⟩ := List.mem_map.1 hv; rfl) ?_ ?_
  · rintro k v a hv rfl
    obtain ⟨q, hq, rfl⟩ : ∃ q, b.tries[k]? = some q ∧ pairAV q = v := by simpa using hv
    obtain ⟨rfl, hkn⟩ := tries_k hq
    have hcn := can_iff b hkn h1.2.1
    have hs := numsN_succ b k
    cases hc : b.can (b.lo + (k : Nat)) with
    | true =>
      rw [hc] at hcn hs
      rw [if_pos rfl] at hs
      have hu := of_decide_eq_true hcn.symm
      (conv => whnf); (repeat' ((first | refine bT ?_ | refine bF ?_ | refine bN ?_ | ((first | refine bD ?_ ?_ | refine bEq ?_ ?_ | refine bNe ?_ ?_) <;> intro hh <;> try (exfalso; omega)) | refine wIn (by omega) ?_ | refine nI (by omega) ?_) <;> conv => whnf))
      refine yI rfl (nums_at b hkn hc) rfl ?_ ?_
      · (conv => whnf); (repeat' ((first | refine bT ?_ | refine bF ?_ | refine bN ?_ | ((first | refine bD ?_ ?_ | refine bEq ?_ ?_ | refine bNe ?_ ?_) <;> intro hh <;> try (exfalso; omega)) | refine wIn (by omega) ?_ | refine nI (by omega) ?_) <;> conv => whnf))
        exact ⟨(b.numsN (k + 1), false), by rw [hs]; dsimp only; rw [List.length_append]; exact (meets_id (by (repeat' apply And.intro) <;> first | rfl | exact True.intro | (intro hh; cases hh))), rfl⟩
      · (conv => whnf); (repeat' ((first | refine bT ?_ | refine bF ?_ | refine bN ?_ | ((first | refine bD ?_ ?_ | refine bEq ?_ ?_ | refine bNe ?_ ?_) <;> intro hh <;> try (exfalso; omega)) | refine wIn (by omega) ?_ | refine nI (by omega) ?_) <;> conv => whnf))
        exact ⟨[.box false [.yld]], _, _, (meets_id (by (repeat' apply And.intro) <;> first | rfl | exact True.intro | (intro hh; cases hh))), .inl rfl⟩
    | false =>
      rw [hc] at hcn hs
      rw [if_neg (by simp)] at hs
      have hu := of_decide_eq_false hcn.symm
      (conv => whnf); (repeat' ((first | refine bT ?_ | refine bF ?_ | refine bN ?_ | ((first | refine bD ?_ ?_ | refine bEq ?_ ?_ | refine bNe ?_ ?_) <;> intro hh <;> try (exfalso; omega)) | refine wIn (by omega) ?_ | refine nI (by omega) ?_) <;> conv => whnf))
      exact ⟨(b.numsN (k + 1), false), by rw [hs]; exact (meets_id (by (repeat' apply And.intro) <;> first | rfl | exact True.intro | (intro hh; cases hh))), rfl⟩
  · rintro a rfl
    rw [tries_len]
    (conv => whnf); (repeat' ((first | refine bT ?_ | refine bF ?_ | refine bN ?_ | ((first | refine bD ?_ ?_ | refine bEq ?_ ?_ | refine bNe ?_ ?_) <;> intro hh <;> try (exfalso; omega)) | refine wIn (by omega) ?_ | refine nI (by omega) ?_) <;> conv => whnf))
    exact .inr (by simp [Bolt.nums])
theorem k88 (b : Bolt) : FnA Try.prog 131 [.agg b.av] (· = .fn 141 [.ipt b.av]) := by
  refine fnA 1 ok131 (by simp) ?_
  (conv => whnf); (repeat' ((first | refine bT ?_ | refine bF ?_ | refine bN ?_ | ((first | refine bD ?_ ?_ | refine bEq ?_ ?_ | refine bNe ?_ ?_) <;> intro hh) | refine wIn (by omega) ?_ | refine nI (by omega) ?_) <;> conv => whnf))
  all_goals rfl
theorem nums_le (b : Bolt) (hok : b.ok) : b.nums.length ≤ 61 := by
  have h1 := hok.1
  unfold okSpan at h1
  have h2 := numsN_le b b.nt
  have hn : (b.nt : Int) = b.hi + 1 - b.lo := by unfold Bolt.nt; omega
  unfold Bolt.nums; omega
theorem k91 (b : Bolt) (hok : b.ok) : FnA Try.prog 140 [.nils, .fn 141 [.ipt b.av]] (· = .isl (b.nums.map iAV)) := by
  have hle := nums_le b hok
  refine fnA 4 ok140 (by simp) ?_
  conv => whnf
  refine rng_i (α := List Int) (b.nums.map iAV) [0] [(2, .own 0 0)] (fun l => [.box false [.row 3], .fresh, .fresh, .row false 3 1 (l.map iAV)])
    (fun k l => l = b.nums.take k) [] rfl rfl rfl bd141 (i92 b hok) rfl (meets_nil 3 (by (repeat' apply And.intro) <;> first | rfl | exact True.intro | (intro hh; cases hh))) rfl (by simp) (fun v hv => by obtain ⟨q, _, rfl⟩ := List.mem_map.1 hv; rfl) ?_ ?_
  · rintro k v l hv rfl
    obtain ⟨q, hq, rfl⟩ : ∃ q, b.nums[k]? = some q ∧ iAV q = v := by simpa using hv
    have hk : k < b.nums.length := (List.getElem?_eq_some_iff.1 hq).1
    have hlt : (b.nums.take k).length ≤ 61 := by rw [List.length_take]; omega
    (conv => whnf); (repeat' ((first | refine bT ?_ | refine bF ?_ | refine bN ?_ | ((first | refine bD ?_ ?_ | refine bEq ?_ ?_ | refine bNe ?_ ?_) <;> intro hh <;> try (exfalso; omega)) | refine wIn (by omega) ?_ | refine nI (by omega) ?_) <;> conv => whnf))
    refine apI (by simp [AV.one]) (by simp; omega) ?_
    (conv => whnf); (repeat' ((first | refine bT ?_ | refine bF ?_ | refine bN ?_ | ((first | refine bD ?_ ?_ | refine bEq ?_ ?_ | refine bNe ?_ ?_) <;> intro hh <;> try (exfalso; omega)) | refine wIn (by omega) ?_ | refine nI (by omega) ?_) <;> conv => whnf))
    refine ⟨b.nums.take (k + 1), ?_, rfl⟩
    have e : (b.nums.take (k + 1)).map iAV = (b.nums.take k).map iAV ++ [[.int .i64 q]] := by
      rw [List.take_succ_eq_append_getElem hk]
      have : b.nums[k] = q := by rw [List.getElem?_eq_getElem hk] at hq; exact Option.some.inj hq
      simp [iAV, this]
    rw [e]
    exact (meets_ren 3 2 (by (repeat' apply And.intro) <;> first | rfl | exact True.intro | (intro hh; cases hh)))
  · rintro l rfl
    rw [show (b.nums.map iAV).length = b.nums.length by simp, List.take_length]
    (conv => whnf); (repeat' ((first | refine bT ?_ | refine bF ?_ | refine bN ?_ | ((first | refine bD ?_ ?_ | refine bEq ?_ ?_ | refine bNe ?_ ?_) <;> intro hh <;> try (exfalso; omega)) | refine wIn (by omega) ?_ | refine nI (by omega) ?_) <;> conv => whnf))
    all_goals rfl
theorem k87 (b : Bolt) (hok : b.ok) : FnA Try.prog 130 [.fn 141 [.ipt b.av]] (· = .isl (b.nums.map iAV)) := by
  refine fnA 1 ok130 (by simp) ?_
  conv => whnf
  refine (k91 b hok).callzn rfl rfl (fun r (hr : r = _) => ?_); subst hr
  (conv => whnf); (repeat' ((first | refine bT ?_ | refine bF ?_ | refine bN ?_ | ((first | refine bD ?_ ?_ | refine bEq ?_ ?_ | refine bNe ?_ ?_) <;> intro hh <;> try (exfalso; omega)) | refine wIn (by omega) ?_ | refine nI (by omega) ?_) <;> conv => whnf))
  all_goals rfl
def Dome.opn (d : Dome) : Opn := ⟨d, d.bs.map Bolt.nums⟩
/-- there is a truth -/
def Dome.has (d : Dome) : Bool := d.bs.all fun b => !b.nums.isEmpty
def zeroO : List AV := [.isl [], .isl [], .int .i64 0, .isl [], .isl [], .int .i64 0, .isl []]
theorem numsN_in (b : Bolt) (n : Nat) : ∀ x ∈ b.numsN n, b.can x = true ∧ b.lo ≤ x ∧ x < b.lo + n := fun x hx => by
  unfold Bolt.numsN at hx
  simp only [List.mem_filter, List.mem_map, List.mem_range] at hx
  obtain ⟨⟨k, hk, rfl⟩, hc⟩ := hx
  exact ⟨hc, by omega, by omega⟩
theorem nums_in {b : Bolt} (hok : b.ok) : ∀ x ∈ b.nums, 0 ≤ x ∧ x ≤ 60 := fun x hx => by
  have h1 := hok.1
  unfold okSpan at h1
  have hn : (b.nt : Int) = b.hi + 1 - b.lo := by unfold Bolt.nt; omega
  have := numsN_in b b.nt x hx
  omega
def openAV (d : Dome) : AV := if d.has then .tup [.agg d.opn.cells, .int .i64 0] else .tup [.agg zeroO, .int .i64 3]
theorem k69 (d : Dome) (hok : d.ok) : FnA Try.prog 106 [.agg d.cells] (· = openAV d) := by
  have l1 : (d.bs.map Bolt.av).length = d.bs.length := by simp
  have hbl := hok.1.1
  refine fnA 8 ok106 (by simp) ?_
  conv => whnf
  refine loop_i (α := Nat) (fun k => [(13, .int .i64 k), (12, .int .i64 ↑(d.bs.map Bolt.av).length), (11, .isl (d.bs.map Bolt.av)), (4, .own 2 0), (2, .own 1 0), (1, .own 0 0)])
    (fun k => [.box false d.cells, .box false [.nils, .nils, .int .i64 0, .nils, .nils, .int .i64 0, .nils], .box false [.isl (d.bs.map Bolt.av), .isl (d.gs.map iAV), .int .i64 d.loss, .isl (d.rs.map pairAV), .isl (d.ws.map iAV), .int .i64 d.slope, .row 7], .fresh, .fresh, .fresh, .fresh, .row false 23 1 (((d.bs.take k).map Bolt.nums).map rowAV)])
    (fun k => k ≤ d.bs.length ∧ ∀ b ∈ d.bs.take k, (!b.nums.isEmpty) = true) (fun k => d.bs.length - k) 0 (meets_nil 7 (by (repeat' apply And.intro) <;> first | rfl | exact True.intro | (intro hh; cases hh))) ⟨by omega, by simp⟩ ?_
  rintro k ⟨hk0, hin⟩
  conv => whnf
  refine bD (fun h4 => ?_) (fun h4 => ?_)
  · have hk : k < d.bs.length := by omega
    have hb := hok.2 _ (List.getElem_mem hk)
    have hgb := getD_map Bolt.av d.bs k hk
    have htk : d.bs.take (k + 1) = d.bs.take k ++ [d.bs[k]] := List.take_succ_eq_append_getElem hk
    have hmem : d.bs[k] ∈ d.bs := List.getElem_mem hk
    generalize d.bs[k] = b at *
    have hll : (b.nums.map iAV).length = b.nums.length := by simp
    have hlt : (d.bs.take k).length ≤ 4 := by rw [List.length_take]; omega
    conv => whnf
    refine iaI (by omega) (by omega) hgb ?_
    (conv => whnf); (repeat' ((first | refine bT ?_ | refine bF ?_ | refine bN ?_ | ((first | refine bD ?_ ?_ | refine bEq ?_ ?_ | refine bNe ?_ ?_) <;> intro hh <;> try (exfalso; omega)) | (refine (k88 b).callzq rfl rfl fun _ h => ?_; subst h) | (refine (k87 b hb).callzq rfl rfl fun _ h => ?_; subst h) | refine wIn (by omega) ?_ | refine nI (by omega) ?_) <;> conv => whnf))
    · have hno : d.has = false := by
        unfold Dome.has
        rw [List.all_eq_false]
        refine ⟨b, hmem, ?_⟩
        have : b.nums = [] := List.eq_nil_of_length_eq_zero (by omega)
        simp [this]
      unfold openAV
      rw [hno]
      rfl
    · have hne : (!b.nums.isEmpty) = true := by
        cases hn : b.nums with
        | nil => rw [hn] at hh; simp at hh
        | cons x xs => simp
      refine apI (by simp [AV.one]) (by simp; omega) ?_
      (conv => whnf); (repeat' ((first | refine bT ?_ | refine bF ?_ | refine bN ?_ | ((first | refine bD ?_ ?_ | refine bEq ?_ ?_ | refine bNe ?_ ?_) <;> intro hh <;> try (exfalso; omega)) | refine wIn (by omega) ?_ | refine nI (by omega) ?_) <;> conv => whnf))
      refine ⟨k + 1, ?_, ⟨by omega, ?_⟩, by omega⟩
      · have e : ((d.bs.take (k + 1)).map Bolt.nums).map rowAV = ((d.bs.take k).map Bolt.nums).map rowAV ++ [[.isl (b.nums.map iAV)]] := by rw [htk]; simp [rowAV]
        rw [e]
        exact (meets_ren 7 6 (by (repeat' apply And.intro) <;> first | rfl | exact True.intro | (intro hh; cases hh)))
      · rw [htk]
        intro x hx
        rcases List.mem_append.1 hx with hx | hx
        · exact hin x hx
        · simp only [List.mem_singleton] at hx; subst hx; exact hne
  · have : k = d.bs.length := by omega
    subst this
    rw [List.take_length] at hin ⊢
    have hyes : d.has = true := List.all_eq_true.2 hin
    unfold openAV
    rw [hyes]
    (conv => whnf); (repeat' ((first | refine bT ?_ | refine bF ?_ | refine bN ?_ | ((first | refine bD ?_ ?_ | refine bEq ?_ ?_ | refine bNe ?_ ?_) <;> intro hh <;> try (exfalso; omega)) | refine wIn (by omega) ?_ | refine nI (by omega) ?_) <;> conv => whnf))
    all_goals rfl
theorem no_ok {d : Dome} {i : Int} (h : d.no i = 0) : d.ok ∧ 0 ≤ i ∧ i < d.bs.length := by
  unfold Dome.no at h
  by_cases hok : d.ok
  · rw [if_pos hok] at h
    by_cases hi : 0 ≤ i ∧ i < d.bs.length
    · exact ⟨hok, hi⟩
    · rw [if_neg hi] at h; omega
  · rw [if_neg hok] at h
    have := chk_pos hok; omega
theorem k46 (d : Dome) (i : Int) : FnA Try.prog 81 [.agg d.cells, .isl (d.bs.map Bolt.av), .int .i64 i] (· = if d.no i = 0 then openAV d else .tup [.agg zeroO, .int .i64 (d.no i)]) := by
  have e := k59 d i
  change FnA Try.prog 108 _ (· = .int .i64 (d.no i)) at e
  refine fnA 7 ok81 (by simp) ?_
  by_cases hno : d.no i = 0
  · obtain ⟨hok, _⟩ := no_ok hno
    rw [hno] at e ⊢
    rw [if_pos rfl]
    have e2 := k69 d hok
    unfold openAV at e2 ⊢
    cases hh : d.has with
    | true =>
      simp only [hh, if_true] at e2 ⊢
      (conv => whnf); (repeat' ((first | refine bT ?_ | refine bF ?_ | refine bN ?_ | ((first | refine bD ?_ ?_ | refine bEq ?_ ?_ | refine bNe ?_ ?_) <;> intro hh <;> try (exfalso; omega)) | (refine (e).lendq rfl fun _ h => ?_; subst h; refine ⟨rfl, ?_⟩) | (refine (e2).callzq rfl rfl fun _ h => ?_; subst h) | refine wIn (by omega) ?_ | refine nI (by omega) ?_) <;> conv => whnf))
      all_goals rfl
    | false =>
      simp only [hh, Bool.false_eq_true, if_false] at e2 ⊢
      (conv => whnf); (repeat' ((first | refine bT ?_ | refine bF ?_ | refine bN ?_ | ((first | refine bD ?_ ?_ | refine bEq ?_ ?_ | refine bNe ?_ ?_) <;> intro hh <;> try (exfalso; omega)) | (refine (e).lendq rfl fun _ h => ?_; subst h; refine ⟨rfl, ?_⟩) | (refine (e2).callzq rfl rfl fun _ h => ?_; subst h) | refine wIn (by omega) ?_ | refine nI (by omega) ?_) <;> conv => whnf))
      all_goals rfl
  · rw [if_neg hno]
    (conv => whnf); (repeat' ((first | refine bT ?_ | refine bF ?_ | refine bN ?_ | ((first | refine bD ?_ ?_ | refine bEq ?_ ?_ | refine bNe ?_ ?_) <;> intro hh <;> try (exfalso; omega)) | (refine (e).lendq rfl fun _ h => ?_; subst h; refine ⟨rfl, ?_⟩) | refine wIn (by omega) ?_ | refine nI (by omega) ?_) <;> conv => whnf))
    all_goals rfl
/-- the error of a question about a bolt, about a row, about the dome -/
def Dome.eB (d : Dome) (i : Int) : Int := if d.no i = 0 then (if d.has then 0 else 3) else d.no i
theorem eB_ok {d : Dome} {i : Int} (h : d.eB i = 0) : d.ok ∧ d.has = true ∧ 0 ≤ i ∧ i < d.bs.length := by
  unfold Dome.eB at h
  split at h
  · rename_i h1
    obtain ⟨h2, h3⟩ := no_ok h1
    cases hh : d.has with
    | true => exact ⟨h2, rfl, h3⟩
    | false => rw [hh] at h; simp at h
  · omega
def opnAV (d : Dome) (e : Int) : AV := if e = 0 then .tup [.agg d.opn.cells, .int .i64 0] else .tup [.agg zeroO, .int .i64 e]
theorem k46' (d : Dome) (i : Int) : FnA Try.prog 81 [.agg d.cells, .isl (d.bs.map Bolt.av), .int .i64 i] (· = opnAV d (d.eB i)) := by
  have := k46 d i
  unfold opnAV Dome.eB
  unfold openAV at this
  by_cases h : d.no i = 0
  · cases hh : d.has <;> simpa [h, hh] using this
  · simpa [h] using this
theorem k18 (d : Dome) (k : Nat) (h : d.eB k = 0) (hk : k < d.bs.length) : FnA Try.prog 48 [.agg d.cells, .int .i64 k] (· = .tup [.isl (d.bs[k].nums.map iAV), .int .i64 0]) := by
  have e := k46' d k
  unfold opnAV at e
  rw [if_pos h] at e
  obtain ⟨hok, hh, _⟩ := eB_ok h
  have hl : (d.opn.st.map rowAV).length = d.bs.length := by simp [Dome.opn]
  have hg : (d.opn.st.map rowAV).getD k [] = rowAV d.bs[k].nums := by simp [Dome.opn, List.getD_eq_getElem?_getD, hk]
  refine fnA 7 ok48 (by simp) ?_
  (conv => whnf); (repeat' ((first | refine bT ?_ | refine bF ?_ | refine bN ?_ | ((first | refine bD ?_ ?_ | refine bEq ?_ ?_ | refine bNe ?_ ?_) <;> intro hh <;> try (exfalso; omega)) | (refine (e).callzq rfl rfl fun _ h => ?_; subst h) | refine wIn (by omega) ?_ | refine nI (by omega) ?_) <;> conv => whnf))
  refine iaI (by omega) (by omega) hg ?_
  (conv => whnf); (repeat' ((first | refine bT ?_ | refine bF ?_ | refine bN ?_ | ((first | refine bD ?_ ?_ | refine bEq ?_ ?_ | refine bNe ?_ ?_) <;> intro hh <;> try (exfalso; omega)) | refine wIn (by omega) ?_ | refine nI (by omega) ?_) <;> conv => whnf))
  all_goals rfl
theorem sum_succ {l : List Int} {k : Nat} (hk : k < l.length) : (l.take (k + 1)).sum = (l.take k).sum + l[k] := by
  rw [List.take_succ_eq_append_getElem hk, List.sum_append]
  simp
/-- all choices of numbers of bolts, behind some numbers -/
def tr : List Bolt → List Int → List (List Int)
  | [], f => [f]
  | b :: bs, f => b.nums.flatMap fun x => tr bs (f ++ [x])
theorem one_iAV (l : List Int) : ∀ e ∈ l.map iAV, e.length = 1 ∧ e.all AV.one = true := fun e he => by
  obtain ⟨x, _, rfl⟩ := List.mem_map.1 he; exact ⟨rfl, rfl⟩
/-- the round of gores of a width, with these numbers -/
def Dome.by (d : Dome) (w : Int) (t : List Int) : Int := sumF (fun g => pulled (w - 2 * d.loss) (t.getD g.toNat 0)) d.gs
/-- these numbers are a truth -/
def Dome.isT (d : Dome) (t : List Int) : Prop := t.length = d.bs.length ∧ ∀ i (h1 : i < d.bs.length) (h2 : i < t.length), d.bs[i].can t[i] = true
noncomputable instance (d : Dome) (t : List Int) : Decidable (d.isT t) := Classical.propDecidable _
/-- in how many of the truths a row is tight -/
def Dome.cnt (d : Dome) (s : Int × Int) (w : Int) (l : List (List Int)) : Nat := (l.filter fun t => inS s (d.by w t)).length
def Dome.T (d : Dome) : List (List Int) := tr d.bs []
theorem nums_pos {d : Dome} (hh : d.has = true) {b : Bolt} (hb : b ∈ d.bs) : 0 < b.nums.length := by
  have := List.all_eq_true.1 hh b hb
  cases hq : b.nums with
  | nil => rw [hq] at this; simp at this
  | cons x xs => simp
/-- a dome that is not far too much of something -/
def Dome.small (d : Dome) : Prop := d.bs.length ≤ 20 ∧ d.gs.length ≤ 60 ∧ d.rs.length ≤ 60 ∧ d.ws.length ≤ 60 ∧ ∀ b ∈ d.bs, b.ss.length ≤ 60
theorem k33 (d : Dome) : FnA Try.prog 54 [.agg d.cells] (fun r => ∃ b : Bool, r = .bool b ∧ (b = false → d.small)) := by
  have l1 : (d.bs.map Bolt.av).length = d.bs.length := by simp
  have l2 : (d.gs.map iAV).length = d.gs.length := by simp
  have l3 : (d.rs.map pairAV).length = d.rs.length := by simp
  have l4 : (d.ws.map iAV).length = d.ws.length := by simp
  refine fnA 1 ok54 (by simp) ?_
  by_cases c : d.bs.length ≤ 20 ∧ d.gs.length ≤ 60 ∧ d.rs.length ≤ 60 ∧ d.ws.length ≤ 60
  case neg =>
    (conv => whnf); (repeat' ((first | refine bT ?_ | refine bF ?_ | refine bN ?_ | ((first | refine bD ?_ ?_ | refine bEq ?_ ?_ | refine bNe ?_ ?_) <;> intro hh <;> try (exfalso; omega)) | refine wIn (by omega) ?_ | refine nI (by omega) ?_) <;> conv => whnf))
    all_goals first | exact ⟨_, rfl, fun h => by cases h⟩ | omega
  obtain ⟨c1, c2, c3, c4⟩ := c
  (conv => whnf); (repeat' ((first | refine bT ?_ | refine bF ?_ | refine bN ?_ | ((first | refine bD ?_ ?_ | refine bEq ?_ ?_ | refine bNe ?_ ?_) <;> intro hh <;> try (exfalso; omega)) | refine wIn (by omega) ?_ | refine nI (by omega) ?_) <;> conv => whnf))
  refine loop_i (α := Nat) (fun k => [(3, .int .i64 k), (1, .own 0 0)]) (fun k => [.box false d.cells]) (fun k => k ≤ d.bs.length ∧ ∀ b ∈ d.bs.take k, b.ss.length ≤ 60) (fun k => d.bs.length - k) 0 (meets_id (by (repeat' apply And.intro) <;> first | rfl | exact True.intro | (intro hh; cases hh))) ⟨by omega, by simp⟩ ?_
  rintro k ⟨hk0, hin⟩
  conv => whnf
  refine bD (fun h4 => ?_) (fun h4 => ?_)
  · have hk : k < d.bs.length := by omega
    have l5 : (d.bs[k].ss.map Strip.av).length = d.bs[k].ss.length := by simp
    conv => whnf
    refine iaI (by omega) (by omega) (getD_map Bolt.av d.bs k hk) ?_
    conv => whnf
    refine bD (fun h5 => ?_) (fun h5 => ?_)
    · (conv => whnf); (repeat' ((first | refine bT ?_ | refine bF ?_ | refine bN ?_ | ((first | refine bD ?_ ?_ | refine bEq ?_ ?_ | refine bNe ?_ ?_) <;> intro hh <;> try (exfalso; omega)) | refine wIn (by omega) ?_ | refine nI (by omega) ?_) <;> conv => whnf))
      all_goals exact ⟨_, rfl, fun h => by cases h⟩
    · (conv => whnf); (repeat' ((first | refine bT ?_ | refine bF ?_ | refine bN ?_ | ((first | refine bD ?_ ?_ | refine bEq ?_ ?_ | refine bNe ?_ ?_) <;> intro hh <;> try (exfalso; omega)) | refine wIn (by omega) ?_ | refine nI (by omega) ?_) <;> conv => whnf))
      exact ⟨k + 1, (meets_id (by (repeat' apply And.intro) <;> first | rfl | exact True.intro | (intro hh; cases hh))), ⟨by omega, all_take hk hin (by omega)⟩, by omega⟩
  have hkl : k = d.bs.length := by omega
  subst hkl
  rw [List.take_length] at hin
  have hsm : d.small := ⟨c1, c2, c3, c4, hin⟩
  have e := k28 d
  by_cases hok : d.ok
  case neg =>
    have hc := chk_pos hok
    (conv => whnf); (repeat' ((first | refine bT ?_ | refine bF ?_ | refine bN ?_ | ((first | refine bD ?_ ?_ | refine bEq ?_ ?_ | refine bNe ?_ ?_) <;> intro hh <;> try (exfalso; omega)) | (refine (e).lendq rfl fun _ h => ?_; subst h; refine ⟨rfl, ?_⟩) | refine wIn (by omega) ?_ | refine nI (by omega) ?_) <;> conv => whnf))
    all_goals exact ⟨_, rfl, fun _ => hsm⟩
  rw [chk_ok hok] at e
  have hbl := hok.1.1
  (conv => whnf); (repeat' ((first | refine bT ?_ | refine bF ?_ | refine bN ?_ | ((first | refine bD ?_ ?_ | refine bEq ?_ ?_ | refine bNe ?_ ?_) <;> intro hh <;> try (exfalso; omega)) | (refine (e).lendq rfl fun _ h => ?_; subst h; refine ⟨rfl, ?_⟩) | refine wIn (by omega) ?_ | refine nI (by omega) ?_) <;> conv => whnf))
  refine loop_i (α := Nat × Int) (fun q => [(5, .int .i64 q.1), (4, .int .i64 q.2), (1, .own 0 0)]) (fun k => [.box false d.cells]) (fun q => q.1 ≤ d.bs.length ∧ 0 ≤ q.2 ∧ q.2 ≤ (100 ^ q.1 : Nat)) (fun q => d.bs.length - q.1) (0, 1) (meets_id (by (repeat' apply And.intro) <;> first | rfl | exact True.intro | (intro hh; cases hh))) ⟨by simp, by simp, by simp⟩ ?_
  rintro ⟨k, m⟩ ⟨hk0, hm0, hm1⟩
  dsimp only at hk0 hm0 hm1 ⊢
  conv => whnf
  refine bD (fun h4 => ?_) (fun h4 => ?_)
  · have hk : k < d.bs.length := by omega
    have hb := hok.2 _ (List.getElem_mem hk)
    have hg := getD_map Bolt.av d.bs k hk
    generalize d.bs[k] = b at *
    have h1 := hb.1
    unfold okSpan at h1
    have hn : (b.nt : Int) = b.hi + 1 - b.lo := by unfold Bolt.nt; omega
    have hp3 : (100 : Nat) ^ k ≤ 100 ^ 3 := Nat.pow_le_pow_right (by omega) (by omega)
    have h3 : (100 : Nat) ^ 3 = 1000000 := rfl
    have hps : (100 : Nat) ^ (k + 1) = 100 ^ k * 100 := Nat.pow_succ _ _
    conv => whnf
    refine iaI (by omega) (by omega) hg ?_
    (conv => whnf); (repeat' ((first | refine bT ?_ | refine bF ?_ | refine bN ?_ | ((first | refine bD ?_ ?_ | refine bEq ?_ ?_ | refine bNe ?_ ?_) <;> intro hh <;> try (exfalso; omega)) | refine wIn (by omega) ?_ | refine nI (by omega) ?_) <;> conv => whnf))
    refine loop_i (α := Nat × Int) (fun q => [(7, .int .i64 (b.lo + q.1)), (6, .int .i64 q.2), (5, .int .i64 k), (4, .int .i64 m), (1, .own 0 0)]) (fun k => [.box false d.cells]) (fun q => q.1 ≤ b.nt ∧ 0 ≤ q.2 ∧ q.2 ≤ q.1) (fun q => b.nt - q.1) (0, 0) ?_ ⟨by simp, by simp, by simp⟩ ?_
    · simp only [Int.natCast_zero, Int.add_zero]; exact (meets_id (by (repeat' apply And.intro) <;> first | rfl | exact True.intro | (intro hh; cases hh)))
    rintro ⟨j, n⟩ ⟨hj0, hn0, hn1⟩
    dsimp only at hj0 hn0 hn1 ⊢
    conv => whnf
    refine iaI (by omega) (by omega) hg ?_
    conv => whnf
    refine bD (fun h5 => ?_) (fun h5 => ?_)
    · have e4 := k44 b (b.lo + j) hb
      (conv => whnf); (repeat' ((first | refine bT ?_ | refine bF ?_ | refine bN ?_ | ((first | refine bD ?_ ?_ | refine bEq ?_ ?_ | refine bNe ?_ ?_) <;> intro hh <;> try (exfalso; omega)) | refine wIn (by omega) ?_ | refine nI (by omega) ?_) <;> conv => whnf))
      refine iaI (by omega) (by omega) hg ?_
      cases hc : b.can (b.lo + j) with
      | true =>
        rw [hc] at e4
        (conv => whnf); (repeat' ((first | refine bT ?_ | refine bF ?_ | refine bN ?_ | ((first | refine bD ?_ ?_ | refine bEq ?_ ?_ | refine bNe ?_ ?_) <;> intro hh <;> try (exfalso; omega)) | (refine (e4).lendq rfl fun _ h => ?_; subst h; refine ⟨rfl, ?_⟩) | refine wIn (by omega) ?_ | refine nI (by omega) ?_) <;> conv => whnf))
        refine ⟨(j + 1, n + 1), ?_, ⟨by dsimp only; omega, by dsimp only; omega, by dsimp only; omega⟩, by dsimp only; omega⟩
        simp only [Int.natCast_add, Int.natCast_one, ← Int.add_assoc]
        exact (meets_id (by (repeat' apply And.intro) <;> first | rfl | exact True.intro | (intro hh; cases hh)))
      | false =>
        rw [hc] at e4
        (conv => whnf); (repeat' ((first | refine bT ?_ | refine bF ?_ | refine bN ?_ | ((first | refine bD ?_ ?_ | refine bEq ?_ ?_ | refine bNe ?_ ?_) <;> intro hh <;> try (exfalso; omega)) | (refine (e4).lendq rfl fun _ h => ?_; subst h; refine ⟨rfl, ?_⟩) | refine wIn (by omega) ?_ | refine nI (by omega) ?_) <;> conv => whnf))
        refine ⟨(j + 1, n), ?_, ⟨by dsimp only; omega, by dsimp only; omega, by dsimp only; omega⟩, by dsimp only; omega⟩
        simp only [Int.natCast_add, Int.natCast_one, ← Int.add_assoc]
        exact (meets_id (by (repeat' apply And.intro) <;> first | rfl | exact True.intro | (intro hh; cases hh)))
    · have hmn : 0 ≤ m * n := Int.mul_nonneg hm0 hn0
      have hmn2 : m * n ≤ ((100 ^ k : Nat) : Int) * 100 := Int.mul_le_mul hm1 (by omega) hn0 (by omega)
      (conv => whnf); (repeat' ((first | refine bT ?_ | refine bF ?_ | refine bN ?_ | ((first | refine bD ?_ ?_ | refine bEq ?_ ?_ | refine bNe ?_ ?_) <;> intro hh <;> try (exfalso; omega)) | refine wIn (by omega) ?_ | refine nI (by omega) ?_) <;> conv => whnf))
      refine ⟨(k + 1, m * n), (meets_id (by (repeat' apply And.intro) <;> first | rfl | exact True.intro | (intro hh; cases hh))), ⟨by dsimp only; omega, hmn, ?_⟩, by dsimp only; omega⟩
      dsimp only
      rw [hps]; push_cast at hmn2 ⊢; omega
  · (conv => whnf); (repeat' ((first | refine bT ?_ | refine bF ?_ | refine bN ?_ | ((first | refine bD ?_ ?_ | refine bEq ?_ ?_ | refine bNe ?_ ?_) <;> intro hh <;> try (exfalso; omega)) | refine wIn (by omega) ?_ | refine nI (by omega) ?_) <;> conv => whnf))
    all_goals exact ⟨_, rfl, fun _ => hsm⟩
theorem one_av {α : Type} (f : α → List AV) (n : Nat) (h : ∀ x, (f x).length = n ∧ (f x).all AV.one = true) (l : List α) : ∀ e ∈ l.map f, e.length = n ∧ e.all AV.one = true := fun e he => by
  obtain ⟨x, _, rfl⟩ := List.mem_map.1 he; exact h x
theorem k27o (d : Dome) (hs : d.small) : FnO Try.prog 67 [.agg d.cells] (fun r rows => r = .agg [.row 4, .row 8, .int .i64 d.loss, .row 10, .row 12, .int .i64 d.slope] ∧ rows = [(4, .row false 55 4 (d.bs.map Bolt.av)), (8, .row false 3 1 (d.gs.map iAV)), (10, .row false 50 2 (d.rs.map pairAV)), (12, .row false 3 1 (d.ws.map iAV))]) := by
  have l1 : (d.bs.map Bolt.av).length = d.bs.length := by simp
  have l2 : (d.gs.map iAV).length = d.gs.length := by simp
  have l3 : (d.rs.map pairAV).length = d.rs.length := by simp
  have l4 : (d.ws.map iAV).length = d.ws.length := by simp
  obtain ⟨c1, c2, c3, c4, c5⟩ := hs
  refine fnO 13 ok67 (by simp) ?_
  (conv => whnf); (repeat' ((first | refine bT ?_ | refine bF ?_ | refine bN ?_ | ((first | refine bD ?_ ?_ | refine bEq ?_ ?_ | refine bNe ?_ ?_) <;> intro hh <;> try (exfalso; omega)) | refine wIn (by omega) ?_ | refine nI (by omega) ?_) <;> conv => whnf))
  refine apI (one_av Bolt.av 4 (fun x => ⟨rfl, rfl⟩) _) (by simp only [l1, List.length_nil]; omega) ?_
  (conv => whnf); (repeat' ((first | refine bT ?_ | refine bF ?_ | refine bN ?_ | ((first | refine bD ?_ ?_ | refine bEq ?_ ?_ | refine bNe ?_ ?_) <;> intro hh <;> try (exfalso; omega)) | refine wIn (by omega) ?_ | refine nI (by omega) ?_) <;> conv => whnf))
  have e0 : ([] : List (List AV)) ++ d.bs.map Bolt.av = d.bs.map Bolt.av := rfl
  rw [e0]
  refine loop_i (α := Nat) (fun k => [(4, .int .i64 k), (3, .own 2 0), (2, .own 1 0), (1, .own 0 0)]) (fun k => [.box false d.cells, .box false [.nils, .nils, .int .i64 0, .nils, .nils, .int .i64 0], .box false [.row 4, .isl (d.gs.map iAV), .int .i64 d.loss, .isl (d.rs.map pairAV), .isl (d.ws.map iAV), .int .i64 d.slope], .fresh, .row false 55 4 (d.bs.map Bolt.av), .fresh, .fresh, .fresh, .fresh, .fresh, .fresh, .fresh, .fresh]) (fun k => k ≤ d.bs.length) (fun k => d.bs.length - k) 0 (meets_id (by (repeat' apply And.intro) <;> first | rfl | exact True.intro | (intro hh; cases hh))) (by omega) ?_
  intro k hk0
  conv => whnf
  refine bD (fun h4 => ?_) (fun h4 => ?_)
  · have hk : k < d.bs.length := by omega
    have hg := getD_map Bolt.av d.bs k hk
    have h60 := c5 _ (List.getElem_mem hk)
    have hset : (d.bs.map Bolt.av).set k (d.bs[k]).av = d.bs.map Bolt.av := by
      apply List.ext_getElem (by simp)
      intro n h1 h2
      rw [List.getElem_set]
      split
      · rename_i e; subst e; simp
      · rfl
    generalize d.bs[k] = b at *
    have l5 : (b.ss.map Strip.av).length = b.ss.length := by simp
    conv => whnf
    refine iaI (by omega) (by omega) hg ?_
    (conv => whnf); (repeat' ((first | refine bT ?_ | refine bF ?_ | refine bN ?_ | ((first | refine bD ?_ ?_ | refine bEq ?_ ?_ | refine bNe ?_ ?_) <;> intro hh <;> try (exfalso; omega)) | refine wIn (by omega) ?_ | refine nI (by omega) ?_) <;> conv => whnf))
    refine apI (one_av Strip.av 3 (fun x => ⟨rfl, rfl⟩) _) (by simp only [l5, List.length_nil]; omega) ?_
    (conv => whnf); (repeat' ((first | refine bT ?_ | refine bF ?_ | refine bN ?_ | ((first | refine bD ?_ ?_ | refine bEq ?_ ?_ | refine bNe ?_ ?_) <;> intro hh <;> try (exfalso; omega)) | refine wIn (by omega) ?_ | refine nI (by omega) ?_) <;> conv => whnf))
    refine iaI (by omega) (by omega) hg ?_
    (conv => whnf); (repeat' ((first | refine bT ?_ | refine bF ?_ | refine bN ?_ | ((first | refine bD ?_ ?_ | refine bEq ?_ ?_ | refine bNe ?_ ?_) <;> intro hh <;> try (exfalso; omega)) | refine wIn (by omega) ?_ | refine nI (by omega) ?_) <;> conv => whnf))
    refine ⟨k + 1, ?_, by omega, by omega⟩
    have hset2 : (((d.bs.map Bolt.av).set k b.av).map id) = d.bs.map Bolt.av := by rw [hset]; simp
    have hset3 : (d.bs.map Bolt.av).set (k : Int).toNat [AV.int .i64 b.lo, AV.int .i64 b.hi, AV.isl ([] ++ b.ss.map Strip.av), AV.int .i64 b.wrong] = d.bs.map Bolt.av := by
      rw [Int.toNat_natCast, List.nil_append]; exact hset
    rw [hset3]
    exact (meets_id (by (repeat' apply And.intro) <;> first | rfl | exact True.intro | (intro hh; cases hh)))
  · (conv => whnf); (repeat' ((first | refine bT ?_ | refine bF ?_ | refine bN ?_ | ((first | refine bD ?_ ?_ | refine bEq ?_ ?_ | refine bNe ?_ ?_) <;> intro hh <;> try (exfalso; omega)) | refine wIn (by omega) ?_ | refine nI (by omega) ?_) <;> conv => whnf))
    refine apI (one_iAV _) (by simp only [l2, List.length_nil]; omega) ?_
    (conv => whnf); (repeat' ((first | refine bT ?_ | refine bF ?_ | refine bN ?_ | ((first | refine bD ?_ ?_ | refine bEq ?_ ?_ | refine bNe ?_ ?_) <;> intro hh <;> try (exfalso; omega)) | refine wIn (by omega) ?_ | refine nI (by omega) ?_) <;> conv => whnf))
    refine apI (one_av pairAV 2 (fun x => ⟨rfl, rfl⟩) _) (by simp only [l3, List.length_nil]; omega) ?_
    (conv => whnf); (repeat' ((first | refine bT ?_ | refine bF ?_ | refine bN ?_ | ((first | refine bD ?_ ?_ | refine bEq ?_ ?_ | refine bNe ?_ ?_) <;> intro hh <;> try (exfalso; omega)) | refine wIn (by omega) ?_ | refine nI (by omega) ?_) <;> conv => whnf))
    refine apI (one_iAV _) (by simp only [l4, List.length_nil]; omega) ?_
    (conv => whnf); (repeat' ((first | refine bT ?_ | refine bF ?_ | refine bN ?_ | ((first | refine bD ?_ ?_ | refine bEq ?_ ?_ | refine bNe ?_ ?_) <;> intro hh <;> try (exfalso; omega)) | refine wIn (by omega) ?_ | refine nI (by omega) ?_) <;> conv => whnf))
    all_goals exact ⟨rfl, rfl⟩
def Dome.less (d : Dome) (b : Int) : Dome := { d with loss := d.loss + b }
structure Fig where
  d : Dome
  (per run near : Int)
  (st ti : List Int)
def Fig.cells (f : Fig) : List AV := f.d.cells ++ [.int .i64 f.per, .int .i64 f.run, .int .i64 f.near, .isl (f.st.map iAV), .isl (f.ti.map iAV)]
theorem s58 (n lo hi : Int) : FnA Try.prog 58 [.int .i64 n, .int .i64 lo, .int .i64 hi] (· = .bool (decide (lo ≤ n ∧ n ≤ hi))) := by
  refine fnA 0 ok58 (by simp) ?_
  (conv => whnf); (repeat' ((first | refine bT ?_ | refine bF ?_ | refine bN ?_ | ((first | refine bD ?_ ?_ | refine bEq ?_ ?_ | refine bNe ?_ ?_) <;> intro hh <;> try (exfalso; omega)) | refine wIn (by omega) ?_ | refine nI (by omega) ?_) <;> conv => whnf))
  all_goals first | rfl | exact congrArg AV.bool (decide_eq_decide.2 (by omega)) | exact congrArg AV.bool (decide_eq_true (by omega)).symm | exact congrArg AV.bool (decide_eq_false (by omega)).symm
theorem s127 (x lo hi : Int) : FnA Try.prog 127 [.int .i64 x, .ipt [.int .i64 lo], .ipt [.int .i64 hi]] (· = .bool (!decide (lo ≤ x ∧ x ≤ hi))) := by
  refine fnA 0 ok127 (by simp) ?_
  (conv => whnf); (repeat' ((first | refine bT ?_ | refine bF ?_ | refine bN ?_ | ((first | refine bD ?_ ?_ | refine bEq ?_ ?_ | refine bNe ?_ ?_) <;> intro hh <;> try (exfalso; omega)) | (refine (s58 x lo hi).callq rfl rfl fun _ h => ?_; subst h) | refine wIn (by omega) ?_ | refine nI (by omega) ?_) <;> conv => whnf))
  all_goals rfl
theorem s137 (l : List Int) (hl : l.length ≤ 1000) (h : FuncId) (a b : List AV) (p : Int → Bool) (hg : ∀ x ∈ l, FnV Try.prog (.fn h [.ipt a, .ipt b]) [.int .i64 x] (· = .bool (p x))) : FnA Try.prog 137 [.isl (l.map iAV), .fn h [.ipt a, .ipt b]] (fun r => ∃ n : Int, r = .int .i64 n ∧ (0 ≤ n ↔ l.any p = true)) := by
  have hL : (l.map iAV).length = l.length := by simp
  refine fnA 0 ok137 (by simp) ?_
  (conv => whnf); (repeat' ((first | refine bT ?_ | refine bF ?_ | refine bN ?_ | ((first | refine bD ?_ ?_ | refine bEq ?_ ?_ | refine bNe ?_ ?_) <;> intro hh <;> try (exfalso; omega)) | refine wIn (by omega) ?_ | refine nI (by omega) ?_) <;> conv => whnf))
  refine loop_i (α := Nat) (fun k => [(8, .int .i64 k), (7, .int .i64 ↑(l.map iAV).length), (1, .fn h [.ipt a, .ipt b]), (0, .isl (l.map iAV))]) (fun k => []) (fun k => k ≤ l.length ∧ (l.take k).any p = false) (fun k => l.length - k) 0 (meets_id (by (repeat' apply And.intro) <;> first | rfl | exact True.intro | (intro hh; cases hh))) ⟨by omega, by simp⟩ ?_
  rintro k ⟨h1, h2⟩
  conv => whnf
  refine bD (fun h3 => ?_) (fun h3 => ?_)
  · have hk : k < l.length := by omega
    have hs : (l.take (k + 1)).any p = p l[k] := by
      rw [List.take_succ_eq_append_getElem hk, List.any_append, h2]; simp
    (conv => whnf); (repeat' ((first | refine bT ?_ | refine bF ?_ | refine bN ?_ | ((first | refine bD ?_ ?_ | refine bEq ?_ ?_ | refine bNe ?_ ?_) <;> intro hh <;> try (exfalso; omega)) | refine wIn (by omega) ?_ | refine nI (by omega) ?_) <;> conv => whnf))
    refine iaI (by omega) (by omega) (getD_map iAV l k hk) ?_
    conv => whnf
    refine (hg l[k] (List.getElem_mem hk)).vcallq rfl rfl rfl rfl (fun r (hr : r = _) => ?_)
    subst hr
    cases hp : p l[k] with
    | true =>
      (conv => whnf); (repeat' ((first | refine bT ?_ | refine bF ?_ | refine bN ?_ | ((first | refine bD ?_ ?_ | refine bEq ?_ ?_ | refine bNe ?_ ?_) <;> intro hh <;> try (exfalso; omega)) | refine wIn (by omega) ?_ | refine nI (by omega) ?_) <;> conv => whnf))
      exact ⟨k, rfl, by
        have : l.any p = true := List.any_eq_true.2 ⟨l[k], List.getElem_mem hk, hp⟩
        simp [this]⟩
    | false =>
      (conv => whnf); (repeat' ((first | refine bT ?_ | refine bF ?_ | refine bN ?_ | ((first | refine bD ?_ ?_ | refine bEq ?_ ?_ | refine bNe ?_ ?_) <;> intro hh <;> try (exfalso; omega)) | refine wIn (by omega) ?_ | refine nI (by omega) ?_) <;> conv => whnf))
      exact ⟨k + 1, (meets_id (by (repeat' apply And.intro) <;> first | rfl | exact True.intro | (intro hh; cases hh))), ⟨by omega, by rw [hs, hp]⟩, by omega⟩
  · have : k = l.length := by omega
    subst this
    rw [List.take_length] at h2
    (conv => whnf); (repeat' ((first | refine bT ?_ | refine bF ?_ | refine bN ?_ | ((first | refine bD ?_ ?_ | refine bEq ?_ ?_ | refine bNe ?_ ?_) <;> intro hh <;> try (exfalso; omega)) | refine wIn (by omega) ?_ | refine nI (by omega) ?_) <;> conv => whnf))
    exact ⟨-1, rfl, by simp [h2]⟩
theorem s126 (l : List Int) (hl : l.length ≤ 1000) (h : FuncId) (a b : List AV) (p : Int → Bool) (hg : ∀ x ∈ l, FnV Try.prog (.fn h [.ipt a, .ipt b]) [.int .i64 x] (· = .bool (p x))) : FnA Try.prog 126 [.isl (l.map iAV), .fn h [.ipt a, .ipt b]] (· = .bool (l.any p)) := by
  refine fnA 0 ok126 (by simp) ?_
  conv => whnf
  refine (s137 l hl h a b p hg).callq rfl rfl (fun r hr => ?_); obtain ⟨n, rfl, hn⟩ := hr
  (conv => whnf); (repeat' ((first | refine bT ?_ | refine bF ?_ | refine bN ?_ | ((first | refine bD ?_ ?_ | refine bEq ?_ ?_ | refine bNe ?_ ?_) <;> intro hh <;> try (exfalso; omega)) | refine wIn (by omega) ?_ | refine nI (by omega) ?_) <;> conv => whnf))
  all_goals (refine congrArg AV.bool ?_; cases hp : l.any p <;> simp_all)
theorem s102 (l : List Int) (hl : l.length ≤ 1000) (lo hi : Int) : FnA Try.prog 102 [.isl (l.map iAV), .int .i64 lo, .int .i64 hi] (· = .bool (decide (∀ x ∈ l, lo ≤ x ∧ x ≤ hi))) := by
  have e := s126 l hl 127 [.int .i64 lo] [.int .i64 hi] (fun x => !decide (lo ≤ x ∧ x ≤ hi)) fun x _ => fnV_of bd127 (s127 x lo hi)
  have he : (!(l.any fun x => !decide (lo ≤ x ∧ x ≤ hi))) = decide (∀ x ∈ l, lo ≤ x ∧ x ≤ hi) := by
    rw [Bool.eq_iff_iff]; simp
  refine fnA 2 ok102 (by simp) ?_
  (conv => whnf); (repeat' ((first | refine bT ?_ | refine bF ?_ | refine bN ?_ | ((first | refine bD ?_ ?_ | refine bEq ?_ ?_ | refine bNe ?_ ?_) <;> intro hh <;> try (exfalso; omega)) | (refine (e).lendq rfl fun _ h => ?_; subst h; refine ⟨rfl, ?_⟩) | refine wIn (by omega) ?_ | refine nI (by omega) ?_) <;> conv => whnf))
  all_goals exact congrArg AV.bool he
def Fig.okF (f : Fig) : Prop := (1 ≤ f.per ∧ f.per ≤ 60) ∧ (0 ≤ f.run ∧ f.run ≤ 2000) ∧ (0 ≤ f.near ∧ f.near ≤ f.per.tdiv 2) ∧ f.st.length = f.d.gs.length ∧ (∀ x ∈ f.st, 0 ≤ x ∧ x ≤ f.per - 1) ∧ f.ti.length = f.d.gs.length ∧ (∀ x ∈ f.ti, 1 ≤ x ∧ x ≤ 99)
instance (f : Fig) : Decidable f.okF := by unfold Fig.okF; infer_instance
theorem s73 (f : Fig) (hg : f.d.gs.length ≤ 1000) : FnA Try.prog 73 [.agg f.cells] (· = .bool (decide f.okF)) := by
  have l1 : (f.d.gs.map iAV).length = f.d.gs.length := by simp
  have l2 : (f.st.map iAV).length = f.st.length := by simp
  have l3 : (f.ti.map iAV).length = f.ti.length := by simp
  have e1 := s58 f.per 1 60
  have e2 := s58 f.run 0 2000
  have e3 := s58 f.near 0 (f.per.tdiv 2)
  refine fnA 1 ok73 (by simp) ?_
  by_cases c1 : 1 ≤ f.per ∧ f.per ≤ 60
  case neg =>
    rw [decide_eq_false c1] at e1
    rw [decide_eq_false fun h : f.okF => c1 h.1]
    (conv => whnf); (repeat' ((first | refine bT ?_ | refine bF ?_ | refine bN ?_ | ((first | refine bD ?_ ?_ | refine bEq ?_ ?_ | refine bNe ?_ ?_) <;> intro hh <;> try (exfalso; omega)) | (refine (e1).callq rfl rfl fun _ h => ?_; subst h) | refine wIn (by omega) ?_ | refine nI (by omega) ?_) <;> conv => whnf))
    all_goals rfl
  rw [decide_eq_true c1] at e1
  have hq : 0 ≤ f.per.tdiv 2 ∧ f.per.tdiv 2 ≤ 60 := by rw [Int.tdiv_eq_ediv_of_nonneg (by omega)]; omega
  by_cases c2 : 0 ≤ f.run ∧ f.run ≤ 2000
  case neg =>
    rw [decide_eq_false c2] at e2
    rw [decide_eq_false fun h : f.okF => c2 h.2.1]
    (conv => whnf); (repeat' ((first | refine bT ?_ | refine bF ?_ | refine bN ?_ | ((first | refine bD ?_ ?_ | refine bEq ?_ ?_ | refine bNe ?_ ?_) <;> intro hh <;> try (exfalso; omega)) | (refine (e1).callq rfl rfl fun _ h => ?_; subst h) | (refine (e2).callq rfl rfl fun _ h => ?_; subst h) | refine wIn (by omega) ?_ | refine nI (by omega) ?_) <;> conv => whnf))
    all_goals rfl
  rw [decide_eq_true c2] at e2
  by_cases c3 : 0 ≤ f.near ∧ f.near ≤ f.per.tdiv 2
  case neg =>
    rw [decide_eq_false c3] at e3
    rw [decide_eq_false fun h : f.okF => c3 h.2.2.1]
    (conv => whnf); (repeat' ((first | refine bT ?_ | refine bF ?_ | refine bN ?_ | ((first | refine bD ?_ ?_ | refine bEq ?_ ?_ | refine bNe ?_ ?_) <;> intro hh <;> try (exfalso; omega)) | (refine (e1).callq rfl rfl fun _ h => ?_; subst h) | (refine (e2).callq rfl rfl fun _ h => ?_; subst h) | (refine (e3).callq rfl rfl fun _ h => ?_; subst h) | refine wIn (by omega) ?_ | refine nI (by omega) ?_) <;> conv => whnf))
    all_goals rfl
  rw [decide_eq_true c3] at e3
  by_cases c4 : f.st.length = f.d.gs.length
  case neg =>
    rw [decide_eq_false fun h : f.okF => c4 h.2.2.2.1]
    (conv => whnf); (repeat' ((first | refine bT ?_ | refine bF ?_ | refine bN ?_ | ((first | refine bD ?_ ?_ | refine bEq ?_ ?_ | refine bNe ?_ ?_) <;> intro hh <;> try (exfalso; omega)) | (refine (e1).callq rfl rfl fun _ h => ?_; subst h) | (refine (e2).callq rfl rfl fun _ h => ?_; subst h) | (refine (e3).callq rfl rfl fun _ h => ?_; subst h) | refine wIn (by omega) ?_ | refine nI (by omega) ?_) <;> conv => whnf))
    all_goals first | rfl | (exfalso; omega)
  have e4 := s102 f.st (by omega) 0 (f.per - 1)
  by_cases c5 : ∀ x ∈ f.st, 0 ≤ x ∧ x ≤ f.per - 1
  case neg =>
    rw [decide_eq_false c5] at e4
    rw [decide_eq_false fun h : f.okF => c5 h.2.2.2.2.1]
    (conv => whnf); (repeat' ((first | refine bT ?_ | refine bF ?_ | refine bN ?_ | ((first | refine bD ?_ ?_ | refine bEq ?_ ?_ | refine bNe ?_ ?_) <;> intro hh <;> try (exfalso; omega)) | (refine (e1).callq rfl rfl fun _ h => ?_; subst h) | (refine (e2).callq rfl rfl fun _ h => ?_; subst h) | (refine (e3).callq rfl rfl fun _ h => ?_; subst h) | (refine (e4).callq rfl rfl fun _ h => ?_; subst h) | refine wIn (by omega) ?_ | refine nI (by omega) ?_) <;> conv => whnf))
    all_goals first | rfl | (exfalso; omega)
  rw [decide_eq_true c5] at e4
  by_cases c6 : f.ti.length = f.d.gs.length
  case neg =>
    rw [decide_eq_false fun h : f.okF => c6 h.2.2.2.2.2.1]
    (conv => whnf); (repeat' ((first | refine bT ?_ | refine bF ?_ | refine bN ?_ | ((first | refine bD ?_ ?_ | refine bEq ?_ ?_ | refine bNe ?_ ?_) <;> intro hh <;> try (exfalso; omega)) | (refine (e1).callq rfl rfl fun _ h => ?_; subst h) | (refine (e2).callq rfl rfl fun _ h => ?_; subst h) | (refine (e3).callq rfl rfl fun _ h => ?_; subst h) | (refine (e4).callq rfl rfl fun _ h => ?_; subst h) | refine wIn (by omega) ?_ | refine nI (by omega) ?_) <;> conv => whnf))
    all_goals first | rfl | (exfalso; omega)
  have e5 := s102 f.ti (by omega) 1 99
  by_cases c7 : ∀ x ∈ f.ti, 1 ≤ x ∧ x ≤ 99
  case neg =>
    rw [decide_eq_false c7] at e5
    rw [decide_eq_false fun h : f.okF => c7 h.2.2.2.2.2.2]
    (conv => whnf); (repeat' ((first | refine bT ?_ | refine bF ?_ | refine bN ?_ | ((first | refine bD ?_ ?_ | refine bEq ?_ ?_ | refine bNe ?_ ?_) <;> intro hh <;> try (exfalso; omega)) | (refine (e1).callq rfl rfl fun _ h => ?_; subst h) | (refine (e2).callq rfl rfl fun _ h => ?_; subst h) | (refine (e3).callq rfl rfl fun _ h => ?_; subst h) | (refine (e4).callq rfl rfl fun _ h => ?_; subst h) | (refine (e5).callq rfl rfl fun _ h => ?_; subst h) | refine wIn (by omega) ?_ | refine nI (by omega) ?_) <;> conv => whnf))
    all_goals first | rfl | (exfalso; omega)
  rw [decide_eq_true c7] at e5
  rw [decide_eq_true (show f.okF from ⟨c1, c2, c3, c4, c5, c6, c7⟩)]
  (conv => whnf); (repeat' ((first | refine bT ?_ | refine bF ?_ | refine bN ?_ | ((first | refine bD ?_ ?_ | refine bEq ?_ ?_ | refine bNe ?_ ?_) <;> intro hh <;> try (exfalso; omega)) | (refine (e1).callq rfl rfl fun _ h => ?_; subst h) | (refine (e2).callq rfl rfl fun _ h => ?_; subst h) | (refine (e3).callq rfl rfl fun _ h => ?_; subst h) | (refine (e4).callq rfl rfl fun _ h => ?_; subst h) | (refine (e5).callq rfl rfl fun _ h => ?_; subst h) | refine wIn (by omega) ?_ | refine nI (by omega) ?_) <;> conv => whnf))
  all_goals first | rfl | (exfalso; omega)
def Fig.chk (f : Fig) : Int := if f.d.ok then (if f.okF then 0 else 40) else f.d.chk
theorem s36 (f : Fig) : FnA Try.prog 36 [.agg f.cells] (· = .int .i64 f.chk) := by
  have e := k34 f.d
  unfold Fig.chk
  refine fnA 1 ok36 (by simp) ?_
  by_cases hok : f.d.ok
  · have hgl := hok.1.2.1.2
    have e2 := s73 f (by omega)
    rw [show f.d.chk = 0 from chk_ok hok] at e
    rw [if_pos hok]
    by_cases hF : f.okF
    · rw [decide_eq_true hF] at e2
      rw [if_pos hF]
      (conv => whnf); (repeat' ((first | refine bT ?_ | refine bF ?_ | refine bN ?_ | ((first | refine bD ?_ ?_ | refine bEq ?_ ?_ | refine bNe ?_ ?_) <;> intro hh <;> try (exfalso; omega)) | (refine (e).callq rfl rfl fun _ h => ?_; subst h) | (refine (e2).callq rfl rfl fun _ h => ?_; subst h) | refine wIn (by omega) ?_ | refine nI (by omega) ?_) <;> conv => whnf))
      all_goals rfl
    · rw [decide_eq_false hF] at e2
      rw [if_neg hF]
      (conv => whnf); (repeat' ((first | refine bT ?_ | refine bF ?_ | refine bN ?_ | ((first | refine bD ?_ ?_ | refine bEq ?_ ?_ | refine bNe ?_ ?_) <;> intro hh <;> try (exfalso; omega)) | (refine (e).callq rfl rfl fun _ h => ?_; subst h) | (refine (e2).callq rfl rfl fun _ h => ?_; subst h) | refine wIn (by omega) ?_ | refine nI (by omega) ?_) <;> conv => whnf))
      all_goals rfl
  · have h0 : f.d.chk ≠ 0 := by
      unfold Dome.chk
      by_cases h1 : f.d.ok1
      · rw [if_pos h1, if_neg fun h2 => hok ⟨h1, h2⟩]; decide
      · rw [if_neg h1]; decide
    rw [if_neg hok]
    (conv => whnf); (repeat' ((first | refine bT ?_ | refine bF ?_ | refine bN ?_ | ((first | refine bD ?_ ?_ | refine bEq ?_ ?_ | refine bNe ?_ ?_) <;> intro hh <;> try (exfalso; omega)) | (refine (e).callq rfl rfl fun _ h => ?_; subst h) | refine wIn (by omega) ?_ | refine nI (by omega) ?_) <;> conv => whnf))
    all_goals rfl
/-- a figure with the lengths of its runs -/
structure Pul where
  f : Fig
  runs : List (List Int)
def Pul.cells (p : Pul) : List AV := p.f.cells ++ [.isl (p.runs.map rowAV)]
def Fig.ok (f : Fig) : Prop := f.d.ok ∧ f.okF
theorem s91 (f : Fig) (hok : f.ok) (i : Int) (hi : 0 ≤ i ∧ i ≤ 1000000) : FnA Try.prog 91 [.agg f.cells, .int .i64 i] (· = .int .i64 (i % f.ti.length)) := by
  have l3 : (f.ti.map iAV).length = f.ti.length := by simp
  have hgl := hok.1.1.2.1
  have hti := hok.2.2.2.2.2.2.1
  have hb : (i.tmod (f.ti.map iAV).length) = i % f.ti.length := by rw [l3, Int.tmod_eq_emod_of_nonneg hi.1]
  have hb0 : 0 ≤ i % (f.ti.length : Int) := Int.emod_nonneg _ (by omega)
  have hb1 : i % (f.ti.length : Int) < f.ti.length := Int.emod_lt_of_pos _ (by omega)
  refine fnA 1 ok91 (by simp) ?_
  (conv => whnf); (repeat' ((first | refine bT ?_ | refine bF ?_ | refine bN ?_ | ((first | refine bD ?_ ?_ | refine bEq ?_ ?_ | refine bNe ?_ ?_) <;> intro hh <;> try (exfalso; omega)) | refine wIn (by omega) ?_ | refine nI (by omega) ?_) <;> conv => whnf))
  all_goals exact congrArg _ hb
def Fig.dist (f : Fig) (a b : Int) : Int := min (max (a - b) (b - a)) (f.per - max (a - b) (b - a))
theorem s92 (f : Fig) (hok : f.ok) (a b : Int) (ha : -1000000 ≤ a ∧ a ≤ 1000000) (hb : -1000000 ≤ b ∧ b ≤ 1000000) : FnA Try.prog 92 [.agg f.cells, .int .i64 a, .int .i64 b] (· = .int .i64 (f.dist a b)) := by
  have hp := hok.2.1
  have e1 : (if true = true then max (a - b) (b - a) else min (a - b) (b - a)) = max (a - b) (b - a) := rfl
  refine fnA 1 ok92 (by simp) ?_
  (conv => whnf); (repeat' ((first | refine bT ?_ | refine bF ?_ | refine bN ?_ | ((first | refine bD ?_ ?_ | refine bEq ?_ ?_ | refine bNe ?_ ?_) <;> intro hh <;> try (exfalso; omega)) | refine wIn (by omega) ?_ | refine nI (by omega) ?_) <;> conv => whnf))
  all_goals rfl
/-- a length, pulled, modulo the period -/
def Fig.leng (f : Fig) (s : Int) : Int := ((f.run * (1000 + s)).tdiv 1000).tmod f.per
def Fig.runsN (f : Fig) (k : Nat) : List (List Int) := (f.d.bs.take k).map fun b => b.nums.map f.leng
def Fig.pul (f : Fig) : Pul := ⟨f, f.runsN f.d.bs.length⟩
end Go.Proofs
