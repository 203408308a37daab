/- What each function of this program answers, proved by walking its body: the contracts that the law rests on, part 2. -/
import Derived.Test.YtngninkkcnalkaaFFns1
set_option linter.unusedSimpArgs false
set_option linter.unusedVariables false
set_option linter.unusedSectionVars false
namespace Go.Proofs
open Go.Eng
attribute [local irreducible] Go.Eng.brB Go.Eng.need Go.Eng.wrE Go.Eng.iaE Go.Eng.slE Go.Eng.apE Go.Eng.CallZ Go.Eng.CallE Go.Eng.VCallE Go.Eng.YldE Go.Eng.GoC Go.Eng.MeetsE Go.Eng.FnA Go.Eng.FnV Go.Eng.ItA Go.Eng.ItM
set_option maxRecDepth 100000
def stepB (acc : List (List Int)) (l : List Int) : List (List Int) :=
  if 0 < acc.length ∧ (acc.getD 0 []).length < l.length then acc else if 0 < acc.length ∧ l.length < (acc.getD 0 []).length then [l] else acc ++ [l]
def bestL (ys : List (List Int)) : List (List Int) := ys.foldl stepB []
theorem bestL_succ {ys : List (List Int)} {k : Nat} (hk : k < ys.length) : bestL (ys.take (k + 1)) = stepB (bestL (ys.take k)) ys[k] := by
  unfold bestL; rw [List.take_succ_eq_append_getElem hk, List.foldl_append]; rfl
theorem stepB_len (acc : List (List Int)) (l : List Int) : (stepB acc l).length ≤ acc.length + 1 := by
  unfold stepB; split
  · omega
  · split <;> simp
theorem bestL_len {ys : List (List Int)} : ∀ {k : Nat}, k ≤ ys.length → (bestL (ys.take k)).length ≤ k
  | 0, _ => by simp [bestL]
  | k + 1, h => by
    rw [bestL_succ h]
    have := bestL_len (ys := ys) (k := k) (by omega)
    have := stepB_len (bestL (ys.take k)) ys[k]
    omega
theorem goods_len {w : Shop} (hk : Ok w) : w.goods.length ≤ 1024 := by
  have hp10 : 2 ^ w.sps.length ≤ 1024 := by
    have : ∀ n, n ≤ 10 → 2 ^ n ≤ 1024 := by decide
    exact this _ hk.s1
  have := List.length_filter_le w.good ((List.range (2 ^ w.sps.length)).map w.sub)
  simp only [List.length_map, List.length_range] at this
  unfold Shop.goods Shop.goodK; omega
theorem goods_sub {w : Shop} {l : List Int} (h : l ∈ w.goods) : l.length ≤ w.sps.length := by
  unfold Shop.goods Shop.goodK at h
  obtain ⟨b, _, rfl⟩ := List.mem_map.1 (List.mem_filter.1 h).1
  exact numF_len _ _
theorem bestL_sub {ys : List (List Int)} : ∀ {k : Nat}, k ≤ ys.length → ∀ l ∈ bestL (ys.take k), l ∈ ys
  | 0, _, l, h => by simp [bestL] at h
  | k + 1, hk, l, h => by
    rw [bestL_succ hk] at h
    unfold stepB at h
    split at h
    · exact bestL_sub (by omega) l h
    · split at h
      · simp only [List.mem_singleton] at h; subst h; exact List.getElem_mem hk
      · rcases List.mem_append.1 h with h | h
        · exact bestL_sub (by omega) l h
        · simp only [List.mem_singleton] at h; subst h; exact List.getElem_mem hk
theorem fget {L : List (List Int)} {j : Nat} (h : j < L.length) : (L.map fAV).getD j [] = fAV (L.getD j []) := by
  rw [getM fAV L j h]; simp [List.getD_eq_getElem?_getD, h]
theorem p131 (w : Shop) (hk : Ok w) : FnA Try.prog 131 [.agg w.scL] (· = .isl ((bestL w.goods).map fAV)) := by
  have hg := goods_len hk
  have hs1 := hk.s1
  refine fnA 5 ok131 (by simp) ?_
  (conv => whnf); (repeat' ((first | refine bT ?_ | refine bF ?_ | refine bN ?_ | ((first | refine bD ?_ ?_ | refine bEq ?_ ?_ | refine bNe ?_ ?_) <;> intro hh <;> try (exfalso; omega)) | refine wIn (by omega) ?_ | refine nI (by omega) ?_) <;> conv => whnf))
  refine rng_iM (α := Nat) (w.goods.map fAV) [0, 1] [(3, .own 1 0), (1, .own 0 0)] (fun k => [.box false w.scL, .box false [.row 4], .fresh, .fresh, .row false 42 1 ((bestL (w.goods.take k)).map fAV)])
    (fun k a => a = k) 0 rfl bd156 (i156 w hk) rfl ?_ rfl rfl (fun v hv => by obtain ⟨q, _, rfl⟩ := List.mem_map.1 hv; rfl) ?_ ?_
  · exact (meets_nil 4 (by (repeat' apply And.intro) <;> first | rfl | exact True.intro | (intro hh; cases hh)))
  · rintro k v a hv rfl
    obtain ⟨q, hq, rfl⟩ : ∃ q, w.goods[a]? = some q ∧ fAV q = v := by simpa using hv
    obtain ⟨hk1, hq⟩ := List.getElem?_eq_some_iff.1 hq
    have l1 := bestL_len (ys := w.goods) (k := a) (by omega)
    have hsu := bestL_succ hk1
    rw [hq] at hsu
    have l2 : ((bestL (w.goods.take a)).map fAV).length = (bestL (w.goods.take a)).length := by simp
    have l4 : (q.map jAV).length = q.length := by simp
    generalize bestL (w.goods.take a) = acc at *
    by_cases h0 : 0 < acc.length
    · have g1 := fget h0
      have l3 : ((acc.getD 0 []).map jAV).length = (acc.getD 0 []).length := by simp
      by_cases h1 : (acc.getD 0 []).length < q.length
      · have hs : stepB acc q = acc := by unfold stepB; rw [if_pos ⟨h0, h1⟩]
        (conv => whnf); (repeat' ((first | refine bT ?_ | refine bF ?_ | refine bN ?_ | ((first | refine bD ?_ ?_ | refine bEq ?_ ?_ | refine bNe ?_ ?_) <;> intro hh <;> try (exfalso; omega)) | (refine iaI (by omega) (by omega) g1 ?_) | refine wIn (by omega) ?_ | refine nI (by omega) ?_) <;> conv => whnf))
        exact ⟨a + 1, by rw [hsu, hs]; exact (meets_id (by (repeat' apply And.intro) <;> first | rfl | exact True.intro | (intro hh; cases hh))), rfl⟩
      · by_cases h2 : q.length < (acc.getD 0 []).length
        · have hs : stepB acc q = [q] := by unfold stepB; rw [if_neg (fun h => h1 h.2), if_pos ⟨h0, h2⟩]
          (conv => whnf); (repeat' ((first | refine bT ?_ | refine bF ?_ | refine bN ?_ | ((first | refine bD ?_ ?_ | refine bEq ?_ ?_ | refine bNe ?_ ?_) <;> intro hh <;> try (exfalso; omega)) | (refine iaI (by omega) (by omega) g1 ?_) | (refine apI (by simp [AV.one]) (by simp) ?_) | refine wIn (by omega) ?_ | refine nI (by omega) ?_) <;> conv => whnf))
          exact ⟨a + 1, by rw [hsu, hs]; exact (meets_as [(4, some 3)] (by (repeat' apply And.intro) <;> first | rfl | exact True.intro | (intro hh; cases hh))), rfl⟩
        · have hs : (stepB acc q).map fAV = acc.map fAV ++ [fAV q] := by unfold stepB; rw [if_neg (fun h => h1 h.2), if_neg (fun h => h2 h.2)]; simp
          (conv => whnf); (repeat' ((first | refine bT ?_ | refine bF ?_ | refine bN ?_ | ((first | refine bD ?_ ?_ | refine bEq ?_ ?_ | refine bNe ?_ ?_) <;> intro hh <;> try (exfalso; omega)) | (refine iaI (by omega) (by omega) g1 ?_) | (refine apI (by simp [AV.one]) (by simp; omega) ?_) | refine wIn (by omega) ?_ | refine nI (by omega) ?_) <;> conv => whnf))
          exact ⟨a + 1, by rw [hsu, hs]; exact (meets_as [(4, some 3)] (by (repeat' apply And.intro) <;> first | rfl | exact True.intro | (intro hh; cases hh))), rfl⟩
    · have hs : (stepB acc q).map fAV = acc.map fAV ++ [fAV q] := by unfold stepB; rw [if_neg (fun h => h0 h.1), if_neg (fun h => h0 h.1)]; simp
      (conv => whnf); (repeat' ((first | refine bT ?_ | refine bF ?_ | refine bN ?_ | ((first | refine bD ?_ ?_ | refine bEq ?_ ?_ | refine bNe ?_ ?_) <;> intro hh <;> try (exfalso; omega)) | (refine apI (by simp [AV.one]) (by simp; omega) ?_) | refine wIn (by omega) ?_ | refine nI (by omega) ?_) <;> conv => whnf))
      exact ⟨a + 1, by rw [hsu, hs]; exact (meets_as [(4, some 3)] (by (repeat' apply And.intro) <;> first | rfl | exact True.intro | (intro hh; cases hh))), rfl⟩
  · rintro a rfl
    rw [show (w.goods.map fAV).length = w.goods.length by simp, List.take_length]
    (conv => whnf); (repeat' ((first | refine bT ?_ | refine bF ?_ | refine bN ?_ | ((first | refine bD ?_ ?_ | refine bEq ?_ ?_ | refine bNe ?_ ?_) <;> intro hh <;> try (exfalso; omega)) | refine wIn (by omega) ?_ | refine nI (by omega) ?_) <;> conv => whnf))
    all_goals rfl
/-- the lists that mend all, and have as few spares as can be -/
def Shop.mins (w : Shop) : List (List Int) := bestL w.goods
def Shop.eF (w : Shop) : Int := if w.eO true ≠ 0 then w.eO true else if w.mins.length = 0 then 3 else 0
theorem eF_0 {w : Shop} (h : w.eF = 0) : w.eO true = 0 ∧ 0 < w.mins.length := by
  unfold Shop.eF at h
  split at h
  · rename_i h1; exact absurd h h1
  · rename_i h1
    split at h
    · cases h
    · exact ⟨by omega, by omega⟩
theorem p84 (w : Shop) (h : w.eF = 0) : FnA Try.prog 84 [.agg w.cells] (· = .tup [.isl (w.mins.map fAV), .int .i64 0]) := by
  obtain ⟨h1, h2⟩ := eF_0 h
  have hk := chk_ok (chk_0 h1)
  have e1 := p69 w true h1
  have e2 := p131 w hk
  have e : bestL w.goods = w.mins := rfl
  rw [e] at e2
  have l : (w.mins.map fAV).length = w.mins.length := by simp
  refine fnA 7 ok84 (by simp) ?_
  (conv => whnf); (repeat' ((first | refine bT ?_ | refine bF ?_ | refine bN ?_ | ((first | refine bD ?_ ?_ | refine bEq ?_ ?_ | refine bNe ?_ ?_) <;> intro hh <;> try (exfalso; omega)) | (refine (e1).callzq rfl rfl fun _ h => ?_; subst h) | (refine (e2).callzq rfl rfl fun _ h => ?_; subst h) | refine wIn (by omega) ?_ | refine nI (by omega) ?_) <;> conv => whnf))
  all_goals rfl
theorem p84e (w : Shop) (h : w.eF ≠ 0) : FnA Try.prog 84 [.agg w.cells] (· = .tup [.isl [], .int .i64 w.eF]) := by
  by_cases h1 : w.eO true = 0
  · have h2 : w.mins.length = 0 := by
      unfold Shop.eF at h
      rw [if_neg (by simpa using h1)] at h
      split at h
      · assumption
      · exact absurd rfl h
    have e0 : w.eF = 3 := by unfold Shop.eF; rw [if_neg (by simpa using h1), if_pos h2]
    rw [e0]
    have hk := chk_ok (chk_0 h1)
    have e1 := p69 w true h1
    have e2 := p131 w hk
    have e : bestL w.goods = w.mins := rfl
    rw [e] at e2
    have l : (w.mins.map fAV).length = w.mins.length := by simp
    refine fnA 7 ok84 (by simp) ?_
    (conv => whnf); (repeat' ((first | refine bT ?_ | refine bF ?_ | refine bN ?_ | ((first | refine bD ?_ ?_ | refine bEq ?_ ?_ | refine bNe ?_ ?_) <;> intro hh <;> try (exfalso; omega)) | (refine (e1).callzq rfl rfl fun _ h => ?_; subst h) | (refine (e2).callzq rfl rfl fun _ h => ?_; subst h) | refine wIn (by omega) ?_ | refine nI (by omega) ?_) <;> conv => whnf))
    all_goals rfl
  · have e0 : w.eF = w.eO true := by unfold Shop.eF; rw [if_pos h1]
    rw [e0]
    have e1 := p69e w true h1
    refine fnA 7 ok84 (by simp) ?_
    (conv => whnf); (repeat' ((first | refine bT ?_ | refine bF ?_ | refine bN ?_ | ((first | refine bD ?_ ?_ | refine bEq ?_ ?_ | refine bNe ?_ ?_) <;> intro hh <;> try (exfalso; omega)) | (refine (e1).callzq rfl rfl fun _ h => ?_; subst h) | refine wIn (by omega) ?_ | refine nI (by omega) ?_) <;> conv => whnf))
    all_goals rfl
def Shop.keep (w : Shop) : List Int := w.mins.getD 0 []
theorem p30 (w : Shop) (h : w.eF = 0) : FnA Try.prog 30 [.agg w.cells] (· = .tup [.isl (w.keep.map jAV), .int .i64 0]) := by
  obtain ⟨h1, h2⟩ := eF_0 h
  have e1 := p84 w h
  have l : (w.mins.map fAV).length = w.mins.length := by simp
  have g1 := fget h2
  refine fnA 2 ok30 (by simp) ?_
  (conv => whnf); (repeat' ((first | refine bT ?_ | refine bF ?_ | refine bN ?_ | ((first | refine bD ?_ ?_ | refine bEq ?_ ?_ | refine bNe ?_ ?_) <;> intro hh <;> try (exfalso; omega)) | (refine (e1).callzq rfl rfl fun _ h => ?_; subst h) | (refine iaI (by omega) (by omega) g1 ?_) | refine wIn (by omega) ?_ | refine nI (by omega) ?_) <;> conv => whnf))
  all_goals rfl
theorem p26 (w : Shop) (h : w.eF = 0) : FnA Try.prog 26 [.agg w.cells] (· = .tup [.int .i64 w.keep.length, .int .i64 0]) := by
  have e1 := p30 w h
  have l : (w.keep.map jAV).length = w.keep.length := by simp
  rw [← l]
  refine fnA 2 ok26 (by simp) ?_
  (conv => whnf); (repeat' ((first | refine bT ?_ | refine bF ?_ | refine bN ?_ | ((first | refine bD ?_ ?_ | refine bEq ?_ ?_ | refine bNe ?_ ?_) <;> intro hh <;> try (exfalso; omega)) | (refine (e1).callzq rfl rfl fun _ h => ?_; subst h) | refine wIn (by omega) ?_ | refine nI (by omega) ?_) <;> conv => whnf))
  all_goals rfl
theorem p88 (l : List Int) (x : Int) (hl : l.length ≤ 1000000) : FnA Try.prog 88 [.isl (l.map jAV), .ipt [.int .i64 x]] (· = .bool (decide (x ∈ l))) := by
  have e1 := p89 l x hl
  refine fnA 0 ok88 (by simp) ?_
  (conv => whnf); (repeat' ((first | refine bT ?_ | refine bF ?_ | refine bN ?_ | ((first | refine bD ?_ ?_ | refine bEq ?_ ?_ | refine bNe ?_ ?_) <;> intro hh <;> try (exfalso; omega)) | (refine (e1).callq rfl rfl fun _ h => ?_; subst h) | refine wIn (by omega) ?_ | refine nI (by omega) ?_) <;> conv => whnf))
  all_goals rfl
def Shop.needB (w : Shop) (x : Int) : Bool := w.mins.all fun l => decide (x ∈ l)
def Shop.needed (w : Shop) : List Int := numF w.sps.length w.needB
theorem p87 (C : List AV) (p : List Int → Bool) (l : List (List Int)) (hl : l.length ≤ 1000000) (hg : ∀ x ∈ l, FnV Try.prog (.fn 88 [.ipt C]) [.isl (x.map jAV)] (· = .bool (p x))) : FnA Try.prog 87 [.isl (l.map fAV), .fn 88 [.ipt C]] (· = .bool (l.all p)) := by
  have hL : (l.map fAV).length = l.length := by simp
  refine fnA 0 ok87 (by simp) ?_
  (conv => whnf); (repeat' ((first | refine bT ?_ | refine bF ?_ | refine bN ?_ | ((first | refine bD ?_ ?_ | refine bEq ?_ ?_ | refine bNe ?_ ?_) <;> intro hh <;> try (exfalso; omega)) | refine wIn (by omega) ?_ | refine nI (by omega) ?_) <;> conv => whnf))
  refine loop_i (α := Nat) (fun k => [(9, .int .i64 k), (8, .int .i64 ↑(l.map fAV).length), (7, .isl (l.map fAV)), (1, .fn 88 [.ipt C])]) (fun k => []) (fun k => k ≤ l.length ∧ ∀ b ∈ l.take k, p b = true) (fun k => l.length - k) 0 (meets_id (by (repeat' apply And.intro) <;> first | rfl | exact True.intro | (intro hh; cases hh))) ⟨by omega, by simp⟩ ?_
  rintro k ⟨h1, h2⟩
  conv => whnf
  refine bD (fun h3 => ?_) (fun h3 => ?_)
  · have hk : k < l.length := by omega
    have hv := hg l[k] (List.getElem_mem hk)
    cases hx : p l[k] with
    | true =>
      rw [hx] at hv
      conv => whnf
      refine iaI (by omega) (by omega) (getM fAV l k hk) ?_
      (conv => whnf); (repeat' ((first | refine bT ?_ | refine bF ?_ | refine bN ?_ | ((first | refine bD ?_ ?_ | refine bEq ?_ ?_ | refine bNe ?_ ?_) <;> intro hh <;> try (exfalso; omega)) | (refine hv.vcallq rfl rfl rfl rfl (fun r (hr : r = _) => ?_); subst hr) | refine wIn (by omega) ?_ | refine nI (by omega) ?_) <;> conv => whnf))
      exact ⟨k + 1, (meets_id (by (repeat' apply And.intro) <;> first | rfl | exact True.intro | (intro hh; cases hh))), ⟨by omega, take_all hk h2 hx⟩, by omega⟩
    | false =>
      rw [hx] at hv
      rw [all_not hk hx]
      conv => whnf
      refine iaI (by omega) (by omega) (getM fAV l k hk) ?_
      (conv => whnf); (repeat' ((first | refine bT ?_ | refine bF ?_ | refine bN ?_ | ((first | refine bD ?_ ?_ | refine bEq ?_ ?_ | refine bNe ?_ ?_) <;> intro hh <;> try (exfalso; omega)) | (refine hv.vcallq rfl rfl rfl rfl (fun r (hr : r = _) => ?_); subst hr) | refine wIn (by omega) ?_ | refine nI (by omega) ?_) <;> conv => whnf))
      all_goals rfl
  · have : k = l.length := by omega
    subst this
    rw [List.take_length] at h2
    rw [all_yes h2]
    (conv => whnf); (repeat' ((first | refine bT ?_ | refine bF ?_ | refine bN ?_ | ((first | refine bD ?_ ?_ | refine bEq ?_ ?_ | refine bNe ?_ ?_) <;> intro hh <;> try (exfalso; omega)) | refine wIn (by omega) ?_ | refine nI (by omega) ?_) <;> conv => whnf))
    all_goals rfl
theorem mins_len {w : Shop} (hk : Ok w) : w.mins.length ≤ 1024 := by
  have := bestL_len (ys := w.goods) (k := w.goods.length) (Nat.le_refl _)
  rw [List.take_length] at this
  have := goods_len hk
  unfold Shop.mins; omega
theorem mins_goods {w : Shop} {l : List Int} (h : l ∈ w.mins) : l ∈ w.goods := by
  have := bestL_sub (ys := w.goods) (k := w.goods.length) (Nat.le_refl _) l
  rw [List.take_length] at this
  exact this h
theorem p86 (w : Shop) (hk : Ok w) (x : Int) : FnA Try.prog 86 [.int .i64 x, .ipt [.isl (w.mins.map fAV)]] (· = .bool (w.needB x)) := by
  have hm := mins_len hk
  have hs := hk.s1
  have e1 := p87 [.int .i64 x] (fun l => decide (x ∈ l)) w.mins (by omega) (fun l hl => fnV_of bd88 (p88 l x (by have := goods_sub (mins_goods hl); omega)))
  unfold Shop.needB
  refine fnA 1 ok86 (by simp) ?_
  (conv => whnf); (repeat' ((first | refine bT ?_ | refine bF ?_ | refine bN ?_ | ((first | refine bD ?_ ?_ | refine bEq ?_ ?_ | refine bNe ?_ ?_) <;> intro hh <;> try (exfalso; omega)) | (refine (e1).lendq rfl fun _ h => ?_; subst h; refine ⟨rfl, ?_⟩) | refine wIn (by omega) ?_ | refine nI (by omega) ?_) <;> conv => whnf))
  all_goals rfl
theorem p28 (w : Shop) (h : w.eF = 0) : FnA Try.prog 28 [.agg w.cells] (· = .tup [.isl (w.needed.map jAV), .int .i64 0]) := by
  obtain ⟨h1, h2⟩ := eF_0 h
  have hk := chk_ok (chk_0 h1)
  have hs := hk.s1
  have e1 := p84 w h
  have l1 : (w.sps.map Spare.av).length = w.sps.length := by simp
  have e2 := p85n (C := [.isl (w.mins.map fAV)]) (C1 := []) (C2 := []) w.sps.length (by omega) w.needB (fun j _ => fnV_of bd86 (p86 w hk j))
  unfold Shop.needed
  rw [← l1] at e2 ⊢
  refine fnA 4 ok28 (by simp) ?_
  (conv => whnf); (repeat' ((first | refine bT ?_ | refine bF ?_ | refine bN ?_ | ((first | refine bD ?_ ?_ | refine bEq ?_ ?_ | refine bNe ?_ ?_) <;> intro hh <;> try (exfalso; omega)) | (refine (e1).callzq rfl rfl fun _ h => ?_; subst h) | (refine (e2).callzq rfl rfl fun _ h => ?_; subst h) | refine wIn (by omega) ?_ | refine nI (by omega) ?_) <;> conv => whnf))
  all_goals rfl
theorem p28e (w : Shop) (h : w.eF ≠ 0) : FnA Try.prog 28 [.agg w.cells] (· = .tup [.isl [], .int .i64 w.eF]) := by
  have e1 := p84e w h
  refine fnA 4 ok28 (by simp) ?_
  (conv => whnf); (repeat' ((first | refine bT ?_ | refine bF ?_ | refine bN ?_ | ((first | refine bD ?_ ?_ | refine bEq ?_ ?_ | refine bNe ?_ ?_) <;> intro hh <;> try (exfalso; omega)) | (refine (e1).callzq rfl rfl fun _ h => ?_; subst h) | refine wIn (by omega) ?_ | refine nI (by omega) ?_) <;> conv => whnf))
  all_goals rfl
/-- of no elements: nil, or not -/
theorem FnA.empties {P : Program} {f : FuncId} {bs : List AV} {R : AV → Prop} (h1 : FnA P f (.nils ::  bs) R) (h2 : ∀ a c, FnA P f (.lit (.slice (some a) 0 c) ::  bs) R) : FnA P f (.isl [] ::  bs) R := by
  unfold FnA at h1 h2 ⊢
  intro imm w vs himm hargs
  simp only [RV0s] at hargs
  obtain ⟨v, vs', rfl, hv, hr⟩ := hargs
  have key : (∃ a c, v = .slice (some a) 0 c) ∨ v = .slice none 0 0 := by
    simp only [RV0] at hv
    rcases hv with ⟨⟨a, rfl⟩, _⟩ | ⟨_, b, off, cap, rfl, _⟩
    · cases a with
      | none => exact .inr rfl
      | some a => exact .inl ⟨a, 0, rfl⟩
    · exact .inl ⟨_, cap, rfl⟩
  rcases key with ⟨a, c, rfl⟩ | rfl
  · exact h2 a c imm w _ himm (by simp only [RV0s]; exact ⟨_, _, rfl, by simp only [RV0], hr⟩)
  · exact h1 imm w _ himm (by simp only [RV0s]; exact ⟨_, _, rfl, by simp only [RV0], hr⟩)
theorem p160e : FnA Try.prog 160 [.isl []] (· = .isl []) := by
  refine FnA.empties ?_ fun a c => ?_
  · refine fnA 2 ok160 (by simp) ?_
    (conv => whnf); (repeat' ((first | refine bT ?_ | refine bF ?_ | refine bN ?_ | ((first | refine bD ?_ ?_ | refine bEq ?_ ?_ | refine bNe ?_ ?_) <;> intro hh <;> try (exfalso; omega)) | refine wIn (by omega) ?_ | refine nI (by omega) ?_) <;> conv => whnf))
    all_goals rfl
  · refine fnA 2 ok160 (by simp) ?_
    (conv => whnf); (repeat' ((first | refine bT ?_ | refine bF ?_ | refine bN ?_ | ((first | refine bD ?_ ?_ | refine bEq ?_ ?_ | refine bNe ?_ ?_) <;> intro hh <;> try (exfalso; omega)) | (refine apI (by simp) (by simp) ?_) | refine wIn (by omega) ?_ | refine nI (by omega) ?_) <;> conv => whnf))
    all_goals rfl
theorem p160 (l : List Int) (h0 : 0 < l.length) (hl : l.length ≤ 1000000) : FnO Try.prog 160 [.isl (l.map jAV)] (fun r rows => r = .row 1 ∧ rows = [(1, .row false 3 1 (l.map jAV))]) := by
  have hL : (l.map jAV).length = l.length := by simp
  refine fnO 2 ok160 (by simp) ?_
  (conv => whnf); (repeat' ((first | refine bT ?_ | refine bF ?_ | refine bN ?_ | ((first | refine bD ?_ ?_ | refine bEq ?_ ?_ | refine bNe ?_ ?_) <;> intro hh <;> try (exfalso; omega)) | (refine apI (fun e he => by obtain ⟨x, _, rfl⟩ := List.mem_map.1 he; simp [jAV, AV.one]) (by simp; omega) ?_) | refine wIn (by omega) ?_ | refine nI (by omega) ?_) <;> conv => whnf))
  all_goals exact ⟨rfl, rfl⟩
def bAV (b : Bool) : List AV := [.bool b]
def trB (tr : List Bool) (x : Int) : Bool := tr.getD x.toNat false
structure Fail (fs : List (List Int)) (left g : List Int) (tr tr' : List Bool) (J : Nat) : Prop where
  sup : ∀ x, trB tr x = true → trB tr' x = true
  all : ∀ x ∈ fsG fs J, trB tr' x = true
  shut : ∀ x, 0 ≤ x → trB tr' x = true → trB tr x = false → left.getD x.toNat 0 = 0 ∧ ∀ j, j < g.length → g.getD j 0 = x → ∀ y ∈ fsG fs j, trB tr' y = true
structure Win (fs : List (List Int)) (left g : List Int) (tr : List Bool) (left' g' : List Int) (J : Nat) : Prop where
  ll : left'.length = left.length
  gl : g'.length = g.length
  nn : Nn left'
  got : g'.getD J 0 ∈ fsG fs J
  oth : ∀ j, j < g.length → j ≠ J → g'.getD j 0 = g.getD j 0 ∨ (g'.getD j 0 ∈ fsG fs j ∧ 0 ≤ g.getD j 0 ∧ trB tr (g.getD j 0) = false)
  tot : ∀ s : Nat, s < left.length → left'.getD s 0 + g'.count (s : Int) + (if g.getD J 0 = s then 1 else 0) = left.getD s 0 + g.count (s : Int)
  shut : ∀ C, Shut fs left g C → Shut fs left' g' C ∧ ¬ C (g'.getD J 0)
structure Pre (fs : List (List Int)) (left g : List Int) (tr : List Bool) (J : Nat) : Prop where
  sp : ∀ j, ∀ s ∈ fsG fs j, 0 ≤ s ∧ s < left.length
  lt : tr.length = left.length
  lg : g.length = fs.length
  jlt : J < fs.length
  nn : Nn left
  gok : ∀ j, j < g.length → g.getD j 0 = -1 ∨ g.getD j 0 ∈ fsG fs j
  own : g.getD J 0 = -1 ∨ trB tr (g.getD J 0) = true
  s1 : left.length ≤ 100
  s2 : fs.length ≤ 100
  s3 : ∀ j, (fsG fs j).length ≤ 100
  s4 : ∀ s, left.getD s 0 ≤ 1000
def untr (tr : List Bool) : Nat := tr.count false
theorem bget {l : List Bool} {i : Nat} (h : i < l.length) : (l.map bAV).getD i [] = [.bool (l.getD i false)] := by
  simp [List.getD_eq_getElem?_getD, h, bAV]
theorem getD_setB (l : List Bool) (i : Nat) (x : Bool) (j : Nat) (hi : i < l.length) : (l.set i x).getD j false = if j = i then x else l.getD j false := by
  simp only [List.getD_eq_getElem?_getD, List.getElem?_set]
  by_cases h : i = j
  · subst h; simp [hi]
  · rw [if_neg h, if_neg (fun e => h e.symm)]
theorem untr_set {tr : List Bool} {i : Nat} (hi : i < tr.length) (h : tr.getD i false = false) : untr (tr.set i true) + 1 = untr tr := by
  unfold untr
  have hg : tr[i] = false := by rw [← h]; simp [List.getD_eq_getElem?_getD, hi]
  rw [List.count_set (h := hi), hg]
  have : 1 ≤ tr.count false := List.count_pos_iff.2 (hg ▸ List.getElem_mem hi)
  simp; omega
theorem untr_le {tr tr' : List Bool} (hl : tr'.length = tr.length) (h : ∀ i, tr.getD i false = true → tr'.getD i false = true) : untr tr' ≤ untr tr := by
  unfold untr
  induction tr generalizing tr' with
  | nil => simp at hl; subst hl; simp
  | cons a tr ih =>
    cases tr' with
    | nil => simp at hl
    | cons b tr' =>
      have h0 := h 0
      have ih := ih (tr' := tr') (by simpa using hl) (fun i hi => by simpa using h (i + 1) (by simpa using hi))
      simp only [List.getD_cons_zero] at h0
      rw [List.count_cons, List.count_cons]
      cases a <;> cases b <;> simp at h0 ⊢ <;> omega
/-- a job takes a spare of which some is left -/
theorem win_take {fs : List (List Int)} {left g : List Int} {tr : List Bool} {J : Nat} (h : Pre fs left g tr J) {x : Int} (hx : x ∈ fsG fs J) (hp : 0 < left.getD x.toNat 0) : Win fs left g tr (left.set x.toNat (left.getD x.toNat 0 - 1)) (g.set J x) J := by
  obtain ⟨h1, h2⟩ := h.sp J x hx
  have hJ : J < g.length := by rw [h.lg]; exact h.jlt
  have hxl : x.toNat < left.length := by omega
  have hgot : (g.set J x).getD J 0 = x := by rw [getD_set _ _ _ _ hJ, if_pos rfl]
  refine ⟨by simp, by simp, nn_set h.nn _ hp, by rw [hgot]; exact hx, fun j hj hne => .inl (by rw [getD_set _ _ _ _ hJ, if_neg hne]), fun s hs => ?_, fun C hC => ⟨fun s hs => ?_, ?_⟩⟩
  · have hc := count_set' g J x (s : Nat) hJ
    rw [getD_set _ _ _ _ hxl]
    by_cases e : s = x.toNat
    · subst e
      rw [if_pos rfl]
      have : x = ((x.toNat : Nat) : Int) := by omega
      rw [if_pos this] at hc
      omega
    · rw [if_neg e]
      have : ¬ x = (s : Int) := by omega
      rw [if_neg this] at hc
      omega
  · obtain ⟨k1, k2⟩ := hC s hs
    have hne : s ≠ x := fun e => by rw [e] at k1; omega
    refine ⟨?_, fun j hj hgj => ?_⟩
    · rw [getD_set _ _ _ _ hxl]
      split
      · rename_i e; rw [e] at k1; omega
      · exact k1
    · rw [getD_set _ _ _ _ hJ] at hgj
      split at hgj
      · exact absurd hgj.symm hne
      · exact k2 j (by simpa using hj) hgj
  · rw [hgot]
    intro hC'
    have := (hC x hC').1
    omega
/-- a job takes a spare that another one gives away -/
theorem win_from {fs : List (List Int)} {left g : List Int} {tr tr1 : List Bool} {J O : Nat} (h : Pre fs left g tr J) {x : Int} (hx : x ∈ fsG fs J) (hO : O < g.length) (hgO : g.getD O 0 = x) (hxt : trB tr x = false) (hsup : ∀ y, trB tr y = true → trB tr1 y = true) {left1 g1 : List Int} (hw : Win fs left g tr1 left1 g1 O) : Win fs left g tr left1 (g1.set J x) J := by
  obtain ⟨h1, h2⟩ := h.sp J x hx
  have hJ : J < g.length := by rw [h.lg]; exact h.jlt
  have hJ1 : J < g1.length := by rw [hw.gl]; exact hJ
  have hne : J ≠ O := fun e => by
    subst e
    rcases h.own with k | k
    · rw [hgO] at k; omega
    · rw [hgO, hxt] at k; cases k
  have hgot : (g1.set J x).getD J 0 = x := by rw [getD_set _ _ _ _ hJ1, if_pos rfl]
  have hgJ : g1.getD J 0 = g.getD J 0 := by
    rcases hw.oth J hJ hne with k | ⟨_, k2, k3⟩
    · exact k
    · rcases h.own with q | q
      · omega
      · rw [hsup _ q] at k3; cases k3
  refine ⟨hw.ll, by simp [hw.gl], hw.nn, by rw [hgot]; exact hx, fun j hj hne2 => ?_, fun s hs => ?_, fun C hC => ?_⟩
  · rw [getD_set _ _ _ _ hJ1, if_neg hne2]
    by_cases e : j = O
    · subst e
      exact .inr ⟨hw.got, by omega, by rw [hgO]; exact hxt⟩
    · rcases hw.oth j hj e with k | ⟨k1, k2, k3⟩
      · exact .inl k
      · refine .inr ⟨k1, k2, ?_⟩
        cases hq : trB tr (g.getD j 0) with
        | false => rfl
        | true => rw [hsup _ hq] at k3; cases k3
  · have hc := count_set' g1 J x (s : Nat) hJ1
    have ht := hw.tot s hs
    rw [hgJ] at hc
    rw [hgO] at ht
    omega
  · obtain ⟨k1, k2⟩ := hw.shut C hC
    have hxC : ¬ C x := fun hc => k2 ((hC x hc).2 O hO hgO _ hw.got)
    refine ⟨fun s hs => ?_, by rw [hgot]; exact hxC⟩
    obtain ⟨q1, q2⟩ := k1 s hs
    refine ⟨q1, fun j hj hgj => ?_⟩
    rw [getD_set _ _ _ _ hJ1] at hgj
    split at hgj
    · subst hgj; exact absurd hs hxC
    · exact q2 j (by simpa using hj) hgj
def wkIns (fs : List (List Int)) (left g : List Int) (tr : List Bool) : List Res := [.box false [.row 1, .row 2, .row 3], .row false 42 1 (fs.map fAV), .row false 3 1 (left.map jAV), .row false 3 1 (g.map jAV), .row false 4 1 (tr.map bAV)]
def giveR (fs : List (List Int)) (left g : List Int) (tr : List Bool) (J : Nat) (r : AV) (outs : List Res) : Prop :=
  ∃ b left' g' tr', r = .bool b ∧ outs = wkIns fs left' g' tr' ∧ tr'.length = tr.length ∧ (b = false → left' = left ∧ g' = g ∧ Fail fs left g tr tr' J) ∧ (b = true → Win fs left g tr left' g' J)
theorem fget' {L : List (List Int)} {j : Nat} (h : j < L.length) : (L.map fAV).getD j [] = [.isl ((fsG L j).map jAV)] := fget h
theorem sup_set {tr : List Bool} {x y : Int} (hx : 0 ≤ x ∧ x.toNat < tr.length) (hy : trB tr y = true) : trB (tr.set x.toNat true) y = true := by
  unfold trB at hy ⊢
  rw [getD_setB _ _ _ _ hx.2]; split
  · rfl
  · exact hy
theorem w136 (fs : List (List Int)) : ∀ (n : Nat) (left g : List Int) (tr : List Bool) (J : Nat), untr tr ≤ n → Pre fs left g tr J → FnW Try.prog 136 [.own 0 0, .int .i64 (J : Nat), .row 4] (wkIns fs left g tr) (giveR fs left g tr J) := by
  intro n
  induction n using Nat.strongRecOn with
  | _ n ih =>
    intro left g tr J hn h
    have hJ : J < g.length := by rw [h.lg]; exact h.jlt
    have hJf := h.jlt
    have hs1 := h.s1
    have hs2 := h.s2
    have hs3 := h.s3 J
    have hlg := h.lg
    have hlt := h.lt
    have lf : (fs.map fAV).length = fs.length := by simp
    have lg : (g.map jAV).length = g.length := by simp
    have ll : (left.map jAV).length = left.length := by simp
    have lJ : ((fsG fs J).map jAV).length = (fsG fs J).length := by simp
    refine fnW 0 [] ok136 (by simp) rfl rfl ?_
    (conv => whnf); (repeat' ((first | refine bT ?_ | refine bF ?_ | refine bN ?_ | ((first | refine bD ?_ ?_ | refine bEq ?_ ?_ | refine bNe ?_ ?_) <;> intro hh <;> try (exfalso; omega)) | (refine iaI (by omega) (by omega) (fget' hJf) ?_) | refine wIn (by omega) ?_ | refine nI (by omega) ?_) <;> conv => whnf))
    refine loop_i (α := Nat × List Bool) (fun q => [(19, .int .i64 q.1), (18, .int .i64 ↑((fsG fs J).map jAV).length), (17, .isl ((fsG fs J).map jAV)), (2, .row 4), (1, .int .i64 J), (0, .own 0 0)]) (fun q => wkIns fs left g q.2) (fun q => q.1 ≤ (fsG fs J).length ∧ q.2.length = tr.length ∧ (∀ x, trB tr x = true → trB q.2 x = true) ∧ (∀ x ∈ (fsG fs J).take q.1, trB q.2 x = true) ∧ ∀ x, 0 ≤ x → trB q.2 x = true → trB tr x = false → left.getD x.toNat 0 = 0 ∧ ∀ j, j < g.length → g.getD j 0 = x → ∀ y ∈ fsG fs j, trB q.2 y = true) (fun q => (fsG fs J).length - q.1) (0, tr) (meets_id (by (repeat' apply And.intro) <;> first | rfl | exact True.intro | (intro hh; cases hh))) ⟨by simp, rfl, fun x hx => hx, by simp, fun x _ h1 h2 => by rw [h1] at h2; cases h2⟩ ?_
    rintro ⟨k, t1⟩ ⟨hk0, hl1, hsup, hall, hshut⟩
    dsimp only at hk0 hl1 hsup hall hshut ⊢
    have lt1 : (t1.map bAV).length = t1.length := by simp
    conv => whnf
    refine bD (fun h3 => ?_) (fun h3 => ?_)
    · have hk : k < (fsG fs J).length := by omega
      have hgx := getM jAV (fsG fs J) k hk
      have hxm : (fsG fs J)[k] ∈ fsG fs J := List.getElem_mem hk
      have htk : ∀ t2 : List Bool, (∀ y ∈ (fsG fs J).take k, trB t2 y = true) → trB t2 (fsG fs J)[k] = true → ∀ y ∈ (fsG fs J).take (k + 1), trB t2 y = true := fun t2 a b => take_all hk a b
      generalize (fsG fs J)[k] = x at hgx hxm htk
      obtain ⟨hx0, hx1⟩ := h.sp J x hxm
      have hxt : x.toNat < t1.length := by omega
      have hxl : x.toNat < left.length := by omega
      have g1 := bget hxt
      have gl := jget hxl
      have gJ := jget hJ
      cases hb : t1.getD x.toNat false with
      | true =>
        rw [hb] at g1
        (conv => whnf); (repeat' ((first | refine bT ?_ | refine bF ?_ | refine bN ?_ | ((first | refine bD ?_ ?_ | refine bEq ?_ ?_ | refine bNe ?_ ?_) <;> intro hh <;> try (exfalso; omega)) | (refine iaI (by omega) (by omega) hgx ?_) | (refine iaI (by omega) (by omega) g1 ?_) | refine wIn (by omega) ?_ | refine nI (by omega) ?_) <;> conv => whnf))
        exact ⟨(k + 1, t1), (meets_id (by (repeat' apply And.intro) <;> first | rfl | exact True.intro | (intro hh; cases hh))), ⟨by dsimp only; omega, hl1, hsup, htk t1 hall hb, hshut⟩, by dsimp only; omega⟩
      | false =>
        rw [hb] at g1
        have hb' : trB t1 x = false := hb
        have hxr : trB tr x = false := by
          cases hq : trB tr x with
          | false => rfl
          | true => rw [hsup x hq] at hb'; cases hb'
        have hu1 := untr_set hxt hb
        have hu2 := untr_le (tr := tr) (tr' := t1) hl1 (fun i hi => by
          have := hsup (i : Nat) (by unfold trB; simpa using hi)
          unfold trB at this; simpa using this)
        have hput : (t1.map bAV).set x.toNat [.bool true] = (t1.set x.toNat true).map bAV := by rw [List.map_set]; rfl
        have hsx : trB (t1.set x.toNat true) x = true := by unfold trB; rw [getD_setB _ _ _ _ hxt, if_pos rfl]
        have hsup2 : ∀ y, trB t1 y = true → trB (t1.set x.toNat true) y = true := fun y hy => sup_set ⟨hx0, hxt⟩ hy
        have hnew : ∀ y, 0 ≤ y → trB (t1.set x.toNat true) y = true → y ≠ x → trB t1 y = true := fun y hy0 hy hne => by
          unfold trB at hy ⊢
          rw [getD_setB _ _ _ _ hxt] at hy
          split at hy
          · omega
          · exact hy
        by_cases hp : 0 < left.getD x.toNat 0
        · -- some are left
          have hput2 : (left.map jAV).set x.toNat [.int .i64 (left.getD x.toNat 0 - 1)] = (left.set x.toNat (left.getD x.toNat 0 - 1)).map jAV := by rw [List.map_set]; rfl
          have hput3 : (g.map jAV).set J [.int .i64 x] = (g.set J x).map jAV := by rw [List.map_set]; rfl
          have hs4 := h.s4 x.toNat
          have hwin := win_take h hxm hp
          (conv => whnf); (repeat' ((first | refine bT ?_ | refine bF ?_ | refine bN ?_ | ((first | refine bD ?_ ?_ | refine bEq ?_ ?_ | refine bNe ?_ ?_) <;> intro hh <;> try (exfalso; omega)) | (refine iaI (by omega) (by omega) hgx ?_) | (refine iaI (by omega) (by omega) g1 ?_) | (refine iaI (by omega) (by omega) gl ?_) | (refine iaI (by omega) (by omega) gJ ?_) | refine wIn (by omega) ?_ | refine nI (by omega) ?_) <;> conv => whnf))
          all_goals
            refine ⟨true, left.set x.toNat (left.getD x.toNat 0 - 1), g.set J x, t1.set x.toNat true, rfl, ?_, by simp [hl1], fun e => Bool.noConfusion e, fun _ => hwin⟩
            unfold wkIns
            rw [← hput, ← hput2, ← hput3]
            rfl
        · -- those that have it
          have hl0 : left.getD x.toNat 0 = 0 := by
            have := h.nn x.toNat hxl
            omega
          have lt2 : (t1.set x.toNat true).length = tr.length := by simp [hl1]
          (conv => whnf); (repeat' ((first | refine bT ?_ | refine bF ?_ | refine bN ?_ | ((first | refine bD ?_ ?_ | refine bEq ?_ ?_ | refine bNe ?_ ?_) <;> intro hh <;> try (exfalso; omega)) | (refine iaI (by omega) (by omega) hgx ?_) | (refine iaI (by omega) (by omega) g1 ?_) | (refine iaI (by omega) (by omega) gl ?_) | refine wIn (by omega) ?_ | refine nI (by omega) ?_) <;> conv => whnf))
          refine loop_i (α := Nat × List Bool) (fun q => [(59, .int .i64 q.1), (58, .int .i64 ↑(g.map jAV).length), (57, .row 3), (19, .int .i64 k), (18, .int .i64 ↑((fsG fs J).map jAV).length), (17, .isl ((fsG fs J).map jAV)), (8, .int .i64 x), (2, .row 4), (1, .int .i64 J), (0, .own 0 0)]) (fun q => wkIns fs left g q.2) (fun q => q.1 ≤ g.length ∧ q.2.length = tr.length ∧ (∀ y, trB (t1.set x.toNat true) y = true → trB q.2 y = true) ∧ (∀ j, j < q.1 → g.getD j 0 = x → ∀ y ∈ fsG fs j, trB q.2 y = true) ∧ ∀ y, 0 ≤ y → trB q.2 y = true → trB tr y = false → y ≠ x → left.getD y.toNat 0 = 0 ∧ ∀ j, j < g.length → g.getD j 0 = y → ∀ z ∈ fsG fs j, trB q.2 z = true) (fun q => g.length - q.1) (0, t1.set x.toNat true) ?_ ⟨by simp, lt2, fun y hy => hy, fun j hj => by dsimp only at hj; omega, fun y hy0 hy hyr hne => ?_⟩ ?_
          · dsimp only
            unfold wkIns
            rw [← hput]
            exact (meets_id (by (repeat' apply And.intro) <;> first | rfl | exact True.intro | (intro hh; cases hh)))
          · obtain ⟨a, b⟩ := hshut y hy0 (hnew y hy0 hy hne) hyr
            exact ⟨a, fun j hj hgj z hz => hsup2 z (b j hj hgj z hz)⟩
          rintro ⟨j, t2⟩ ⟨hj0, hl2, hs2', hpart, hsh2⟩
          dsimp only at hj0 hl2 hs2' hpart hsh2 ⊢
          conv => whnf
          refine bD (fun h5 => ?_) (fun h5 => ?_)
          · have hj : j < g.length := by omega
            have gj := jget hj
            by_cases he : g.getD j 0 = x
            · have hx2 : trB t2 x = true := hs2' x hsx
              have hu3 := untr_le (tr := t1.set x.toNat true) (tr' := t2) (by rw [hl2, lt2]) (fun i hi => by
                have := hs2' (i : Nat) (by unfold trB; simpa using hi)
                unfold trB at this; simpa using this)
              have hpre : Pre fs left g t2 j := ⟨h.sp, by rw [hl2]; exact hlt, hlg, by omega, h.nn, h.gok, .inr (by rw [he]; exact hx2), h.s1, h.s2, h.s3, h.s4⟩
              have hrec := ih (untr t2) (by omega) left g t2 j (Nat.le_refl _) hpre
              (conv => whnf); (repeat' ((first | refine bT ?_ | refine bF ?_ | refine bN ?_ | ((first | refine bD ?_ ?_ | refine bEq ?_ ?_ | refine bNe ?_ ?_) <;> intro hh <;> try (exfalso; omega)) | (refine iaI (by omega) (by omega) gj ?_) | refine wIn (by omega) ?_ | refine nI (by omega) ?_) <;> conv => whnf))
              refine hrec.callwq [0, 1, 2, 3, 4] rfl rfl ⟨rfl, rfl, rfl, rfl, rfl, trivial⟩ rfl rfl rfl rfl (fun r outs hr => ?_)
              obtain ⟨b, left', g', t3, hr1, ho, hl3, hf, hw⟩ := hr
              subst hr1; subst ho
              refine ⟨⟨rfl, rfl, rfl, rfl⟩, ?_⟩
              cases b with
              | false =>
                obtain ⟨e1, e2, hF⟩ := hf rfl
                subst e1; subst e2
                (conv => whnf); (repeat' ((first | refine bT ?_ | refine bF ?_ | refine bN ?_ | ((first | refine bD ?_ ?_ | refine bEq ?_ ?_ | refine bNe ?_ ?_) <;> intro hh <;> try (exfalso; omega)) | refine wIn (by omega) ?_ | refine nI (by omega) ?_) <;> conv => whnf))
                refine ⟨(j + 1, t3), (meets_id (by (repeat' apply And.intro) <;> first | rfl | exact True.intro | (intro hh; cases hh))), ⟨by dsimp only; omega, by rw [hl3, hl2], fun y hy => hF.sup y (hs2' y hy), fun i hi hgi y hy => ?_, fun y hy0 hy hyr hne => ?_⟩, by dsimp only; omega⟩
                · dsimp only at hi
                  by_cases e : i = j
                  · subst e; exact hF.all y hy
                  · exact hF.sup y (hpart i (by omega) hgi y hy)
                · cases hq : trB t2 y with
                  | true =>
                    obtain ⟨a, b⟩ := hsh2 y hy0 hq hyr hne
                    exact ⟨a, fun i hi hgi z hz => hF.sup z (b i hi hgi z hz)⟩
                  | false => exact hF.shut y hy0 hy hq
              | true =>
                have hW := hw rfl
                have hwin := win_from h hxm hj he hxr (fun y hy => hs2' y (hsup2 y (hsup y hy))) hW
                have hJ1 : J < g'.length := by rw [hW.gl]; exact hJ
                have lg1 : (g'.map jAV).length = g'.length := by simp
                have gJ1 := jget hJ1
                have hput3 : (g'.map jAV).set J [.int .i64 x] = (g'.set J x).map jAV := by rw [List.map_set]; rfl
                have hgl := hW.gl
                (conv => whnf); (repeat' ((first | refine bT ?_ | refine bF ?_ | refine bN ?_ | ((first | refine bD ?_ ?_ | refine bEq ?_ ?_ | refine bNe ?_ ?_) <;> intro hh <;> try (exfalso; omega)) | (refine iaI (by omega) (by omega) gJ1 ?_) | refine wIn (by omega) ?_ | refine nI (by omega) ?_) <;> conv => whnf))
                all_goals
                  refine ⟨true, left', g'.set J x, t3, rfl, ?_, by rw [hl3, hl2], fun e => Bool.noConfusion e, fun _ => hwin⟩
                  unfold wkIns
                  rw [← hput3]
                  rfl
            · (conv => whnf); (repeat' ((first | refine bT ?_ | refine bF ?_ | refine bN ?_ | ((first | refine bD ?_ ?_ | refine bEq ?_ ?_ | refine bNe ?_ ?_) <;> intro hh <;> try (exfalso; omega)) | (refine iaI (by omega) (by omega) gj ?_) | refine wIn (by omega) ?_ | refine nI (by omega) ?_) <;> conv => whnf))
              refine ⟨(j + 1, t2), (meets_id (by (repeat' apply And.intro) <;> first | rfl | exact True.intro | (intro hh; cases hh))), ⟨by dsimp only; omega, hl2, hs2', fun i hi hgi y hy => ?_, hsh2⟩, by dsimp only; omega⟩
              dsimp only at hi
              by_cases e : i = j
              · subst e; exact absurd hgi he
              · exact hpart i (by omega) hgi y hy
          · have : j = g.length := by omega
            subst this
            (conv => whnf); (repeat' ((first | refine bT ?_ | refine bF ?_ | refine bN ?_ | ((first | refine bD ?_ ?_ | refine bEq ?_ ?_ | refine bNe ?_ ?_) <;> intro hh <;> try (exfalso; omega)) | refine wIn (by omega) ?_ | refine nI (by omega) ?_) <;> conv => whnf))
            refine ⟨(k + 1, t2), (meets_id (by (repeat' apply And.intro) <;> first | rfl | exact True.intro | (intro hh; cases hh))), ⟨by dsimp only; omega, hl2, fun y hy => hs2' y (hsup2 y (hsup y hy)), htk t2 (fun y hy => hs2' y (hsup2 y (hall y hy))) (hs2' x hsx), fun y hy0 hy hyr => ?_⟩, by dsimp only; omega⟩
            by_cases e : y = x
            · subst e
              exact ⟨hl0, hpart⟩
            · exact hsh2 y hy0 hy hyr e
    · have : k = (fsG fs J).length := by omega
      subst this
      rw [List.take_length] at hall
      (conv => whnf); (repeat' ((first | refine bT ?_ | refine bF ?_ | refine bN ?_ | ((first | refine bD ?_ ?_ | refine bEq ?_ ?_ | refine bNe ?_ ?_) <;> intro hh <;> try (exfalso; omega)) | refine wIn (by omega) ?_ | refine nI (by omega) ?_) <;> conv => whnf))
      all_goals exact ⟨false, left, g, t1, rfl, rfl, hl1, fun _ => ⟨rfl, rfl, ⟨hsup, hall, hshut⟩⟩, fun e => Bool.noConfusion e⟩
theorem p136e (fs : List (List Int)) (g : List Int) (J : Nat) (hJ : J < fs.length) (h2 : fs.length ≤ 100) (h0 : fsG fs J = []) : FnA Try.prog 136 [.ipt [.isl (fs.map fAV), .isl [], .isl (g.map jAV)], .int .i64 (J : Nat), .isl []] (· = .bool false) := by
  have lf : (fs.map fAV).length = fs.length := by simp
  have gf := fget' hJ
  rw [h0] at gf
  refine fnA 0 ok136 (by simp) ?_
  (conv => whnf); (repeat' ((first | refine bT ?_ | refine bF ?_ | refine bN ?_ | ((first | refine bD ?_ ?_ | refine bEq ?_ ?_ | refine bNe ?_ ?_) <;> intro hh <;> try (exfalso; omega)) | (refine iaI (by omega) (by omega) gf ?_) | refine wIn (by omega) ?_ | refine nI (by omega) ?_) <;> conv => whnf))
  refine loop_i (α := Unit) (fun q => [(19, .int .i64 0), (18, .int .i64 0)]) (fun q => []) (fun q => True) (fun q => 0) () (meets_id (by (repeat' apply And.intro) <;> first | rfl | exact True.intro | (intro hh; cases hh))) trivial ?_
  intro _ _
  (conv => whnf); (repeat' ((first | refine bT ?_ | refine bF ?_ | refine bN ?_ | ((first | refine bD ?_ ?_ | refine bEq ?_ ?_ | refine bNe ?_ ?_) <;> intro hh <;> try (exfalso; omega)) | refine wIn (by omega) ?_ | refine nI (by omega) ?_) <;> conv => whnf))
  all_goals rfl
def Shop.isSt (w : Shop) (st : List Int) : Bool := decide (st.length = w.sps.length) && st.all fun n => decide (0 ≤ n ∧ n ≤ 10)
def Shop.areJ (w : Shop) (js : List Job) : Bool := decide (js.length ≤ 10) && js.all fun j => w.isSl j.mkr j.sl
theorem p157 (n : Int) : FnA Try.prog 157 [.int .i64 n] (· = .bool (decide (0 ≤ n ∧ n ≤ 10))) := by
  have e1 := p114 n 0 10
  refine fnA 0 ok157 (by simp) ?_
  (conv => whnf); (repeat' ((first | refine bT ?_ | refine bF ?_ | refine bN ?_ | ((first | refine bD ?_ ?_ | refine bEq ?_ ?_ | refine bNe ?_ ?_) <;> intro hh <;> try (exfalso; omega)) | (refine (e1).callq rfl rfl fun _ h => ?_; subst h) | refine wIn (by omega) ?_ | refine nI (by omega) ?_) <;> conv => whnf))
  all_goals rfl
theorem p133 (w : Shop) (st : List Int) (hs : w.sps.length ≤ 1000000) (hst : st.length ≤ 1000000) : FnA Try.prog 133 [.agg w.cells, .isl (st.map jAV)] (· = .bool (w.isSt st)) := by
  have l1 : (w.sps.map Spare.av).length = w.sps.length := by simp
  have l2 : (st.map jAV).length = st.length := by simp
  have e1 := p127s (C := []) (fun n => decide (0 ≤ n ∧ n ≤ 10)) st hst (fun n _ => fnV_of bd157 (p157 n))
  unfold Shop.isSt
  refine fnA 1 ok133 (by simp) ?_
  by_cases h : st.length = w.sps.length
  · rw [decide_eq_true h]
    (conv => whnf); (repeat' ((first | refine bT ?_ | refine bF ?_ | refine bN ?_ | ((first | refine bD ?_ ?_ | refine bEq ?_ ?_ | refine bNe ?_ ?_) <;> intro hh <;> try (exfalso; omega)) | (refine (e1).callq rfl rfl fun _ h => ?_; subst h) | refine wIn (by omega) ?_ | refine nI (by omega) ?_) <;> conv => whnf))
    all_goals rfl
  · rw [decide_eq_false h]
    (conv => whnf); (repeat' ((first | refine bT ?_ | refine bF ?_ | refine bN ?_ | ((first | refine bD ?_ ?_ | refine bEq ?_ ?_ | refine bNe ?_ ?_) <;> intro hh <;> try (exfalso; omega)) | refine wIn (by omega) ?_ | refine nI (by omega) ?_) <;> conv => whnf))
    all_goals rfl
theorem p159 (w : Shop) (j : Job) (hw : w.mks.length ≤ 1000000) (hm : ∀ x ∈ w.mks, x.length ≤ 1000000) : FnA Try.prog 159 [.agg j.av, .ipt w.cells] (· = .bool (w.isSl j.mkr j.sl)) := by
  have e1 := p73 w j.mkr j.sl hw hm
  refine fnA 1 ok159 (by simp) ?_
  (conv => whnf); (repeat' ((first | refine bT ?_ | refine bF ?_ | refine bN ?_ | ((first | refine bD ?_ ?_ | refine bEq ?_ ?_ | refine bNe ?_ ?_) <;> intro hh <;> try (exfalso; omega)) | (refine (e1).callq rfl rfl fun _ h => ?_; subst h) | refine wIn (by omega) ?_ | refine nI (by omega) ?_) <;> conv => whnf))
  all_goals rfl
theorem p134 (w : Shop) (js : List Job) (hw : w.mks.length ≤ 1000000) (hm : ∀ x ∈ w.mks, x.length ≤ 1000000) (hj : js.length ≤ 1000000) : FnA Try.prog 134 [.agg w.cells, .isl (js.map Job.av)] (· = .bool (w.areJ js)) := by
  have l2 : (js.map Job.av).length = js.length := by simp
  have e1 := p158 (C := w.cells) (fun j => w.isSl j.mkr j.sl) js hj (fun j _ => fnV_of bd159 (p159 w j hw hm))
  unfold Shop.areJ
  refine fnA 1 ok134 (by simp) ?_
  by_cases h : js.length ≤ 10
  · rw [decide_eq_true h]
    (conv => whnf); (repeat' ((first | refine bT ?_ | refine bF ?_ | refine bN ?_ | ((first | refine bD ?_ ?_ | refine bEq ?_ ?_ | refine bNe ?_ ?_) <;> intro hh <;> try (exfalso; omega)) | (refine (e1).lendq rfl fun _ h => ?_; subst h; refine ⟨rfl, ?_⟩) | refine wIn (by omega) ?_ | refine nI (by omega) ?_) <;> conv => whnf))
    all_goals rfl
  · rw [decide_eq_false h]
    (conv => whnf); (repeat' ((first | refine bT ?_ | refine bF ?_ | refine bN ?_ | ((first | refine bD ?_ ?_ | refine bEq ?_ ?_ | refine bNe ?_ ?_) <;> intro hh <;> try (exfalso; omega)) | refine wIn (by omega) ?_ | refine nI (by omega) ?_) <;> conv => whnf))
    all_goals rfl
/-- work with which no more jobs get a spare -/
structure Best (fs : List (List Int)) (st left g : List Int) : Prop where
  ll : left.length = st.length
  lg : g.length = fs.length
  nn : Nn left
  gok : ∀ j, j < g.length → g.getD j 0 = -1 ∨ g.getD j 0 ∈ fsG fs j
  tot : ∀ s : Nat, s < st.length → left.getD s 0 + (g.count (s : Int) : Int) = st.getD s 0
  shut : ∀ j, j < g.length → g.getD j 0 = -1 → ∃ C, Shut fs left g C ∧ ∀ x ∈ fsG fs j, C x
def Shop.fsJ (w : Shop) (js : List Job) : List (List Int) := js.map fun j => w.sures j.mkr j.sl
theorem fsJ_len (w : Shop) (js : List Job) : (w.fsJ js).length = js.length := by simp [Shop.fsJ]
theorem fsJ_sp {w : Shop} {js : List Job} {j : Nat} {s : Int} (h : s ∈ fsG (w.fsJ js) j) : 0 ≤ s ∧ s < w.sps.length := by
  unfold fsG Shop.fsJ at h
  by_cases hj : j < js.length
  · have : (js.map fun j => w.sures j.mkr j.sl).getD j [] = w.sures js[j].mkr js[j].sl := by simp [List.getD_eq_getElem?_getD, hj]
    rw [this] at h
    exact (mem_numF.1 h).1
  · have : (js.map fun j => w.sures j.mkr j.sl).getD j [] = [] := by simp [List.getD_eq_getElem?_getD, show js[j]? = none from List.getElem?_eq_none (by omega)]
    rw [this] at h; cases h
theorem fsJ_len3 (w : Shop) (js : List Job) (j : Nat) : (fsG (w.fsJ js) j).length ≤ w.sps.length := by
  unfold fsG Shop.fsJ
  by_cases hj : j < js.length
  · have : (js.map fun j => w.sures j.mkr j.sl).getD j [] = w.sures js[j].mkr js[j].sl := by simp [List.getD_eq_getElem?_getD, hj]
    rw [this]; exact sures_len _ _ _
  · have : (js.map fun j => w.sures j.mkr j.sl).getD j [] = [] := by simp [List.getD_eq_getElem?_getD, show js[j]? = none from List.getElem?_eq_none (by omega)]
    rw [this]; simp
/-- a part of the jobs was served -/
structure Part1 (fs : List (List Int)) (st : List Int) (k : Nat) (left g : List Int) : Prop where
  ll : left.length = st.length
  lg : g.length = fs.length
  nn : Nn left
  gok : ∀ j, j < g.length → g.getD j 0 = -1 ∨ g.getD j 0 ∈ fsG fs j
  tot : ∀ s : Nat, s < st.length → left.getD s 0 + (g.count (s : Int) : Int) = st.getD s 0
  shut : ∀ j, j < k → j < g.length → g.getD j 0 = -1 → ∃ C, Shut fs left g C ∧ ∀ x ∈ fsG fs j, C x
  rest : ∀ j, k ≤ j → j < g.length → g.getD j 0 = -1
theorem part_pre {fs : List (List Int)} {st left g : List Int} {k : Nat} (h : Part1 fs st k left g) (hk : k < fs.length) (hsp : ∀ j, ∀ s ∈ fsG fs j, 0 ≤ s ∧ s < st.length) (h1 : st.length ≤ 100) (h2 : fs.length ≤ 100) (h3 : ∀ j, (fsG fs j).length ≤ 100) (h4 : ∀ s, st.getD s 0 ≤ 1000) : Pre fs left g (List.replicate st.length false) k := by
  refine ⟨fun j s hs => by rw [h.ll]; exact hsp j s hs, by simp [h.ll], h.lg, hk, h.nn, h.gok, .inl (h.rest k (Nat.le_refl _) (by rw [h.lg]; exact hk)), by rw [h.ll]; exact h1, h2, h3, fun s => ?_⟩
  by_cases hs : s < st.length
  · have := h.tot s hs
    have := h4 s
    omega
  · have : left.getD s 0 = 0 := by simp [List.getD_eq_getElem?_getD, show left[s]? = none from List.getElem?_eq_none (by rw [h.ll]; omega)]
    omega
theorem part_win {fs : List (List Int)} {st left g left' g' : List Int} {tr : List Bool} {k : Nat} (h : Part1 fs st k left g) (hk : k < fs.length) (hsp : ∀ j, ∀ s ∈ fsG fs j, 0 ≤ s ∧ s < st.length) (hw : Win fs left g tr left' g' k) : Part1 fs st (k + 1) left' g' := by
  have hkg : k < g.length := by rw [h.lg]; exact hk
  have hr := h.rest k (Nat.le_refl _) hkg
  have hpos : ∀ j, g'.getD j 0 ∈ fsG fs j → g'.getD j 0 ≠ -1 := fun j hj e => by have := hsp j _ hj; omega
  refine ⟨by rw [hw.ll, h.ll], by rw [hw.gl, h.lg], hw.nn, fun j hj => ?_, fun s hs => ?_, fun j hj hjl hgj => ?_, fun j hj hjl => ?_⟩
  · rw [hw.gl] at hj
    by_cases e : j = k
    · subst e; exact .inr hw.got
    · rcases hw.oth j hj e with q | q
      · rw [q]; exact h.gok j hj
      · exact .inr q.1
  · have := hw.tot s (by rw [h.ll]; exact hs)
    rw [hr] at this
    have := h.tot s hs
    rw [if_neg (by omega)] at *
    omega
  · rw [hw.gl] at hjl
    by_cases e : j = k
    · subst e; exact absurd hgj (hpos j hw.got)
    · rcases hw.oth j hjl e with q | q
      · rw [q] at hgj
        obtain ⟨C, c1, c2⟩ := h.shut j (by omega) hjl hgj
        exact ⟨C, (hw.shut C c1).1, c2⟩
      · exact absurd hgj (hpos j q.1)
  · rw [hw.gl] at hjl
    have hrj := h.rest j (by omega) hjl
    rcases hw.oth j hjl (by omega) with q | q
    · rw [q]; exact hrj
    · omega
theorem part_fail {fs : List (List Int)} {st left g : List Int} {tr : List Bool} {k : Nat} (h : Part1 fs st k left g) (hsp : ∀ j, ∀ s ∈ fsG fs j, 0 ≤ s ∧ s < st.length) (hf : Fail fs left g (List.replicate st.length false) tr k) : Part1 fs st (k + 1) left g := by
  refine ⟨h.ll, h.lg, h.nn, h.gok, h.tot, fun j hj hjl hgj => ?_, fun j hj hjl => h.rest j (by omega) hjl⟩
  by_cases e : j = k
  · subst e
    refine ⟨fun x => 0 ≤ x ∧ trB tr x = true, fun s hs => ?_, fun x hx => ⟨(hsp j x hx).1, hf.all x hx⟩⟩
    obtain ⟨a, b⟩ := hf.shut s hs.1 hs.2 (by unfold trB; simp [List.getD_eq_getElem?_getD, List.getElem?_replicate]; split <;> rfl)
    exact ⟨a, fun i hi hgi x hx => ⟨(hsp i x hx).1, b i hi hgi x hx⟩⟩
  · exact h.shut j (by omega) hjl hgj
theorem part_best {fs : List (List Int)} {st left g : List Int} (h : Part1 fs st fs.length left g) : Best fs st left g :=
  ⟨h.ll, h.lg, h.nn, h.gok, h.tot, fun j hj hgj => h.shut j (by rw [← h.lg]; exact hj) hj hgj⟩
theorem part_0 {fs : List (List Int)} {st : List Int} (hn : Nn st) : Part1 fs st 0 st (List.replicate fs.length (-1)) := by
  refine ⟨rfl, by simp, hn, fun j hj => .inl ?_, fun s hs => ?_, fun j hj => by omega, fun j _ hj => ?_⟩
  · have hj : j < fs.length := by simpa using hj
    simp [List.getD_eq_getElem?_getD, List.getElem?_replicate, hj]
  · rw [List.count_replicate]
    have : ¬ ((-1 : Int) == (s : Int)) = true := by simp
    rw [if_neg this]; omega
  · have hj : j < fs.length := by simpa using hj
    simp [List.getD_eq_getElem?_getD, List.getElem?_replicate, hj]
theorem isSt_iff {w : Shop} {st : List Int} : w.isSt st = true ↔ st.length = w.sps.length ∧ ∀ s, s < st.length → 0 ≤ st.getD s 0 ∧ st.getD s 0 ≤ 10 := by
  unfold Shop.isSt
  rw [Bool.and_eq_true, decide_eq_true_iff, List.all_eq_true]
  refine and_congr_right fun _ => ⟨fun h s hs => ?_, fun h x hx => ?_⟩
  · have := h _ (List.getElem_mem hs)
    have e : st.getD s 0 = st[s] := by simp [List.getD_eq_getElem?_getD, hs]
    rw [e]; exact of_decide_eq_true this
  · obtain ⟨s, hs, rfl⟩ := List.getElem_of_mem hx
    have := h s hs
    have e : st.getD s 0 = st[s] := by simp [List.getD_eq_getElem?_getD, hs]
    rw [e] at this; exact decide_eq_true this
theorem areJ_iff {w : Shop} {js : List Job} : w.areJ js = true ↔ js.length ≤ 10 ∧ ∀ j ∈ js, w.isSl j.mkr j.sl = true := by
  unfold Shop.areJ
  rw [Bool.and_eq_true, decide_eq_true_iff, List.all_eq_true]
theorem p135 (w : Shop) (hk : Ok w) (st : List Int) (js : List Job) (hst : w.isSt st = true) (hjs : w.areJ js = true) (h0 : 0 < st.length) : FnO Try.prog 135 [.agg w.scL, .isl (st.map jAV), .isl (js.map Job.av)] (fun r rows => ∃ left g, Best (w.fsJ js) st left g ∧ r = .agg [.row 11, .row 2, .row 12] ∧ rows = [(11, .row false 42 1 ((w.fsJ js).map fAV)), (2, .row false 3 1 (left.map jAV)), (12, .row false 3 1 (g.map jAV))]) := by
  obtain ⟨hs1, hs2⟩ := isSt_iff.1 hst
  obtain ⟨hj1, hj2⟩ := areJ_iff.1 hjs
  have hk1 := hk.s1
  have l1 : (st.map jAV).length = st.length := by simp
  have l2 : (js.map Job.av).length = js.length := by simp
  have hnn : Nn st := fun s hs => (hs2 s hs).1
  have hsp : ∀ j, ∀ s ∈ fsG (w.fsJ js) j, 0 ≤ s ∧ s < st.length := fun j s hs => by have := fsJ_sp hs; omega
  have hfl := fsJ_len w js
  have e1 := p160 st h0 (by omega)
  refine fnO 13 ok135 (by simp) ?_
  (conv => whnf); (repeat' ((first | refine bT ?_ | refine bF ?_ | refine bN ?_ | ((first | refine bD ?_ ?_ | refine bEq ?_ ?_ | refine bNe ?_ ?_) <;> intro hh <;> try (exfalso; omega)) | (refine (e1).callzq rfl rfl fun _ _ h => ?_; obtain ⟨h, k⟩ := h; subst h; subst k; refine ⟨rfl, ?_⟩) | refine wIn (by omega) ?_ | refine nI (by omega) ?_) <;> conv => whnf))
  refine loop_i (α := Nat) (fun k => [(16, .int .i64 k), (15, .int .i64 ↑(js.map Job.av).length), (14, .isl (js.map Job.av)), (7, .own 3 0), (6, .own 1 0), (3, .own 0 0), (2, .isl (js.map Job.av)), (1, .isl (st.map jAV))]) (fun k => [.box false w.scL, .box false [.nils, .nils, .nils], .row false 3 1 (st.map jAV), .box false [.row 11, .row 2, .row 12], .fresh, .fresh, .fresh, .fresh, .fresh, .fresh, .fresh, .row false 42 1 ((w.fsJ (js.take k)).map fAV), .row false 3 1 ((List.replicate k (-1 : Int)).map jAV)]) (fun k => k ≤ js.length) (fun k => js.length - k) 0 (meets_as [(11, none), (12, none)] (by (repeat' apply And.intro) <;> first | rfl | exact True.intro | (intro hh; cases hh))) (by omega) ?_
  · intro k hk0
    conv => whnf
    refine bD (fun h3 => ?_) (fun h3 => ?_)
    · have hkl : k < js.length := by omega
      have gj := getM Job.av js k hkl
      have hsl := hj2 _ (List.getElem_mem hkl)
      have e2 := p161 w hk js[k].mkr js[k].sl hsl
      have hm1 : (w.fsJ (js.take (k + 1))).map fAV = (w.fsJ (js.take k)).map fAV ++ [fAV (w.sures js[k].mkr js[k].sl)] := by
        unfold Shop.fsJ; rw [List.take_succ_eq_append_getElem hkl, List.map_append, List.map_append]; rfl
      have hm2 : (List.replicate (k + 1) (-1 : Int)).map jAV = (List.replicate k (-1 : Int)).map jAV ++ [[.int .i64 (-1)]] := by
        rw [List.replicate_succ', List.map_append]; rfl
      have l3 : ((w.fsJ (js.take k)).map fAV).length = k := by rw [List.length_map, fsJ_len, List.length_take]; omega
      have l4 : ((List.replicate k (-1 : Int)).map jAV).length = k := by simp
      (conv => whnf); (repeat' ((first | refine bT ?_ | refine bF ?_ | refine bN ?_ | ((first | refine bD ?_ ?_ | refine bEq ?_ ?_ | refine bNe ?_ ?_) <;> intro hh <;> try (exfalso; omega)) | (refine iaI (by omega) (by omega) gj ?_) | (refine (e2).callzq rfl rfl fun _ h => ?_; subst h) | (refine apI (by simp [AV.one]) (by simp only [l3]; simp; omega) ?_) | (refine apI (by simp [AV.one]) (by simp only [l4]; simp; omega) ?_) | refine wIn (by omega) ?_ | refine nI (by omega) ?_) <;> conv => whnf))
      refine ⟨k + 1, ?_, by omega, by omega⟩
      rw [hm1, hm2]
      exact (meets_as [(11, some 7), (12, some 9)] (by (repeat' apply And.intro) <;> first | rfl | exact True.intro | (intro hh; cases hh)))
    · have : k = js.length := by omega
      subst this
      rw [List.take_length]
      (conv => whnf); (repeat' ((first | refine bT ?_ | refine bF ?_ | refine bN ?_ | ((first | refine bD ?_ ?_ | refine bEq ?_ ?_ | refine bNe ?_ ?_) <;> intro hh <;> try (exfalso; omega)) | refine wIn (by omega) ?_ | refine nI (by omega) ?_) <;> conv => whnf))
      refine loop_i (α := Nat × List Int × List Int) (fun q => [(39, .int .i64 q.1), (38, .int .i64 ↑(js.map Job.av).length), (7, .own 3 0), (6, .own 1 0), (3, .own 0 0), (2, .isl (js.map Job.av)), (1, .isl (st.map jAV))]) (fun q => [.box false w.scL, .box false [.nils, .nils, .nils], .row false 3 1 (q.2.1.map jAV), .box false [.row 11, .row 2, .row 12], .fresh, .fresh, .fresh, .fresh, .fresh, .fresh, .fresh, .row false 42 1 ((w.fsJ js).map fAV), .row false 3 1 (q.2.2.map jAV)]) (fun q => q.1 ≤ js.length ∧ Part1 (w.fsJ js) st q.1 q.2.1 q.2.2) (fun q => js.length - q.1) (0, st, List.replicate (w.fsJ js).length (-1)) ?_ ⟨by simp, part_0 hnn⟩ ?_
      · dsimp only
        rw [hfl]
        exact (meets_id (by (repeat' apply And.intro) <;> first | rfl | exact True.intro | (intro hh; cases hh)))
      rintro ⟨k, left, g⟩ ⟨hk0, hP⟩
      dsimp only at hk0 hP ⊢
      conv => whnf
      refine bD (fun h3 => ?_) (fun h3 => ?_)
      · have hkl : k < js.length := by omega
        have hkf : k < (w.fsJ js).length := by rw [hfl]; exact hkl
        have hpre := part_pre hP hkf hsp (by omega) (by omega) (fun j => by have := fsJ_len3 w js j; omega) (fun s => by
          by_cases hs : s < st.length
          · have := hs2 s hs; omega
          · have : st.getD s 0 = 0 := by simp [List.getD_eq_getElem?_getD, show st[s]? = none from List.getElem?_eq_none (by omega)]
            omega)
        have hg := w136 (w.fsJ js) _ left g (List.replicate st.length false) k (Nat.le_refl _) hpre
        have hrep : List.replicate (↑(st.map jAV).length : Int).toNat [AV.bool false] = (List.replicate st.length false).map bAV := by simp [bAV]
        have hg' := hg
        unfold wkIns at hg'
        rw [← hrep] at hg'
        (conv => whnf); (repeat' ((first | refine bT ?_ | refine bF ?_ | refine bN ?_ | ((first | refine bD ?_ ?_ | refine bEq ?_ ?_ | refine bNe ?_ ?_) <;> intro hh <;> try (exfalso; omega)) | (refine mkI (by omega) (by omega) (by omega) ?_) | refine wIn (by omega) ?_ | refine nI (by omega) ?_) <;> conv => whnf))
        refine hg'.callwq [3, 11, 2, 12, 10] rfl rfl ⟨rfl, rfl, rfl, rfl, rfl, trivial⟩ rfl rfl rfl rfl (fun r outs hr => ?_)
        obtain ⟨b, left', g', t3, hr1, ho, hl3, hf, hw⟩ := hr
        subst hr1; subst ho
        refine ⟨⟨rfl, rfl, rfl, rfl⟩, ?_⟩
        cases b with
        | false =>
          obtain ⟨q1, q2, hF⟩ := hf rfl
          subst q1; subst q2
          have hN := part_fail hP hsp hF
          (conv => whnf); (repeat' ((first | refine bT ?_ | refine bF ?_ | refine bN ?_ | ((first | refine bD ?_ ?_ | refine bEq ?_ ?_ | refine bNe ?_ ?_) <;> intro hh <;> try (exfalso; omega)) | refine wIn (by omega) ?_ | refine nI (by omega) ?_) <;> conv => whnf))
          exact ⟨(k + 1, left', g'), (meets_id (by (repeat' apply And.intro) <;> first | rfl | exact True.intro | (intro hh; cases hh))), ⟨by dsimp only; omega, hN⟩, by dsimp only; omega⟩
        | true =>
          have hN := part_win hP hkf hsp (hw rfl)
          (conv => whnf); (repeat' ((first | refine bT ?_ | refine bF ?_ | refine bN ?_ | ((first | refine bD ?_ ?_ | refine bEq ?_ ?_ | refine bNe ?_ ?_) <;> intro hh <;> try (exfalso; omega)) | refine wIn (by omega) ?_ | refine nI (by omega) ?_) <;> conv => whnf))
          exact ⟨(k + 1, left', g'), (meets_id (by (repeat' apply And.intro) <;> first | rfl | exact True.intro | (intro hh; cases hh))), ⟨by dsimp only; omega, hN⟩, by dsimp only; omega⟩
      · have : k = js.length := by omega
        subst this
        rw [← hfl] at hP
        (conv => whnf); (repeat' ((first | refine bT ?_ | refine bF ?_ | refine bN ?_ | ((first | refine bD ?_ ?_ | refine bEq ?_ ?_ | refine bNe ?_ ?_) <;> intro hh <;> try (exfalso; omega)) | refine wIn (by omega) ?_ | refine nI (by omega) ?_) <;> conv => whnf))
        all_goals exact ⟨left, g, part_best hP, rfl, rfl⟩
theorem p135e (w : Shop) (hk : Ok w) (st : List Int) (js : List Job) (hst : w.isSt st = true) (hjs : w.areJ js = true) (h0 : st.length = 0) : FnO Try.prog 135 [.agg w.scL, .isl (st.map jAV), .isl (js.map Job.av)] (fun r rows => ∃ left g, Best (w.fsJ js) st left g ∧ r = .agg [.row 11, .isl [], .row 12] ∧ rows = [(11, .row false 42 1 ((w.fsJ js).map fAV)), (12, .row false 3 1 (g.map jAV))]) := by
  obtain ⟨hs1, hs2⟩ := isSt_iff.1 hst
  obtain ⟨hj1, hj2⟩ := areJ_iff.1 hjs
  have hk1 := hk.s1
  have l1 : (st.map jAV).length = st.length := by simp
  have l2 : (js.map Job.av).length = js.length := by simp
  have hnn : Nn st := fun s hs => (hs2 s hs).1
  have hsp : ∀ j, ∀ s ∈ fsG (w.fsJ js) j, 0 ≤ s ∧ s < st.length := fun j s hs => by have := fsJ_sp hs; omega
  have hfl := fsJ_len w js
  have hst0 : st = [] := List.eq_nil_of_length_eq_zero h0
  subst hst0
  have e1 := p160e
  refine fnO 13 ok135 (by simp) ?_
  (conv => whnf); (repeat' ((first | refine bT ?_ | refine bF ?_ | refine bN ?_ | ((first | refine bD ?_ ?_ | refine bEq ?_ ?_ | refine bNe ?_ ?_) <;> intro hh <;> try (exfalso; omega)) | (refine (e1).callzq rfl rfl fun _ h => ?_; subst h) | refine wIn (by omega) ?_ | refine nI (by omega) ?_) <;> conv => whnf))
  refine loop_i (α := Nat) (fun k => [(16, .int .i64 k), (15, .int .i64 ↑(js.map Job.av).length), (14, .isl (js.map Job.av)), (7, .own 3 0), (6, .own 1 0), (3, .own 0 0), (2, .isl (js.map Job.av)), (1, .isl (([] : List Int).map jAV))]) (fun k => [.box false w.scL, .box false [.nils, .nils, .nils], .fresh, .box false [.row 11, .isl [], .row 12], .fresh, .fresh, .fresh, .fresh, .fresh, .fresh, .fresh, .row false 42 1 ((w.fsJ (js.take k)).map fAV), .row false 3 1 ((List.replicate k (-1 : Int)).map jAV)]) (fun k => k ≤ js.length) (fun k => js.length - k) 0 (meets_as [(11, none), (12, none)] (by (repeat' apply And.intro) <;> first | rfl | exact True.intro | (intro hh; cases hh))) (by omega) ?_
  · intro k hk0
    conv => whnf
    refine bD (fun h3 => ?_) (fun h3 => ?_)
    · have hkl : k < js.length := by omega
      have gj := getM Job.av js k hkl
      have hsl := hj2 _ (List.getElem_mem hkl)
      have e2 := p161 w hk js[k].mkr js[k].sl hsl
      have hm1 : (w.fsJ (js.take (k + 1))).map fAV = (w.fsJ (js.take k)).map fAV ++ [fAV (w.sures js[k].mkr js[k].sl)] := by
        unfold Shop.fsJ; rw [List.take_succ_eq_append_getElem hkl, List.map_append, List.map_append]; rfl
      have hm2 : (List.replicate (k + 1) (-1 : Int)).map jAV = (List.replicate k (-1 : Int)).map jAV ++ [[.int .i64 (-1)]] := by
        rw [List.replicate_succ', List.map_append]; rfl
      have l3 : ((w.fsJ (js.take k)).map fAV).length = k := by rw [List.length_map, fsJ_len, List.length_take]; omega
      have l4 : ((List.replicate k (-1 : Int)).map jAV).length = k := by simp
      (conv => whnf); (repeat' ((first | refine bT ?_ | refine bF ?_ | refine bN ?_ | ((first | refine bD ?_ ?_ | refine bEq ?_ ?_ | refine bNe ?_ ?_) <;> intro hh <;> try (exfalso; omega)) | (refine iaI (by omega) (by omega) gj ?_) | (refine (e2).callzq rfl rfl fun _ h => ?_; subst h) | (refine apI (by simp [AV.one]) (by simp only [l3]; simp; omega) ?_) | (refine apI (by simp [AV.one]) (by simp only [l4]; simp; omega) ?_) | refine wIn (by omega) ?_ | refine nI (by omega) ?_) <;> conv => whnf))
      refine ⟨k + 1, ?_, by omega, by omega⟩
      rw [hm1, hm2]
      exact (meets_as [(11, some 7), (12, some 9)] (by (repeat' apply And.intro) <;> first | rfl | exact True.intro | (intro hh; cases hh)))
    · have : k = js.length := by omega
      subst this
      rw [List.take_length]
      (conv => whnf); (repeat' ((first | refine bT ?_ | refine bF ?_ | refine bN ?_ | ((first | refine bD ?_ ?_ | refine bEq ?_ ?_ | refine bNe ?_ ?_) <;> intro hh <;> try (exfalso; omega)) | refine wIn (by omega) ?_ | refine nI (by omega) ?_) <;> conv => whnf))
      refine loop_i (α := Nat × List Int × List Int) (fun q => [(39, .int .i64 q.1), (38, .int .i64 ↑(js.map Job.av).length), (7, .own 3 0), (6, .own 1 0), (3, .own 0 0), (2, .isl (js.map Job.av)), (1, .isl (([] : List Int).map jAV))]) (fun q => [.box false w.scL, .box false [.nils, .nils, .nils], .fresh, .box false [.row 11, .isl [], .row 12], .fresh, .fresh, .fresh, .fresh, .fresh, .fresh, .fresh, .row false 42 1 ((w.fsJ js).map fAV), .row false 3 1 (q.2.2.map jAV)]) (fun q => q.1 ≤ js.length ∧ Part1 (w.fsJ js) [] q.1 q.2.1 q.2.2) (fun q => js.length - q.1) (0, [], List.replicate (w.fsJ js).length (-1)) ?_ ⟨by simp, part_0 hnn⟩ ?_
      · dsimp only
        rw [hfl]
        exact (meets_id (by (repeat' apply And.intro) <;> first | rfl | exact True.intro | (intro hh; cases hh)))
      rintro ⟨k, left, g⟩ ⟨hk0, hP⟩
      dsimp only at hk0 hP ⊢
      conv => whnf
      refine bD (fun h3 => ?_) (fun h3 => ?_)
      · have hkl : k < js.length := by omega
        have hkf : k < (w.fsJ js).length := by rw [hfl]; exact hkl
        have h00 : fsG (w.fsJ js) k = [] := by
          cases hq : fsG (w.fsJ js) k with
          | nil => rfl
          | cons a l =>
            have := hsp k a (by rw [hq]; simp)
            simp at this; omega
        have e3 := p136e (w.fsJ js) g k hkf (by omega) h00
        have hF : Fail (w.fsJ js) left g (List.replicate ([] : List Int).length false) [] k := ⟨fun x hx => by simp [trB] at hx, fun x hx => by rw [h00] at hx; exact absurd hx (by simp), fun x _ hx => by simp [trB] at hx⟩
        have hN := part_fail hP hsp hF
        (conv => whnf); (repeat' ((first | refine bT ?_ | refine bF ?_ | refine bN ?_ | ((first | refine bD ?_ ?_ | refine bEq ?_ ?_ | refine bNe ?_ ?_) <;> intro hh <;> try (exfalso; omega)) | (refine mkI (by simp) (by simp) (by simp) ?_) | refine wIn (by omega) ?_ | refine nI (by omega) ?_) <;> conv => whnf))
        refine e3.lookwq rfl (fun r (hr : r = _) => ?_); subst hr
        refine ⟨rfl, ?_⟩
        (conv => whnf); (repeat' ((first | refine bT ?_ | refine bF ?_ | refine bN ?_ | ((first | refine bD ?_ ?_ | refine bEq ?_ ?_ | refine bNe ?_ ?_) <;> intro hh <;> try (exfalso; omega)) | refine wIn (by omega) ?_ | refine nI (by omega) ?_) <;> conv => whnf))
        exact ⟨(k + 1, left, g), (meets_id (by (repeat' apply And.intro) <;> first | rfl | exact True.intro | (intro hh; cases hh))), ⟨by dsimp only; omega, hN⟩, by dsimp only; omega⟩
      · have : k = js.length := by omega
        subst this
        rw [← hfl] at hP
        (conv => whnf); (repeat' ((first | refine bT ?_ | refine bF ?_ | refine bN ?_ | ((first | refine bD ?_ ?_ | refine bEq ?_ ?_ | refine bNe ?_ ?_) <;> intro hh <;> try (exfalso; omega)) | refine wIn (by omega) ?_ | refine nI (by omega) ?_) <;> conv => whnf))
        all_goals exact ⟨left, g, part_best hP, rfl, rfl⟩
structure Bd (w : Shop) (st : List Int) (js : List Job) : Prop where
  s : w.sps.length ≤ 1000000
  m1 : w.mks.length ≤ 1000000
  m2 : ∀ x ∈ w.mks, x.length ≤ 1000000
  st : st.length ≤ 1000000
  j : js.length ≤ 1000000
theorem js_10 {w : Shop} {st : List Int} {js : List Job} (h : w.eO (w.isSt st && w.areJ js) = 0) : js.length ≤ 10 := by
  have hv := eO_v h
  rw [Bool.and_eq_true] at hv
  exact (areJ_iff.1 hv.2).1
theorem hasN_take {g : List Int} {k : Nat} (hk : k < g.length) : hasN (g.take (k + 1)) = hasN (g.take k) + if g.getD k 0 = -1 then 0 else 1 := by
  have e : g.getD k 0 = g[k] := by simp [List.getD_eq_getElem?_getD, hk]
  rw [e]
  have h1 := hasN_add (g.take (k + 1))
  have h2 := hasN_add (g.take k)
  unfold lackN at h1 h2
  rw [List.take_succ_eq_append_getElem hk, List.count_append] at h1
  rw [List.take_succ_eq_append_getElem hk]
  simp only [List.length_append, List.length_take, List.length_cons, List.length_nil] at h1 h2
  by_cases h : g[k] = -1
  · rw [if_pos h]
    rw [h] at h1 ⊢
    have : ([(-1 : Int)].count (-1)) = 1 := rfl
    omega
  · rw [if_neg h]
    have : ([g[k]].count (-1)) = 0 := by rw [List.count_eq_zero]; simpa using fun e => h e.symm
    omega
theorem p92 (x y : AV) (hx : ∃ es, x = .isl es) (hy : ∃ es, y = .isl es) (g : List Int) (hl : g.length ≤ 1000000) : FnA Try.prog 92 [.ipt [x, y, .isl (g.map jAV)]] (· = .int .i64 (hasN g)) := by
  obtain ⟨xs, rfl⟩ := hx
  obtain ⟨ys, rfl⟩ := hy
  have l1 : (g.map jAV).length = g.length := by simp
  refine fnA 0 ok92 (by simp) ?_
  (conv => whnf); (repeat' ((first | refine bT ?_ | refine bF ?_ | refine bN ?_ | ((first | refine bD ?_ ?_ | refine bEq ?_ ?_ | refine bNe ?_ ?_) <;> intro hh <;> try (exfalso; omega)) | refine wIn (by omega) ?_ | refine nI (by omega) ?_) <;> conv => whnf))
  refine loop_i (α := Nat) (fun k => [(11, .int .i64 k), (10, .int .i64 ↑(g.map jAV).length), (9, .isl (g.map jAV)), (3, .int .i64 (hasN (g.take k)))]) (fun k => []) (fun k => k ≤ g.length) (fun k => g.length - k) 0 (meets_id (by (repeat' apply And.intro) <;> first | rfl | exact True.intro | (intro hh; cases hh))) (by omega) ?_
  intro k hk0
  conv => whnf
  refine bD (fun h3 => ?_) (fun h3 => ?_)
  · have hk : k < g.length := by omega
    have gk := jget hk
    have hn := hasN_take hk
    have hle : hasN (g.take k) ≤ k := by have := hasN_add (g.take k); rw [List.length_take] at this; omega
    by_cases h : g.getD k 0 = -1
    · rw [if_pos h] at hn
      (conv => whnf); (repeat' ((first | refine bT ?_ | refine bF ?_ | refine bN ?_ | ((first | refine bD ?_ ?_ | refine bEq ?_ ?_ | refine bNe ?_ ?_) <;> intro hh <;> try (exfalso; omega)) | (refine iaI (by omega) (by omega) gk ?_) | refine wIn (by omega) ?_ | refine nI (by omega) ?_) <;> conv => whnf))
      refine ⟨k + 1, ?_, by omega, by omega⟩
      rw [hn]; exact (meets_id (by (repeat' apply And.intro) <;> first | rfl | exact True.intro | (intro hh; cases hh)))
    · rw [if_neg h] at hn
      (conv => whnf); (repeat' ((first | refine bT ?_ | refine bF ?_ | refine bN ?_ | ((first | refine bD ?_ ?_ | refine bEq ?_ ?_ | refine bNe ?_ ?_) <;> intro hh <;> try (exfalso; omega)) | (refine iaI (by omega) (by omega) gk ?_) | refine wIn (by omega) ?_ | refine nI (by omega) ?_) <;> conv => whnf))
      refine ⟨k + 1, ?_, by omega, by omega⟩
      rw [hn]; exact (meets_id (by (repeat' apply And.intro) <;> first | rfl | exact True.intro | (intro hh; cases hh)))
  · have : k = g.length := by omega
    subst this
    rw [List.take_length]
    (conv => whnf); (repeat' ((first | refine bT ?_ | refine bF ?_ | refine bN ?_ | ((first | refine bD ?_ ?_ | refine bEq ?_ ?_ | refine bNe ?_ ?_) <;> intro hh <;> try (exfalso; omega)) | refine wIn (by omega) ?_ | refine nI (by omega) ?_) <;> conv => whnf))
    all_goals rfl
theorem p91 (w : Shop) (st : List Int) (js : List Job) (hb : Bd w st js) (h : w.eO (w.isSt st && w.areJ js) = 0) (h0 : 0 < st.length) : FnO Try.prog 91 [.agg w.cells, .isl (st.map jAV), .isl (js.map Job.av)] (fun r rows => ∃ left g, Best (w.fsJ js) st left g ∧ r = .tup [.agg [.row 7, .row 8, .row 9], .int .i64 0] ∧ rows = [(7, .row false 42 1 ((w.fsJ js).map fAV)), (8, .row false 3 1 (left.map jAV)), (9, .row false 3 1 (g.map jAV))]) := by
  have hv := eO_v h
  rw [Bool.and_eq_true] at hv
  obtain ⟨hst, hjs⟩ := hv
  rw [hst, hjs] at h
  have hk := chk_ok (chk_0 h)
  have e1 := p133 w st hb.s hb.st
  have e2 := p134 w js hb.m1 hb.m2 hb.j
  rw [hst] at e1; rw [hjs] at e2
  have e3 := p69 w true h
  have e4 := p135 w hk st js hst hjs h0
  refine fnO 10 ok91 (by simp) ?_
  (conv => whnf); (repeat' ((first | refine bT ?_ | refine bF ?_ | refine bN ?_ | ((first | refine bD ?_ ?_ | refine bEq ?_ ?_ | refine bNe ?_ ?_) <;> intro hh <;> try (exfalso; omega)) | (refine (e1).callq rfl rfl fun _ h => ?_; subst h) | (refine (e2).callq rfl rfl fun _ h => ?_; subst h) | (refine (e3).callzq rfl rfl fun _ h => ?_; subst h) | refine wIn (by omega) ?_ | refine nI (by omega) ?_) <;> conv => whnf))
  refine e4.callzq rfl rfl (fun r rows hr => ?_)
  obtain ⟨left, g, hB, hr1, hr2⟩ := hr; subst hr1; subst hr2
  refine ⟨rfl, ?_⟩
  (conv => whnf); (repeat' ((first | refine bT ?_ | refine bF ?_ | refine bN ?_ | ((first | refine bD ?_ ?_ | refine bEq ?_ ?_ | refine bNe ?_ ?_) <;> intro hh <;> try (exfalso; omega)) | refine wIn (by omega) ?_ | refine nI (by omega) ?_) <;> conv => whnf))
  all_goals exact ⟨left, g, hB, rfl, rfl⟩
theorem p91e (w : Shop) (st : List Int) (js : List Job) (hb : Bd w st js) (h : w.eO (w.isSt st && w.areJ js) = 0) (h0 : st.length = 0) : FnO Try.prog 91 [.agg w.cells, .isl (st.map jAV), .isl (js.map Job.av)] (fun r rows => ∃ left g, Best (w.fsJ js) st left g ∧ r = .tup [.agg [.row 7, .isl [], .row 8], .int .i64 0] ∧ rows = [(7, .row false 42 1 ((w.fsJ js).map fAV)), (8, .row false 3 1 (g.map jAV))]) := by
  have hv := eO_v h
  rw [Bool.and_eq_true] at hv
  obtain ⟨hst, hjs⟩ := hv
  rw [hst, hjs] at h
  have hk := chk_ok (chk_0 h)
  have e1 := p133 w st hb.s hb.st
  have e2 := p134 w js hb.m1 hb.m2 hb.j
  rw [hst] at e1; rw [hjs] at e2
  have e3 := p69 w true h
  have e4 := p135e w hk st js hst hjs h0
  refine fnO 10 ok91 (by simp) ?_
  (conv => whnf); (repeat' ((first | refine bT ?_ | refine bF ?_ | refine bN ?_ | ((first | refine bD ?_ ?_ | refine bEq ?_ ?_ | refine bNe ?_ ?_) <;> intro hh <;> try (exfalso; omega)) | (refine (e1).callq rfl rfl fun _ h => ?_; subst h) | (refine (e2).callq rfl rfl fun _ h => ?_; subst h) | (refine (e3).callzq rfl rfl fun _ h => ?_; subst h) | refine wIn (by omega) ?_ | refine nI (by omega) ?_) <;> conv => whnf))
  refine e4.callzq rfl rfl (fun r rows hr => ?_)
  obtain ⟨left, g, hB, hr1, hr2⟩ := hr; subst hr1; subst hr2
  refine ⟨rfl, ?_⟩
  (conv => whnf); (repeat' ((first | refine bT ?_ | refine bF ?_ | refine bN ?_ | ((first | refine bD ?_ ?_ | refine bEq ?_ ?_ | refine bNe ?_ ?_) <;> intro hh <;> try (exfalso; omega)) | refine wIn (by omega) ?_ | refine nI (by omega) ?_) <;> conv => whnf))
  all_goals exact ⟨left, g, hB, rfl, rfl⟩
theorem p34 (w : Shop) (st : List Int) (js : List Job) (hb : Bd w st js) (h : w.eO (w.isSt st && w.areJ js) = 0) (h0 : 0 < st.length) : FnA Try.prog 34 [.agg w.cells, .isl (st.map jAV), .isl (js.map Job.av)] (fun r => ∃ left g, Best (w.fsJ js) st left g ∧ r = .tup [.int .i64 (hasN g), .int .i64 0]) := by
  have e1 := p91 w st js hb h h0
  have hj := js_10 h
  refine fnA 5 ok34 (by simp) ?_
  (conv => whnf); (repeat' ((first | refine bT ?_ | refine bF ?_ | refine bN ?_ | ((first | refine bD ?_ ?_ | refine bEq ?_ ?_ | refine bNe ?_ ?_) <;> intro hh <;> try (exfalso; omega)) | refine wIn (by omega) ?_ | refine nI (by omega) ?_) <;> conv => whnf))
  refine e1.callzq rfl rfl (fun r rows hr => ?_)
  obtain ⟨left, g, hB, hr1, hr2⟩ := hr; subst hr1; subst hr2
  refine ⟨rfl, ?_⟩
  have hl := hB.lg
  rw [fsJ_len] at hl
  have e2 := p92 (.isl ((w.fsJ js).map fAV)) (.isl (left.map jAV)) ⟨_, rfl⟩ ⟨_, rfl⟩ g (by omega)
  (conv => whnf); (repeat' ((first | refine bT ?_ | refine bF ?_ | refine bN ?_ | ((first | refine bD ?_ ?_ | refine bEq ?_ ?_ | refine bNe ?_ ?_) <;> intro hh <;> try (exfalso; omega)) | (refine (e2).lendq rfl fun _ h => ?_; subst h; refine ⟨rfl, ?_⟩) | refine wIn (by omega) ?_ | refine nI (by omega) ?_) <;> conv => whnf))
  all_goals exact ⟨left, g, hB, rfl⟩
theorem p34e (w : Shop) (st : List Int) (js : List Job) (hb : Bd w st js) (h : w.eO (w.isSt st && w.areJ js) = 0) (h0 : st.length = 0) : FnA Try.prog 34 [.agg w.cells, .isl (st.map jAV), .isl (js.map Job.av)] (fun r => ∃ left g, Best (w.fsJ js) st left g ∧ r = .tup [.int .i64 (hasN g), .int .i64 0]) := by
  have e1 := p91e w st js hb h h0
  have hj := js_10 h
  refine fnA 5 ok34 (by simp) ?_
  (conv => whnf); (repeat' ((first | refine bT ?_ | refine bF ?_ | refine bN ?_ | ((first | refine bD ?_ ?_ | refine bEq ?_ ?_ | refine bNe ?_ ?_) <;> intro hh <;> try (exfalso; omega)) | refine wIn (by omega) ?_ | refine nI (by omega) ?_) <;> conv => whnf))
  refine e1.callzq rfl rfl (fun r rows hr => ?_)
  obtain ⟨left, g, hB, hr1, hr2⟩ := hr; subst hr1; subst hr2
  refine ⟨rfl, ?_⟩
  have hl := hB.lg
  rw [fsJ_len] at hl
  have e2 := p92 (.isl ((w.fsJ js).map fAV)) (.isl []) ⟨_, rfl⟩ ⟨_, rfl⟩ g (by omega)
  (conv => whnf); (repeat' ((first | refine bT ?_ | refine bF ?_ | refine bN ?_ | ((first | refine bD ?_ ?_ | refine bEq ?_ ?_ | refine bNe ?_ ?_) <;> intro hh <;> try (exfalso; omega)) | (refine (e2).lendq rfl fun _ h => ?_; subst h; refine ⟨rfl, ?_⟩) | refine wIn (by omega) ?_ | refine nI (by omega) ?_) <;> conv => whnf))
  all_goals exact ⟨left, g, hB, rfl⟩
/-- the slots of a make that a spare of a length fits, as bits -/
def Shop.cov (w : Shop) (i n m : Int) : Nat → Nat
  | 0 => 0
  | k + 1 => w.cov i n m k + if w.fit i n m (k : Nat) = true then 2 ^ k else 0
end Go.Proofs
