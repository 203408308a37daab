/- What each function of this program answers, proved by walking its body: the contracts that the law rests on, part 2. -/
import Derived.Test.YtngninkkcnalkaaDFns1
set_option linter.unusedSimpArgs false
set_option linter.unusedVariables false
set_option linter.unusedSectionVars false
namespace Go.Proofs
open Go.Eng
attribute [local irreducible] Go.Eng.brB Go.Eng.need Go.Eng.wrE Go.Eng.iaE Go.Eng.slE Go.Eng.apE Go.Eng.CallZ Go.Eng.CallE Go.Eng.VCallE Go.Eng.YldE Go.Eng.GoC Go.Eng.MeetsE Go.Eng.FnA Go.Eng.FnV Go.Eng.ItA Go.Eng.ItM
set_option maxRecDepth 100000
def stepB (acc : List (List Int)) (l : List Int) : List (List Int) :=
  if 0 < acc.length ∧ (acc.getD 0 []).length < l.length then acc else if 0 < acc.length ∧ l.length < (acc.getD 0 []).length then [l] else acc ++ [l]
def bestL (ys : List (List Int)) : List (List Int) := ys.foldl stepB []
theorem bestL_succ {ys : List (List Int)} {k : Nat} (hk : k < ys.length) : bestL (ys.take (k + 1)) = stepB (bestL (ys.take k)) ys[k] := by
  unfold bestL; rw [List.take_succ_eq_append_getElem hk, List.foldl_append]; rfl
theorem stepB_len (acc : List (List Int)) (l : List Int) : (stepB acc l).length ≤ acc.length + 1 := by
  unfold stepB; split
  · omega
  · split <;> simp
theorem bestL_len {ys : List (List Int)} : ∀ {k : Nat}, k ≤ ys.length → (bestL (ys.take k)).length ≤ k
  | 0, _ => by simp [bestL]
  | k + 1, h => by
    rw [bestL_succ h]
    have := bestL_len (ys := ys) (k := k) (by omega)
    have := stepB_len (bestL (ys.take k)) ys[k]
    omega
theorem goods_len {w : Shop} (hk : Ok w) : w.goods.length ≤ 1024 := by
  have hp10 : 2 ^ w.sps.length ≤ 1024 := by
    have : ∀ n, n ≤ 10 → 2 ^ n ≤ 1024 := by decide
    exact this _ hk.s1
  have := List.length_filter_le w.good ((List.range (2 ^ w.sps.length)).map w.sub)
  simp only [List.length_map, List.length_range] at this
  unfold Shop.goods Shop.goodK; omega
theorem goods_sub {w : Shop} {l : List Int} (h : l ∈ w.goods) : l.length ≤ w.sps.length := by
  unfold Shop.goods Shop.goodK at h
  obtain ⟨b, _, rfl⟩ := List.mem_map.1 (List.mem_filter.1 h).1
  exact numF_len _ _
theorem bestL_sub {ys : List (List Int)} : ∀ {k : Nat}, k ≤ ys.length → ∀ l ∈ bestL (ys.take k), l ∈ ys
  | 0, _, l, h => by simp [bestL] at h
  | k + 1, hk, l, h => by
    rw [bestL_succ hk] at h
    unfold stepB at h
    split at h
    · exact bestL_sub (by omega) l h
    · split at h
      · simp only [List.mem_singleton] at h; subst h; exact List.getElem_mem hk
      · rcases List.mem_append.1 h with h | h
        · exact bestL_sub (by omega) l h
        · simp only [List.mem_singleton] at h; subst h; exact List.getElem_mem hk
theorem fget {L : List (List Int)} {j : Nat} (h : j < L.length) : (L.map fAV).getD j [] = fAV (L.getD j []) := by
  rw [getM fAV L j h]; simp [List.getD_eq_getElem?_getD, h]
theorem p131 (w : Shop) (hk : Ok w) : FnA Try.prog 131 [.agg w.scL] (· = .isl ((bestL w.goods).map fAV)) := by
  have hg := goods_len hk
  have hs1 := hk.s1
  refine fnA 5 ok131 (by simp) ?_
  (conv => whnf); (repeat' ((first | refine bT ?_ | refine bF ?_ | refine bN ?_ | ((first | refine bD ?_ ?_ | refine bEq ?_ ?_ | refine bNe ?_ ?_) <;> intro hh <;> try (exfalso; omega)) | refine wIn (by omega) ?_ | refine nI (by omega) ?_) <;> conv => whnf))
  refine rng_iM (α := Nat) (w.goods.map fAV) [0, 1] [(3, .own 1 0), (1, .own 0 0)] (fun k => [.box false w.scL, .box false [.row 4], .fresh, .fresh, .row false 42 1 ((bestL (w.goods.take k)).map fAV)])
    (fun k a => a = k) 0 rfl bd156 (i156 w hk) rfl ?_ rfl rfl (fun v hv => by obtain ⟨q, _, rfl⟩ := List.mem_map.1 hv; rfl) ?_ ?_
  · exact (meets_nil 4 (by (repeat' apply And.intro) <;> first | rfl | exact True.intro | (intro hh; cases hh)))
  · rintro k v a hv rfl
    obtain ⟨q, hq, rfl⟩ : ∃ q, w.goods[a]? = some q ∧ fAV q = v := by simpa using hv
    obtain ⟨hk1, hq⟩ := List.getElem?_eq_some_iff.1 hq
    have l1 := bestL_len (ys := w.goods) (k := a) (by omega)
    have hsu := bestL_succ hk1
    rw [hq] at hsu
    have l2 : ((bestL (w.goods.take a)).map fAV).length = (bestL (w.goods.take a)).length := by simp
    have l4 : (q.map jAV).length = q.length := by simp
    generalize bestL (w.goods.take a) = acc at *
    by_cases h0 : 0 < acc.length
    · have g1 := fget h0
      have l3 : ((acc.getD 0 []).map jAV).length = (acc.getD 0 []).length := by simp
      by_cases h1 : (acc.getD 0 []).length < q.length
      · have hs : stepB acc q = acc := by unfold stepB; rw [if_pos ⟨h0, h1⟩]
        (conv => whnf); (repeat' ((first | refine bT ?_ | refine bF ?_ | refine bN ?_ | ((first | refine bD ?_ ?_ | refine bEq ?_ ?_ | refine bNe ?_ ?_) <;> intro hh <;> try (exfalso; omega)) | (refine iaI (by omega) (by omega) g1 ?_) | refine wIn (by omega) ?_ | refine nI (by omega) ?_) <;> conv => whnf))
        exact ⟨a + 1, by rw [hsu, hs]; exact (meets_id (by (repeat' apply And.intro) <;> first | rfl | exact True.intro | (intro hh; cases hh))), rfl⟩
      · by_cases h2 : q.length < (acc.getD 0 []).length
        · have hs : stepB acc q = [q] := by unfold stepB; rw [if_neg (fun h => h1 h.2), if_pos ⟨h0, h2⟩]
          (conv => whnf); (repeat' ((first | refine bT ?_ | refine bF ?_ | refine bN ?_ | ((first | refine bD ?_ ?_ | refine bEq ?_ ?_ | refine bNe ?_ ?_) <;> intro hh <;> try (exfalso; omega)) | (refine iaI (by omega) (by omega) g1 ?_) | (refine apI (by simp [AV.one]) (by simp) ?_) | refine wIn (by omega) ?_ | refine nI (by omega) ?_) <;> conv => whnf))
          exact ⟨a + 1, by rw [hsu, hs]; exact (meets_as [(4, some 3)] (by (repeat' apply And.intro) <;> first | rfl | exact True.intro | (intro hh; cases hh))), rfl⟩
        · have hs : (stepB acc q).map fAV = acc.map fAV ++ [fAV q] := by unfold stepB; rw [if_neg (fun h => h1 h.2), if_neg (fun h => h2 h.2)]; simp
          (conv => whnf); (repeat' ((first | refine bT ?_ | refine bF ?_ | refine bN ?_ | ((first | refine bD ?_ ?_ | refine bEq ?_ ?_ | refine bNe ?_ ?_) <;> intro hh <;> try (exfalso; omega)) | (refine iaI (by omega) (by omega) g1 ?_) | (refine apI (by simp [AV.one]) (by simp; omega) ?_) | refine wIn (by omega) ?_ | refine nI (by omega) ?_) <;> conv => whnf))
          exact ⟨a + 1, by rw [hsu, hs]; exact (meets_as [(4, some 3)] (by (repeat' apply And.intro) <;> first | rfl | exact True.intro | (intro hh; cases hh))), rfl⟩
    · have hs : (stepB acc q).map fAV = acc.map fAV ++ [fAV q] := by unfold stepB; rw [if_neg (fun h => h0 h.1), if_neg (fun h => h0 h.1)]; simp
      (conv => whnf); (repeat' ((first | refine bT ?_ | refine bF ?_ | refine bN ?_ | ((first | refine bD ?_ ?_ | refine bEq ?_ ?_ | refine bNe ?_ ?_) <;> intro hh <;> try (exfalso; omega)) | (refine apI (by simp [AV.one]) (by simp; omega) ?_) | refine wIn (by omega) ?_ | refine nI (by omega) ?_) <;> conv => whnf))
      exact ⟨a + 1, by rw [hsu, hs]; exact (meets_as [(4, some 3)] (by (repeat' apply And.intro) <;> first | rfl | exact True.intro | (intro hh; cases hh))), rfl⟩
  · rintro a rfl
    rw [show (w.goods.map fAV).length = w.goods.length by simp, List.take_length]
    (conv => whnf); (repeat' ((first | refine bT ?_ | refine bF ?_ | refine bN ?_ | ((first | refine bD ?_ ?_ | refine bEq ?_ ?_ | refine bNe ?_ ?_) <;> intro hh <;> try (exfalso; omega)) | refine wIn (by omega) ?_ | refine nI (by omega) ?_) <;> conv => whnf))
    all_goals rfl
/-- the lists that mend all, and have as few spares as can be -/
def Shop.mins (w : Shop) : List (List Int) := bestL w.goods
def Shop.eF (w : Shop) : Int := if w.eO true ≠ 0 then w.eO true else if w.mins.length = 0 then 3 else 0
theorem eF_0 {w : Shop} (h : w.eF = 0) : w.eO true = 0 ∧ 0 < w.mins.length := by
  unfold Shop.eF at h
  split at h
  · rename_i h1; exact absurd h h1
  · rename_i h1
    split at h
    · cases h
    · exact ⟨by omega, by omega⟩
theorem p84 (w : Shop) (h : w.eF = 0) : FnA Try.prog 84 [.agg w.cells] (· = .tup [.isl (w.mins.map fAV), .int .i64 0]) := by
  obtain ⟨h1, h2⟩ := eF_0 h
  have hk := chk_ok (chk_0 h1)
  have e1 := p69 w true h1
  have e2 := p131 w hk
  have e : bestL w.goods = w.mins := rfl
  rw [e] at e2
  have l : (w.mins.map fAV).length = w.mins.length := by simp
  refine fnA 7 ok84 (by simp) ?_
  (conv => whnf); (repeat' ((first | refine bT ?_ | refine bF ?_ | refine bN ?_ | ((first | refine bD ?_ ?_ | refine bEq ?_ ?_ | refine bNe ?_ ?_) <;> intro hh <;> try (exfalso; omega)) | (refine (e1).callzq rfl rfl fun _ h => ?_; subst h) | (refine (e2).callzq rfl rfl fun _ h => ?_; subst h) | refine wIn (by omega) ?_ | refine nI (by omega) ?_) <;> conv => whnf))
  all_goals rfl
theorem p84e (w : Shop) (h : w.eF ≠ 0) : FnA Try.prog 84 [.agg w.cells] (· = .tup [.isl [], .int .i64 w.eF]) := by
  by_cases h1 : w.eO true = 0
  · have h2 : w.mins.length = 0 := by
      unfold Shop.eF at h
      rw [if_neg (by simpa using h1)] at h
      split at h
      · assumption
      · exact absurd rfl h
    have e0 : w.eF = 3 := by unfold Shop.eF; rw [if_neg (by simpa using h1), if_pos h2]
    rw [e0]
    have hk := chk_ok (chk_0 h1)
    have e1 := p69 w true h1
    have e2 := p131 w hk
    have e : bestL w.goods = w.mins := rfl
    rw [e] at e2
    have l : (w.mins.map fAV).length = w.mins.length := by simp
    refine fnA 7 ok84 (by simp) ?_
    (conv => whnf); (repeat' ((first | refine bT ?_ | refine bF ?_ | refine bN ?_ | ((first | refine bD ?_ ?_ | refine bEq ?_ ?_ | refine bNe ?_ ?_) <;> intro hh <;> try (exfalso; omega)) | (refine (e1).callzq rfl rfl fun _ h => ?_; subst h) | (refine (e2).callzq rfl rfl fun _ h => ?_; subst h) | refine wIn (by omega) ?_ | refine nI (by omega) ?_) <;> conv => whnf))
    all_goals rfl
  · have e0 : w.eF = w.eO true := by unfold Shop.eF; rw [if_pos h1]
    rw [e0]
    have e1 := p69e w true h1
    refine fnA 7 ok84 (by simp) ?_
    (conv => whnf); (repeat' ((first | refine bT ?_ | refine bF ?_ | refine bN ?_ | ((first | refine bD ?_ ?_ | refine bEq ?_ ?_ | refine bNe ?_ ?_) <;> intro hh <;> try (exfalso; omega)) | (refine (e1).callzq rfl rfl fun _ h => ?_; subst h) | refine wIn (by omega) ?_ | refine nI (by omega) ?_) <;> conv => whnf))
    all_goals rfl
def Shop.keep (w : Shop) : List Int := w.mins.getD 0 []
theorem p30 (w : Shop) (h : w.eF = 0) : FnA Try.prog 30 [.agg w.cells] (· = .tup [.isl (w.keep.map jAV), .int .i64 0]) := by
  obtain ⟨h1, h2⟩ := eF_0 h
  have e1 := p84 w h
  have l : (w.mins.map fAV).length = w.mins.length := by simp
  have g1 := fget h2
  refine fnA 2 ok30 (by simp) ?_
  (conv => whnf); (repeat' ((first | refine bT ?_ | refine bF ?_ | refine bN ?_ | ((first | refine bD ?_ ?_ | refine bEq ?_ ?_ | refine bNe ?_ ?_) <;> intro hh <;> try (exfalso; omega)) | (refine (e1).callzq rfl rfl fun _ h => ?_; subst h) | (refine iaI (by omega) (by omega) g1 ?_) | refine wIn (by omega) ?_ | refine nI (by omega) ?_) <;> conv => whnf))
  all_goals rfl
theorem p30e (w : Shop) (h : w.eF ≠ 0) : FnA Try.prog 30 [.agg w.cells] (· = .tup [.isl [], .int .i64 w.eF]) := by
  have e1 := p84e w h
  refine fnA 2 ok30 (by simp) ?_
  (conv => whnf); (repeat' ((first | refine bT ?_ | refine bF ?_ | refine bN ?_ | ((first | refine bD ?_ ?_ | refine bEq ?_ ?_ | refine bNe ?_ ?_) <;> intro hh <;> try (exfalso; omega)) | (refine (e1).callzq rfl rfl fun _ h => ?_; subst h) | refine wIn (by omega) ?_ | refine nI (by omega) ?_) <;> conv => whnf))
  all_goals rfl
theorem p26 (w : Shop) (h : w.eF = 0) : FnA Try.prog 26 [.agg w.cells] (· = .tup [.int .i64 w.keep.length, .int .i64 0]) := by
  have e1 := p30 w h
  have l : (w.keep.map jAV).length = w.keep.length := by simp
  rw [← l]
  refine fnA 2 ok26 (by simp) ?_
  (conv => whnf); (repeat' ((first | refine bT ?_ | refine bF ?_ | refine bN ?_ | ((first | refine bD ?_ ?_ | refine bEq ?_ ?_ | refine bNe ?_ ?_) <;> intro hh <;> try (exfalso; omega)) | (refine (e1).callzq rfl rfl fun _ h => ?_; subst h) | refine wIn (by omega) ?_ | refine nI (by omega) ?_) <;> conv => whnf))
  all_goals rfl
theorem p26e (w : Shop) (h : w.eF ≠ 0) : FnA Try.prog 26 [.agg w.cells] (· = .tup [.int .i64 0, .int .i64 w.eF]) := by
  have e1 := p30e w h
  refine fnA 2 ok26 (by simp) ?_
  (conv => whnf); (repeat' ((first | refine bT ?_ | refine bF ?_ | refine bN ?_ | ((first | refine bD ?_ ?_ | refine bEq ?_ ?_ | refine bNe ?_ ?_) <;> intro hh <;> try (exfalso; omega)) | (refine (e1).callzq rfl rfl fun _ h => ?_; subst h) | refine wIn (by omega) ?_ | refine nI (by omega) ?_) <;> conv => whnf))
  all_goals rfl
theorem p88 (l : List Int) (x : Int) (hl : l.length ≤ 1000000) : FnA Try.prog 88 [.isl (l.map jAV), .ipt [.int .i64 x]] (· = .bool (decide (x ∈ l))) := by
  have e1 := p89 l x hl
  refine fnA 0 ok88 (by simp) ?_
  (conv => whnf); (repeat' ((first | refine bT ?_ | refine bF ?_ | refine bN ?_ | ((first | refine bD ?_ ?_ | refine bEq ?_ ?_ | refine bNe ?_ ?_) <;> intro hh <;> try (exfalso; omega)) | (refine (e1).callq rfl rfl fun _ h => ?_; subst h) | refine wIn (by omega) ?_ | refine nI (by omega) ?_) <;> conv => whnf))
  all_goals rfl
def Shop.needB (w : Shop) (x : Int) : Bool := w.mins.all fun l => decide (x ∈ l)
def Shop.needed (w : Shop) : List Int := numF w.sps.length w.needB
theorem p87 (C : List AV) (p : List Int → Bool) (l : List (List Int)) (hl : l.length ≤ 1000000) (hg : ∀ x ∈ l, FnV Try.prog (.fn 88 [.ipt C]) [.isl (x.map jAV)] (· = .bool (p x))) : FnA Try.prog 87 [.isl (l.map fAV), .fn 88 [.ipt C]] (· = .bool (l.all p)) := by
  have hL : (l.map fAV).length = l.length := by simp
  refine fnA 0 ok87 (by simp) ?_
  (conv => whnf); (repeat' ((first | refine bT ?_ | refine bF ?_ | refine bN ?_ | ((first | refine bD ?_ ?_ | refine bEq ?_ ?_ | refine bNe ?_ ?_) <;> intro hh <;> try (exfalso; omega)) | refine wIn (by omega) ?_ | refine nI (by omega) ?_) <;> conv => whnf))
  refine loop_i (α := Nat) (fun k => [(9, .int .i64 k), (8, .int .i64 ↑(l.map fAV).length), (7, .isl (l.map fAV)), (1, .fn 88 [.ipt C])]) (fun k => []) (fun k => k ≤ l.length ∧ ∀ b ∈ l.take k, p b = true) (fun k => l.length - k) 0 (meets_id (by (repeat' apply And.intro) <;> first | rfl | exact True.intro | (intro hh; cases hh))) ⟨by omega, by simp⟩ ?_
  rintro k ⟨h1, h2⟩
  conv => whnf
  refine bD (fun h3 => ?_) (fun h3 => ?_)
  · have hk : k < l.length := by omega
    have hv := hg l[k] (List.getElem_mem hk)
    cases hx : p l[k] with
    | true =>
      rw [hx] at hv
      conv => whnf
      refine iaI (by omega) (by omega) (getM fAV l k hk) ?_
      (conv => whnf); (repeat' ((first | refine bT ?_ | refine bF ?_ | refine bN ?_ | ((first | refine bD ?_ ?_ | refine bEq ?_ ?_ | refine bNe ?_ ?_) <;> intro hh <;> try (exfalso; omega)) | (refine hv.vcallq rfl rfl rfl rfl (fun r (hr : r = _) => ?_); subst hr) | refine wIn (by omega) ?_ | refine nI (by omega) ?_) <;> conv => whnf))
      exact ⟨k + 1, (meets_id (by (repeat' apply And.intro) <;> first | rfl | exact True.intro | (intro hh; cases hh))), ⟨by omega, take_all hk h2 hx⟩, by omega⟩
    | false =>
      rw [hx] at hv
      rw [all_not hk hx]
      conv => whnf
      refine iaI (by omega) (by omega) (getM fAV l k hk) ?_
      (conv => whnf); (repeat' ((first | refine bT ?_ | refine bF ?_ | refine bN ?_ | ((first | refine bD ?_ ?_ | refine bEq ?_ ?_ | refine bNe ?_ ?_) <;> intro hh <;> try (exfalso; omega)) | (refine hv.vcallq rfl rfl rfl rfl (fun r (hr : r = _) => ?_); subst hr) | refine wIn (by omega) ?_ | refine nI (by omega) ?_) <;> conv => whnf))
      all_goals rfl
  · have : k = l.length := by omega
    subst this
    rw [List.take_length] at h2
    rw [all_yes h2]
    (conv => whnf); (repeat' ((first | refine bT ?_ | refine bF ?_ | refine bN ?_ | ((first | refine bD ?_ ?_ | refine bEq ?_ ?_ | refine bNe ?_ ?_) <;> intro hh <;> try (exfalso; omega)) | refine wIn (by omega) ?_ | refine nI (by omega) ?_) <;> conv => whnf))
    all_goals rfl
theorem mins_len {w : Shop} (hk : Ok w) : w.mins.length ≤ 1024 := by
  have := bestL_len (ys := w.goods) (k := w.goods.length) (Nat.le_refl _)
  rw [List.take_length] at this
  have := goods_len hk
  unfold Shop.mins; omega
theorem mins_goods {w : Shop} {l : List Int} (h : l ∈ w.mins) : l ∈ w.goods := by
  have := bestL_sub (ys := w.goods) (k := w.goods.length) (Nat.le_refl _) l
  rw [List.take_length] at this
  exact this h
theorem p86 (w : Shop) (hk : Ok w) (x : Int) : FnA Try.prog 86 [.int .i64 x, .ipt [.isl (w.mins.map fAV)]] (· = .bool (w.needB x)) := by
  have hm := mins_len hk
  have hs := hk.s1
  have e1 := p87 [.int .i64 x] (fun l => decide (x ∈ l)) w.mins (by omega) (fun l hl => fnV_of bd88 (p88 l x (by have := goods_sub (mins_goods hl); omega)))
  unfold Shop.needB
  refine fnA 1 ok86 (by simp) ?_
  (conv => whnf); (repeat' ((first | refine bT ?_ | refine bF ?_ | refine bN ?_ | ((first | refine bD ?_ ?_ | refine bEq ?_ ?_ | refine bNe ?_ ?_) <;> intro hh <;> try (exfalso; omega)) | (refine (e1).lendq rfl fun _ h => ?_; subst h; refine ⟨rfl, ?_⟩) | refine wIn (by omega) ?_ | refine nI (by omega) ?_) <;> conv => whnf))
  all_goals rfl
theorem p28 (w : Shop) (h : w.eF = 0) : FnA Try.prog 28 [.agg w.cells] (· = .tup [.isl (w.needed.map jAV), .int .i64 0]) := by
  obtain ⟨h1, h2⟩ := eF_0 h
  have hk := chk_ok (chk_0 h1)
  have hs := hk.s1
  have e1 := p84 w h
  have l1 : (w.sps.map Spare.av).length = w.sps.length := by simp
  have e2 := p85n (C := [.isl (w.mins.map fAV)]) (C1 := []) (C2 := []) w.sps.length (by omega) w.needB (fun j _ => fnV_of bd86 (p86 w hk j))
  unfold Shop.needed
  rw [← l1] at e2 ⊢
  refine fnA 4 ok28 (by simp) ?_
  (conv => whnf); (repeat' ((first | refine bT ?_ | refine bF ?_ | refine bN ?_ | ((first | refine bD ?_ ?_ | refine bEq ?_ ?_ | refine bNe ?_ ?_) <;> intro hh <;> try (exfalso; omega)) | (refine (e1).callzq rfl rfl fun _ h => ?_; subst h) | (refine (e2).callzq rfl rfl fun _ h => ?_; subst h) | refine wIn (by omega) ?_ | refine nI (by omega) ?_) <;> conv => whnf))
  all_goals rfl
theorem p28e (w : Shop) (h : w.eF ≠ 0) : FnA Try.prog 28 [.agg w.cells] (· = .tup [.isl [], .int .i64 w.eF]) := by
  have e1 := p84e w h
  refine fnA 4 ok28 (by simp) ?_
  (conv => whnf); (repeat' ((first | refine bT ?_ | refine bF ?_ | refine bN ?_ | ((first | refine bD ?_ ?_ | refine bEq ?_ ?_ | refine bNe ?_ ?_) <;> intro hh <;> try (exfalso; omega)) | (refine (e1).callzq rfl rfl fun _ h => ?_; subst h) | refine wIn (by omega) ?_ | refine nI (by omega) ?_) <;> conv => whnf))
  all_goals rfl
/-- of no elements: nil, or not -/
theorem FnA.empties {P : Program} {f : FuncId} {bs : List AV} {R : AV → Prop} (h1 : FnA P f (.nils ::  bs) R) (h2 : ∀ a c, FnA P f (.lit (.slice (some a) 0 c) ::  bs) R) : FnA P f (.isl [] ::  bs) R := by
  unfold FnA at h1 h2 ⊢
  intro imm w vs himm hargs
  simp only [RV0s] at hargs
  obtain ⟨v, vs', rfl, hv, hr⟩ := hargs
  have key : (∃ a c, v = .slice (some a) 0 c) ∨ v = .slice none 0 0 := by
    simp only [RV0] at hv
    rcases hv with ⟨⟨a, rfl⟩, _⟩ | ⟨_, b, off, cap, rfl, _⟩
    · cases a with
      | none => exact .inr rfl
      | some a => exact .inl ⟨a, 0, rfl⟩
    · exact .inl ⟨_, cap, rfl⟩
  rcases key with ⟨a, c, rfl⟩ | rfl
  · exact h2 a c imm w _ himm (by simp only [RV0s]; exact ⟨_, _, rfl, by simp only [RV0], hr⟩)
  · exact h1 imm w _ himm (by simp only [RV0s]; exact ⟨_, _, rfl, by simp only [RV0], hr⟩)
theorem p160e : FnA Try.prog 160 [.isl []] (· = .isl []) := by
  refine FnA.empties ?_ fun a c => ?_
  · refine fnA 2 ok160 (by simp) ?_
    (conv => whnf); (repeat' ((first | refine bT ?_ | refine bF ?_ | refine bN ?_ | ((first | refine bD ?_ ?_ | refine bEq ?_ ?_ | refine bNe ?_ ?_) <;> intro hh <;> try (exfalso; omega)) | refine wIn (by omega) ?_ | refine nI (by omega) ?_) <;> conv => whnf))
    all_goals rfl
  · refine fnA 2 ok160 (by simp) ?_
    (conv => whnf); (repeat' ((first | refine bT ?_ | refine bF ?_ | refine bN ?_ | ((first | refine bD ?_ ?_ | refine bEq ?_ ?_ | refine bNe ?_ ?_) <;> intro hh <;> try (exfalso; omega)) | (refine apI (by simp) (by simp) ?_) | refine wIn (by omega) ?_ | refine nI (by omega) ?_) <;> conv => whnf))
    all_goals rfl
theorem p160 (l : List Int) (h0 : 0 < l.length) (hl : l.length ≤ 1000000) : FnO Try.prog 160 [.isl (l.map jAV)] (fun r rows => r = .row 1 ∧ rows = [(1, .row false 3 1 (l.map jAV))]) := by
  have hL : (l.map jAV).length = l.length := by simp
  refine fnO 2 ok160 (by simp) ?_
  (conv => whnf); (repeat' ((first | refine bT ?_ | refine bF ?_ | refine bN ?_ | ((first | refine bD ?_ ?_ | refine bEq ?_ ?_ | refine bNe ?_ ?_) <;> intro hh <;> try (exfalso; omega)) | (refine apI (fun e he => by obtain ⟨x, _, rfl⟩ := List.mem_map.1 he; simp [jAV, AV.one]) (by simp; omega) ?_) | refine wIn (by omega) ?_ | refine nI (by omega) ?_) <;> conv => whnf))
  all_goals exact ⟨rfl, rfl⟩
def bAV (b : Bool) : List AV := [.bool b]
def trB (tr : List Bool) (x : Int) : Bool := tr.getD x.toNat false
structure Fail (fs : List (List Int)) (left g : List Int) (tr tr' : List Bool) (J : Nat) : Prop where
  sup : ∀ x, trB tr x = true → trB tr' x = true
  all : ∀ x ∈ fsG fs J, trB tr' x = true
  shut : ∀ x, 0 ≤ x → trB tr' x = true → trB tr x = false → left.getD x.toNat 0 = 0 ∧ ∀ j, j < g.length → g.getD j 0 = x → ∀ y ∈ fsG fs j, trB tr' y = true
structure Win (fs : List (List Int)) (left g : List Int) (tr : List Bool) (left' g' : List Int) (J : Nat) : Prop where
  ll : left'.length = left.length
  gl : g'.length = g.length
  nn : Nn left'
  got : g'.getD J 0 ∈ fsG fs J
  oth : ∀ j, j < g.length → j ≠ J → g'.getD j 0 = g.getD j 0 ∨ (g'.getD j 0 ∈ fsG fs j ∧ 0 ≤ g.getD j 0 ∧ trB tr (g.getD j 0) = false)
  tot : ∀ s : Nat, s < left.length → left'.getD s 0 + g'.count (s : Int) + (if g.getD J 0 = s then 1 else 0) = left.getD s 0 + g.count (s : Int)
  shut : ∀ C, Shut fs left g C → Shut fs left' g' C ∧ ¬ C (g'.getD J 0)
structure Pre (fs : List (List Int)) (left g : List Int) (tr : List Bool) (J : Nat) : Prop where
  sp : ∀ j, ∀ s ∈ fsG fs j, 0 ≤ s ∧ s < left.length
  lt : tr.length = left.length
  lg : g.length = fs.length
  jlt : J < fs.length
  nn : Nn left
  gok : ∀ j, j < g.length → g.getD j 0 = -1 ∨ g.getD j 0 ∈ fsG fs j
  own : g.getD J 0 = -1 ∨ trB tr (g.getD J 0) = true
  s1 : left.length ≤ 100
  s2 : fs.length ≤ 100
  s3 : ∀ j, (fsG fs j).length ≤ 100
  s4 : ∀ s, left.getD s 0 ≤ 1000
def untr (tr : List Bool) : Nat := tr.count false
theorem bget {l : List Bool} {i : Nat} (h : i < l.length) : (l.map bAV).getD i [] = [.bool (l.getD i false)] := by
  simp [List.getD_eq_getElem?_getD, h, bAV]
theorem getD_setB (l : List Bool) (i : Nat) (x : Bool) (j : Nat) (hi : i < l.length) : (l.set i x).getD j false = if j = i then x else l.getD j false := by
  simp only [List.getD_eq_getElem?_getD, List.getElem?_set]
  by_cases h : i = j
  · subst h; simp [hi]
  · rw [if_neg h, if_neg (fun e => h e.symm)]
theorem untr_set {tr : List Bool} {i : Nat} (hi : i < tr.length) (h : tr.getD i false = false) : untr (tr.set i true) + 1 = untr tr := by
  unfold untr
  have hg : tr[i] = false := by rw [← h]; simp [List.getD_eq_getElem?_getD, hi]
  rw [List.count_set (h := hi), hg]
  have : 1 ≤ tr.count false := List.count_pos_iff.2 (hg ▸ List.getElem_mem hi)
  simp; omega
theorem untr_le {tr tr' : List Bool} (hl : tr'.length = tr.length) (h : ∀ i, tr.getD i false = true → tr'.getD i false = true) : untr tr' ≤ untr tr := by
  unfold untr
  induction tr generalizing tr' with
  | nil => simp at hl; subst hl; simp
  | cons a tr ih =>
    cases tr' with
    | nil => simp at hl
    | cons b tr' =>
      have h0 := h 0
      have ih := ih (tr' := tr') (by simpa using hl) (fun i hi => by simpa using h (i + 1) (by simpa using hi))
      simp only [List.getD_cons_zero] at h0
      rw [List.count_cons, List.count_cons]
      cases a <;> cases b <;> simp at h0 ⊢ <;> omega
/-- a job takes a spare of which some is left -/
theorem win_take {fs : List (List Int)} {left g : List Int} {tr : List Bool} {J : Nat} (h : Pre fs left g tr J) {x : Int} (hx : x ∈ fsG fs J) (hp : 0 < left.getD x.toNat 0) : Win fs left g tr (left.set x.toNat (left.getD x.toNat 0 - 1)) (g.set J x) J := by
  obtain ⟨h1, h2⟩ := h.sp J x hx
  have hJ : J < g.length := by rw [h.lg]; exact h.jlt
  have hxl : x.toNat < left.length := by omega
  have hgot : (g.set J x).getD J 0 = x := by rw [getD_set _ _ _ _ hJ, if_pos rfl]
  refine ⟨by simp, by simp, nn_set h.nn _ hp, by rw [hgot]; exact hx, fun j hj hne => .inl (by rw [getD_set _ _ _ _ hJ, if_neg hne]), fun s hs => ?_, fun C hC => ⟨fun s hs => ?_, ?_⟩⟩
  · have hc := count_set' g J x (s : Nat) hJ
    rw [getD_set _ _ _ _ hxl]
    by_cases e : s = x.toNat
    · subst e
      rw [if_pos rfl]
      have : x = ((x.toNat : Nat) : Int) := by omega
      rw [if_pos this] at hc
      omega
    · rw [if_neg e]
      have : ¬ x = (s : Int) := by omega
      rw [if_neg this] at hc
      omega
  · obtain ⟨k1, k2⟩ := hC s hs
    have hne : s ≠ x := fun e => by rw [e] at k1; omega
    refine ⟨?_, fun j hj hgj => ?_⟩
    · rw [getD_set _ _ _ _ hxl]
      split
      · rename_i e; rw [e] at k1; omega
      · exact k1
    · rw [getD_set _ _ _ _ hJ] at hgj
      split at hgj
      · exact absurd hgj.symm hne
      · exact k2 j (by simpa using hj) hgj
  · rw [hgot]
    intro hC'
    have := (hC x hC').1
    omega
/-- a job takes a spare that another one gives away -/
theorem win_from {fs : List (List Int)} {left g : List Int} {tr tr1 : List Bool} {J O : Nat} (h : Pre fs left g tr J) {x : Int} (hx : x ∈ fsG fs J) (hO : O < g.length) (hgO : g.getD O 0 = x) (hxt : trB tr x = false) (hsup : ∀ y, trB tr y = true → trB tr1 y = true) {left1 g1 : List Int} (hw : Win fs left g tr1 left1 g1 O) : Win fs left g tr left1 (g1.set J x) J := by
  obtain ⟨h1, h2⟩ := h.sp J x hx
  have hJ : J < g.length := by rw [h.lg]; exact h.jlt
  have hJ1 : J < g1.length := by rw [hw.gl]; exact hJ
  have hne : J ≠ O := fun e => by
    subst e
    rcases h.own with k | k
    · rw [hgO] at k; omega
    · rw [hgO, hxt] at k; cases k
  have hgot : (g1.set J x).getD J 0 = x := by rw [getD_set _ _ _ _ hJ1, if_pos rfl]
  have hgJ : g1.getD J 0 = g.getD J 0 := by
    rcases hw.oth J hJ hne with k | ⟨_, k2, k3⟩
    · exact k
    · rcases h.own with q | q
      · omega
      · rw [hsup _ q] at k3; cases k3
  refine ⟨hw.ll, by simp [hw.gl], hw.nn, by rw [hgot]; exact hx, fun j hj hne2 => ?_, fun s hs => ?_, fun C hC => ?_⟩
  · rw [getD_set _ _ _ _ hJ1, if_neg hne2]
    by_cases e : j = O
    · subst e
      exact .inr ⟨hw.got, by omega, by rw [hgO]; exact hxt⟩
    · rcases hw.oth j hj e with k | ⟨k1, k2, k3⟩
      · exact .inl k
      · refine .inr ⟨k1, k2, ?_⟩
        cases hq : trB tr (g.getD j 0) with
        | false => rfl
        | true => rw [hsup _ hq] at k3; cases k3
  · have hc := count_set' g1 J x (s : Nat) hJ1
    have ht := hw.tot s hs
    rw [hgJ] at hc
    rw [hgO] at ht
    omega
  · obtain ⟨k1, k2⟩ := hw.shut C hC
    have hxC : ¬ C x := fun hc => k2 ((hC x hc).2 O hO hgO _ hw.got)
    refine ⟨fun s hs => ?_, by rw [hgot]; exact hxC⟩
    obtain ⟨q1, q2⟩ := k1 s hs
    refine ⟨q1, fun j hj hgj => ?_⟩
    rw [getD_set _ _ _ _ hJ1] at hgj
    split at hgj
    · subst hgj; exact absurd hs hxC
    · exact q2 j (by simpa using hj) hgj
def wkIns (fs : List (List Int)) (left g : List Int) (tr : List Bool) : List Res := [.box false [.row 1, .row 2, .row 3], .row false 42 1 (fs.map fAV), .row false 3 1 (left.map jAV), .row false 3 1 (g.map jAV), .row false 4 1 (tr.map bAV)]
def giveR (fs : List (List Int)) (left g : List Int) (tr : List Bool) (J : Nat) (r : AV) (outs : List Res) : Prop :=
  ∃ b left' g' tr', r = .bool b ∧ outs = wkIns fs left' g' tr' ∧ tr'.length = tr.length ∧ (b = false → left' = left ∧ g' = g ∧ Fail fs left g tr tr' J) ∧ (b = true → Win fs left g tr left' g' J)
theorem fget' {L : List (List Int)} {j : Nat} (h : j < L.length) : (L.map fAV).getD j [] = [.isl ((fsG L j).map jAV)] := fget h
theorem sup_set {tr : List Bool} {x y : Int} (hx : 0 ≤ x ∧ x.toNat < tr.length) (hy : trB tr y = true) : trB (tr.set x.toNat true) y = true := by
  unfold trB at hy ⊢
  rw [getD_setB _ _ _ _ hx.2]; split
  · rfl
  · exact hy
theorem w136 (fs : List (List Int)) : ∀ (n : Nat) (left g : List Int) (tr : List Bool) (J : Nat), untr tr ≤ n → Pre fs left g tr J → FnW Try.prog 136 [.own 0 0, .int .i64 (J : Nat), .row 4] (wkIns fs left g tr) (giveR fs left g tr J) := by
  intro n
  induction n using Nat.strongRecOn with
  | _ n ih =>
    intro left g tr J hn h
    have hJ : J < g.length := by rw [h.lg]; exact h.jlt
    have hJf := h.jlt
    have hs1 := h.s1
    have hs2 := h.s2
    have hs3 := h.s3 J
    have hlg := h.lg
    have hlt := h.lt
    have lf : (fs.map fAV).length = fs.length := by simp
    have lg : (g.map jAV).length = g.length := by simp
    have ll : (left.map jAV).length = left.length := by simp
    have lJ : ((fsG fs J).map jAV).length = (fsG fs J).length := by simp
    refine fnW 0 [] ok136 (by simp) rfl rfl ?_
    (conv => whnf); (repeat' ((first | refine bT ?_ | refine bF ?_ | refine bN ?_ | ((first | refine bD ?_ ?_ | refine bEq ?_ ?_ | refine bNe ?_ ?_) <;> intro hh <;> try (exfalso; omega)) | (refine iaI (by omega) (by omega) (fget' hJf) ?_) | refine wIn (by omega) ?_ | refine nI (by omega) ?_) <;> conv => whnf))
    refine loop_i (α := Nat × List Bool) (fun q => [(19, .int .i64 q.1), (18, .int .i64 ↑((fsG fs J).map jAV).length), (17, .isl ((fsG fs J).map jAV)), (2, .row 4), (1, .int .i64 J), (0, .own 0 0)]) (fun q => wkIns fs left g q.2) (fun q => q.1 ≤ (fsG fs J).length ∧ q.2.length = tr.length ∧ (∀ x, trB tr x = true → trB q.2 x = true) ∧ (∀ x ∈ (fsG fs J).take q.1, trB q.2 x = true) ∧ ∀ x, 0 ≤ x → trB q.2 x = true → trB tr x = false → left.getD x.toNat 0 = 0 ∧ ∀ j, j < g.length → g.getD j 0 = x → ∀ y ∈ fsG fs j, trB q.2 y = true) (fun q => (fsG fs J).length - q.1) (0, tr) (meets_id (by (repeat' apply And.intro) <;> first | rfl | exact True.intro | (intro hh; cases hh))) ⟨by simp, rfl, fun x hx => hx, by simp, fun x _ h1 h2 => by rw [h1] at h2; cases h2⟩ ?_
    rintro ⟨k, t1⟩ ⟨hk0, hl1, hsup, hall, hshut⟩
    dsimp only at hk0 hl1 hsup hall hshut ⊢
    have lt1 : (t1.map bAV).length = t1.length := by simp
    conv => whnf
    refine bD (fun h3 => ?_) (fun h3 => ?_)
    · have hk : k < (fsG fs J).length := by omega
      have hgx := getM jAV (fsG fs J) k hk
      have hxm : (fsG fs J)[k] ∈ fsG fs J := List.getElem_mem hk
      have htk : ∀ t2 : List Bool, (∀ y ∈ (fsG fs J).take k, trB t2 y = true) → trB t2 (fsG fs J)[k] = true → ∀ y ∈ (fsG fs J).take (k + 1), trB t2 y = true := fun t2 a b => take_all hk a b
      generalize (fsG fs J)[k] = x at hgx hxm htk
      obtain ⟨hx0, hx1⟩ := h.sp J x hxm
      have hxt : x.toNat < t1.length := by omega
      have hxl : x.toNat < left.length := by omega
      have g1 := bget hxt
      have gl := jget hxl
      have gJ := jget hJ
      cases hb : t1.getD x.toNat false with
      | true =>
        rw [hb] at g1
        (conv => whnf); (repeat' ((first | refine bT ?_ | refine bF ?_ | refine bN ?_ | ((first | refine bD ?_ ?_ | refine bEq ?_ ?_ | refine bNe ?_ ?_) <;> intro hh <;> try (exfalso; omega)) | (refine iaI (by omega) (by omega) hgx ?_) | (refine iaI (by omega) (by omega) g1 ?_) | refine wIn (by omega) ?_ | refine nI (by omega) ?_) <;> conv => whnf))
        exact ⟨(k + 1, t1), (meets_id (by (repeat' apply And.intro) <;> first | rfl | exact True.intro | (intro hh; cases hh))), ⟨by dsimp only; omega, hl1, hsup, htk t1 hall hb, hshut⟩, by dsimp only; omega⟩
      | false =>
        rw [hb] at g1
        have hb' : trB t1 x = false := hb
        have hxr : trB tr x = false := by
          cases hq : trB tr x with
          | false => rfl
          | true => rw [hsup x hq] at hb'; cases hb'
        have hu1 := untr_set hxt hb
        have hu2 := untr_le (tr := tr) (tr' := t1) hl1 (fun i hi => by
          have := hsup (i : Nat) (by unfold trB; simpa using hi)
          unfold trB at this; simpa using this)
        have hput : (t1.map bAV).set x.toNat [.bool true] = (t1.set x.toNat true).map bAV := by rw [List.map_set]; rfl
        have hsx : trB (t1.set x.toNat true) x = true := by unfold trB; rw [getD_setB _ _ _ _ hxt, if_pos rfl]
        have hsup2 : ∀ y, trB t1 y = true → trB (t1.set x.toNat true) y = true := fun y hy => sup_set ⟨hx0, hxt⟩ hy
        have hnew : ∀ y, 0 ≤ y → trB (t1.set x.toNat true) y = true → y ≠ x → trB t1 y = true := fun y hy0 hy hne => by
          unfold trB at hy ⊢
          rw [getD_setB _ _ _ _ hxt] at hy
          split at hy
          · omega
          · exact hy
        by_cases hp : 0 < left.getD x.toNat 0
        · -- some are left
          have hput2 : (left.map jAV).set x.toNat [.int .i64 (left.getD x.toNat 0 - 1)] = (left.set x.toNat (left.getD x.toNat 0 - 1)).map jAV := by rw [List.map_set]; rfl
          have hput3 : (g.map jAV).set J [.int .i64 x] = (g.set J x).map jAV := by rw [List.map_set]; rfl
          have hs4 := h.s4 x.toNat
          have hwin := win_take h hxm hp
          (conv => whnf); (repeat' ((first | refine bT ?_ | refine bF ?_ | refine bN ?_ | ((first | refine bD ?_ ?_ | refine bEq ?_ ?_ | refine bNe ?_ ?_) <;> intro hh <;> try (exfalso; omega)) | (refine iaI (by omega) (by omega) hgx ?_) | (refine iaI (by omega) (by omega) g1 ?_) | (refine iaI (by omega) (by omega) gl ?_) | (refine iaI (by omega) (by omega) gJ ?_) | refine wIn (by omega) ?_ | refine nI (by omega) ?_) <;> conv => whnf))
          all_goals
            refine ⟨true, left.set x.toNat (left.getD x.toNat 0 - 1), g.set J x, t1.set x.toNat true, rfl, ?_, by simp [hl1], fun e => Bool.noConfusion e, fun _ => hwin⟩
            unfold wkIns
            rw [← hput, ← hput2, ← hput3]
            rfl
        · -- those that have it
          have hl0 : left.getD x.toNat 0 = 0 := by
            have := h.nn x.toNat hxl
            omega
          have lt2 : (t1.set x.toNat true).length = tr.length := by simp [hl1]
          (conv => whnf); (repeat' ((first | refine bT ?_ | refine bF ?_ | refine bN ?_ | ((first | refine bD ?_ ?_ | refine bEq ?_ ?_ | refine bNe ?_ ?_) <;> intro hh <;> try (exfalso; omega)) | (refine iaI (by omega) (by omega) hgx ?_) | (refine iaI (by omega) (by omega) g1 ?_) | (refine iaI (by omega) (by omega) gl ?_) | refine wIn (by omega) ?_ | refine nI (by omega) ?_) <;> conv => whnf))
          refine loop_i (α := Nat × List Bool) (fun q => [(59, .int .i64 q.1), (58, .int .i64 ↑(g.map jAV).length), (57, .row 3), (19, .int .i64 k), (18, .int .i64 ↑((fsG fs J).map jAV).length), (17, .isl ((fsG fs J).map jAV)), (8, .int .i64 x), (2, .row 4), (1, .int .i64 J), (0, .own 0 0)]) (fun q => wkIns fs left g q.2) (fun q => q.1 ≤ g.length ∧ q.2.length = tr.length ∧ (∀ y, trB (t1.set x.toNat true) y = true → trB q.2 y = true) ∧ (∀ j, j < q.1 → g.getD j 0 = x → ∀ y ∈ fsG fs j, trB q.2 y = true) ∧ ∀ y, 0 ≤ y → trB q.2 y = true → trB tr y = false → y ≠ x → left.getD y.toNat 0 = 0 ∧ ∀ j, j < g.length → g.getD j 0 = y → ∀ z ∈ fsG fs j, trB q.2 z = true) (fun q => g.length - q.1) (0, t1.set x.toNat true) ?_ ⟨by simp, lt2, fun y hy => hy, fun j hj => by dsimp only at hj; omega, fun y hy0 hy hyr hne => ?_⟩ ?_
          · dsimp only
            unfold wkIns
            rw [← hput]
            exact (meets_id (by (repeat' apply And.intro) <;> first | rfl | exact True.intro | (intro hh; cases hh)))
          · obtain ⟨a, b⟩ := hshut y hy0 (hnew y hy0 hy hne) hyr
            exact ⟨a, fun j hj hgj z hz => hsup2 z (b j hj hgj z hz)⟩
          rintro ⟨j, t2⟩ ⟨hj0, hl2, hs2', hpart, hsh2⟩
          dsimp only at hj0 hl2 hs2' hpart hsh2 ⊢
          conv => whnf
          refine bD (fun h5 => ?_) (fun h5 => ?_)
          · have hj : j < g.length := by omega
            have gj := jget hj
            by_cases he : g.getD j 0 = x
            · have hx2 : trB t2 x = true := hs2' x hsx
              have hu3 := untr_le (tr := t1.set x.toNat true) (tr' := t2) (by rw [hl2, lt2]) (fun i hi => by
                have := hs2' (i : Nat) (by unfold trB; simpa using hi)
                unfold trB at this; simpa using this)
              have hpre : Pre fs left g t2 j := ⟨h.sp, by rw [hl2]; exact hlt, hlg, by omega, h.nn, h.gok, .inr (by rw [he]; exact hx2), h.s1, h.s2, h.s3, h.s4⟩
              have hrec := ih (untr t2) (by omega) left g t2 j (Nat.le_refl _) hpre
              (conv => whnf); (repeat' ((first | refine bT ?_ | refine bF ?_ | refine bN ?_ | ((first | refine bD ?_ ?_ | refine bEq ?_ ?_ | refine bNe ?_ ?_) <;> intro hh <;> try (exfalso; omega)) | (refine iaI (by omega) (by omega) gj ?_) | refine wIn (by omega) ?_ | refine nI (by omega) ?_) <;> conv => whnf))
              refine hrec.callwq [0, 1, 2, 3, 4] rfl rfl ⟨rfl, rfl, rfl, rfl, rfl, trivial⟩ rfl rfl rfl rfl (fun r outs hr => ?_)
              obtain ⟨b, left', g', t3, hr1, ho, hl3, hf, hw⟩ := hr
              subst hr1; subst ho
              refine ⟨⟨rfl, rfl, rfl, rfl⟩, ?_⟩
              cases b with
              | false =>
                obtain ⟨e1, e2, hF⟩ := hf rfl
                subst e1; subst e2
                (conv => whnf); (repeat' ((first | refine bT ?_ | refine bF ?_ | refine bN ?_ | ((first | refine bD ?_ ?_ | refine bEq ?_ ?_ | refine bNe ?_ ?_) <;> intro hh <;> try (exfalso; omega)) | refine wIn (by omega) ?_ | refine nI (by omega) ?_) <;> conv => whnf))
                refine ⟨(j + 1, t3), (meets_id (by (repeat' apply And.intro) <;> first | rfl | exact True.intro | (intro hh; cases hh))), ⟨by dsimp only; omega, by rw [hl3, hl2], fun y hy => hF.sup y (hs2' y hy), fun i hi hgi y hy => ?_, fun y hy0 hy hyr hne => ?_⟩, by dsimp only; omega⟩
                · dsimp only at hi
                  by_cases e : i = j
                  · subst e; exact hF.all y hy
                  · exact hF.sup y (hpart i (by omega) hgi y hy)
                · cases hq : trB t2 y with
                  | true =>
                    obtain ⟨a, b⟩ := hsh2 y hy0 hq hyr hne
                    exact ⟨a, fun i hi hgi z hz => hF.sup z (b i hi hgi z hz)⟩
                  | false => exact hF.shut y hy0 hy hq
              | true =>
                have hW := hw rfl
                have hwin := win_from h hxm hj he hxr (fun y hy => hs2' y (hsup2 y (hsup y hy))) hW
                have hJ1 : J < g'.length := by rw [hW.gl]; exact hJ
                have lg1 : (g'.map jAV).length = g'.length := by simp
                have gJ1 := jget hJ1
                have hput3 : (g'.map jAV).set J [.int .i64 x] = (g'.set J x).map jAV := by rw [List.map_set]; rfl
                have hgl := hW.gl
                (conv => whnf); (repeat' ((first | refine bT ?_ | refine bF ?_ | refine bN ?_ | ((first | refine bD ?_ ?_ | refine bEq ?_ ?_ | refine bNe ?_ ?_) <;> intro hh <;> try (exfalso; omega)) | (refine iaI (by omega) (by omega) gJ1 ?_) | refine wIn (by omega) ?_ | refine nI (by omega) ?_) <;> conv => whnf))
                all_goals
                  refine ⟨true, left', g'.set J x, t3, rfl, ?_, by rw [hl3, hl2], fun e => Bool.noConfusion e, fun _ => hwin⟩
                  unfold wkIns
                  rw [← hput3]
                  rfl
            · (conv => whnf); (repeat' ((first | refine bT ?_ | refine bF ?_ | refine bN ?_ | ((first | refine bD ?_ ?_ | refine bEq ?_ ?_ | refine bNe ?_ ?_) <;> intro hh <;> try (exfalso; omega)) | (refine iaI (by omega) (by omega) gj ?_) | refine wIn (by omega) ?_ | refine nI (by omega) ?_) <;> conv => whnf))
              refine ⟨(j + 1, t2), (meets_id (by (repeat' apply And.intro) <;> first | rfl | exact True.intro | (intro hh; cases hh))), ⟨by dsimp only; omega, hl2, hs2', fun i hi hgi y hy => ?_, hsh2⟩, by dsimp only; omega⟩
              dsimp only at hi
              by_cases e : i = j
              · subst e; exact absurd hgi he
              · exact hpart i (by omega) hgi y hy
          · have : j = g.length := by omega
            subst this
            (conv => whnf); (repeat' ((first | refine bT ?_ | refine bF ?_ | refine bN ?_ | ((first | refine bD ?_ ?_ | refine bEq ?_ ?_ | refine bNe ?_ ?_) <;> intro hh <;> try (exfalso; omega)) | refine wIn (by omega) ?_ | refine nI (by omega) ?_) <;> conv => whnf))
            refine ⟨(k + 1, t2), (meets_id (by (repeat' apply And.intro) <;> first | rfl | exact True.intro | (intro hh; cases hh))), ⟨by dsimp only; omega, hl2, fun y hy => hs2' y (hsup2 y (hsup y hy)), htk t2 (fun y hy => hs2' y (hsup2 y (hall y hy))) (hs2' x hsx), fun y hy0 hy hyr => ?_⟩, by dsimp only; omega⟩
            by_cases e : y = x
            · subst e
              exact ⟨hl0, hpart⟩
            · exact hsh2 y hy0 hy hyr e
    · have : k = (fsG fs J).length := by omega
      subst this
      rw [List.take_length] at hall
      (conv => whnf); (repeat' ((first | refine bT ?_ | refine bF ?_ | refine bN ?_ | ((first | refine bD ?_ ?_ | refine bEq ?_ ?_ | refine bNe ?_ ?_) <;> intro hh <;> try (exfalso; omega)) | refine wIn (by omega) ?_ | refine nI (by omega) ?_) <;> conv => whnf))
      all_goals exact ⟨false, left, g, t1, rfl, rfl, hl1, fun _ => ⟨rfl, rfl, ⟨hsup, hall, hshut⟩⟩, fun e => Bool.noConfusion e⟩
theorem p136e (fs : List (List Int)) (g : List Int) (J : Nat) (hJ : J < fs.length) (h2 : fs.length ≤ 100) (h0 : fsG fs J = []) : FnA Try.prog 136 [.ipt [.isl (fs.map fAV), .isl [], .isl (g.map jAV)], .int .i64 (J : Nat), .isl []] (· = .bool false) := by
  have lf : (fs.map fAV).length = fs.length := by simp
  have gf := fget' hJ
  rw [h0] at gf
  refine fnA 0 ok136 (by simp) ?_
  (conv => whnf); (repeat' ((first | refine bT ?_ | refine bF ?_ | refine bN ?_ | ((first | refine bD ?_ ?_ | refine bEq ?_ ?_ | refine bNe ?_ ?_) <;> intro hh <;> try (exfalso; omega)) | (refine iaI (by omega) (by omega) gf ?_) | refine wIn (by omega) ?_ | refine nI (by omega) ?_) <;> conv => whnf))
  refine loop_i (α := Unit) (fun q => [(19, .int .i64 0), (18, .int .i64 0)]) (fun q => []) (fun q => True) (fun q => 0) () (meets_id (by (repeat' apply And.intro) <;> first | rfl | exact True.intro | (intro hh; cases hh))) trivial ?_
  intro _ _
  (conv => whnf); (repeat' ((first | refine bT ?_ | refine bF ?_ | refine bN ?_ | ((first | refine bD ?_ ?_ | refine bEq ?_ ?_ | refine bNe ?_ ?_) <;> intro hh <;> try (exfalso; omega)) | refine wIn (by omega) ?_ | refine nI (by omega) ?_) <;> conv => whnf))
  all_goals rfl
def Shop.isSt (w : Shop) (st : List Int) : Bool := decide (st.length = w.sps.length) && st.all fun n => decide (0 ≤ n ∧ n ≤ 10)
def Shop.areJ (w : Shop) (js : List Job) : Bool := decide (js.length ≤ 10) && js.all fun j => w.isSl j.mkr j.sl
theorem p157 (n : Int) : FnA Try.prog 157 [.int .i64 n] (· = .bool (decide (0 ≤ n ∧ n ≤ 10))) := by
  have e1 := p114 n 0 10
  refine fnA 0 ok157 (by simp) ?_
  (conv => whnf); (repeat' ((first | refine bT ?_ | refine bF ?_ | refine bN ?_ | ((first | refine bD ?_ ?_ | refine bEq ?_ ?_ | refine bNe ?_ ?_) <;> intro hh <;> try (exfalso; omega)) | (refine (e1).callq rfl rfl fun _ h => ?_; subst h) | refine wIn (by omega) ?_ | refine nI (by omega) ?_) <;> conv => whnf))
  all_goals rfl
theorem p133 (w : Shop) (st : List Int) (hs : w.sps.length ≤ 1000000) (hst : st.length ≤ 1000000) : FnA Try.prog 133 [.agg w.cells, .isl (st.map jAV)] (· = .bool (w.isSt st)) := by
  have l1 : (w.sps.map Spare.av).length = w.sps.length := by simp
  have l2 : (st.map jAV).length = st.length := by simp
  have e1 := p127s (C := []) (fun n => decide (0 ≤ n ∧ n ≤ 10)) st hst (fun n _ => fnV_of bd157 (p157 n))
  unfold Shop.isSt
  refine fnA 1 ok133 (by simp) ?_
  by_cases h : st.length = w.sps.length
  · rw [decide_eq_true h]
    (conv => whnf); (repeat' ((first | refine bT ?_ | refine bF ?_ | refine bN ?_ | ((first | refine bD ?_ ?_ | refine bEq ?_ ?_ | refine bNe ?_ ?_) <;> intro hh <;> try (exfalso; omega)) | (refine (e1).callq rfl rfl fun _ h => ?_; subst h) | refine wIn (by omega) ?_ | refine nI (by omega) ?_) <;> conv => whnf))
    all_goals rfl
  · rw [decide_eq_false h]
    (conv => whnf); (repeat' ((first | refine bT ?_ | refine bF ?_ | refine bN ?_ | ((first | refine bD ?_ ?_ | refine bEq ?_ ?_ | refine bNe ?_ ?_) <;> intro hh <;> try (exfalso; omega)) | refine wIn (by omega) ?_ | refine nI (by omega) ?_) <;> conv => whnf))
    all_goals rfl
theorem p159 (w : Shop) (j : Job) (hw : w.mks.length ≤ 1000000) (hm : ∀ x ∈ w.mks, x.length ≤ 1000000) : FnA Try.prog 159 [.agg j.av, .ipt w.cells] (· = .bool (w.isSl j.mkr j.sl)) := by
  have e1 := p73 w j.mkr j.sl hw hm
  refine fnA 1 ok159 (by simp) ?_
  (conv => whnf); (repeat' ((first | refine bT ?_ | refine bF ?_ | refine bN ?_ | ((first | refine bD ?_ ?_ | refine bEq ?_ ?_ | refine bNe ?_ ?_) <;> intro hh <;> try (exfalso; omega)) | (refine (e1).callq rfl rfl fun _ h => ?_; subst h) | refine wIn (by omega) ?_ | refine nI (by omega) ?_) <;> conv => whnf))
  all_goals rfl
theorem p134 (w : Shop) (js : List Job) (hw : w.mks.length ≤ 1000000) (hm : ∀ x ∈ w.mks, x.length ≤ 1000000) (hj : js.length ≤ 1000000) : FnA Try.prog 134 [.agg w.cells, .isl (js.map Job.av)] (· = .bool (w.areJ js)) := by
  have l2 : (js.map Job.av).length = js.length := by simp
  have e1 := p158 (C := w.cells) (fun j => w.isSl j.mkr j.sl) js hj (fun j _ => fnV_of bd159 (p159 w j hw hm))
  unfold Shop.areJ
  refine fnA 1 ok134 (by simp) ?_
  by_cases h : js.length ≤ 10
  · rw [decide_eq_true h]
    (conv => whnf); (repeat' ((first | refine bT ?_ | refine bF ?_ | refine bN ?_ | ((first | refine bD ?_ ?_ | refine bEq ?_ ?_ | refine bNe ?_ ?_) <;> intro hh <;> try (exfalso; omega)) | (refine (e1).lendq rfl fun _ h => ?_; subst h; refine ⟨rfl, ?_⟩) | refine wIn (by omega) ?_ | refine nI (by omega) ?_) <;> conv => whnf))
    all_goals rfl
  · rw [decide_eq_false h]
    (conv => whnf); (repeat' ((first | refine bT ?_ | refine bF ?_ | refine bN ?_ | ((first | refine bD ?_ ?_ | refine bEq ?_ ?_ | refine bNe ?_ ?_) <;> intro hh <;> try (exfalso; omega)) | refine wIn (by omega) ?_ | refine nI (by omega) ?_) <;> conv => whnf))
    all_goals rfl
/-- work with which no more jobs get a spare -/
structure Best (fs : List (List Int)) (st left g : List Int) : Prop where
  ll : left.length = st.length
  lg : g.length = fs.length
  nn : Nn left
  gok : ∀ j, j < g.length → g.getD j 0 = -1 ∨ g.getD j 0 ∈ fsG fs j
  tot : ∀ s : Nat, s < st.length → left.getD s 0 + (g.count (s : Int) : Int) = st.getD s 0
  shut : ∀ j, j < g.length → g.getD j 0 = -1 → ∃ C, Shut fs left g C ∧ ∀ x ∈ fsG fs j, C x
def Shop.fsJ (w : Shop) (js : List Job) : List (List Int) := js.map fun j => w.sures j.mkr j.sl
theorem fsJ_len (w : Shop) (js : List Job) : (w.fsJ js).length = js.length := by simp [Shop.fsJ]
theorem fsJ_sp {w : Shop} {js : List Job} {j : Nat} {s : Int} (h : s ∈ fsG (w.fsJ js) j) : 0 ≤ s ∧ s < w.sps.length := by
  unfold fsG Shop.fsJ at h
  by_cases hj : j < js.length
  · have : (js.map fun j => w.sures j.mkr j.sl).getD j [] = w.sures js[j].mkr js[j].sl := by simp [List.getD_eq_getElem?_getD, hj]
    rw [this] at h
    exact (mem_numF.1 h).1
  · have : (js.map fun j => w.sures j.mkr j.sl).getD j [] = [] := by simp [List.getD_eq_getElem?_getD, show js[j]? = none from List.getElem?_eq_none (by omega)]
    rw [this] at h; cases h
theorem fsJ_len3 (w : Shop) (js : List Job) (j : Nat) : (fsG (w.fsJ js) j).length ≤ w.sps.length := by
  unfold fsG Shop.fsJ
  by_cases hj : j < js.length
  · have : (js.map fun j => w.sures j.mkr j.sl).getD j [] = w.sures js[j].mkr js[j].sl := by simp [List.getD_eq_getElem?_getD, hj]
    rw [this]; exact sures_len _ _ _
  · have : (js.map fun j => w.sures j.mkr j.sl).getD j [] = [] := by simp [List.getD_eq_getElem?_getD, show js[j]? = none from List.getElem?_eq_none (by omega)]
    rw [this]; simp
/-- a part of the jobs was served -/
structure Part1 (fs : List (List Int)) (st : List Int) (k : Nat) (left g : List Int) : Prop where
  ll : left.length = st.length
  lg : g.length = fs.length
  nn : Nn left
  gok : ∀ j, j < g.length → g.getD j 0 = -1 ∨ g.getD j 0 ∈ fsG fs j
  tot : ∀ s : Nat, s < st.length → left.getD s 0 + (g.count (s : Int) : Int) = st.getD s 0
  shut : ∀ j, j < k → j < g.length → g.getD j 0 = -1 → ∃ C, Shut fs left g C ∧ ∀ x ∈ fsG fs j, C x
  rest : ∀ j, k ≤ j → j < g.length → g.getD j 0 = -1
theorem part_pre {fs : List (List Int)} {st left g : List Int} {k : Nat} (h : Part1 fs st k left g) (hk : k < fs.length) (hsp : ∀ j, ∀ s ∈ fsG fs j, 0 ≤ s ∧ s < st.length) (h1 : st.length ≤ 100) (h2 : fs.length ≤ 100) (h3 : ∀ j, (fsG fs j).length ≤ 100) (h4 : ∀ s, st.getD s 0 ≤ 1000) : Pre fs left g (List.replicate st.length false) k := by
  refine ⟨fun j s hs => by rw [h.ll]; exact hsp j s hs, by simp [h.ll], h.lg, hk, h.nn, h.gok, .inl (h.rest k (Nat.le_refl _) (by rw [h.lg]; exact hk)), by rw [h.ll]; exact h1, h2, h3, fun s => ?_⟩
  by_cases hs : s < st.length
  · have := h.tot s hs
    have := h4 s
    omega
  · have : left.getD s 0 = 0 := by simp [List.getD_eq_getElem?_getD, show left[s]? = none from List.getElem?_eq_none (by rw [h.ll]; omega)]
    omega
theorem part_win {fs : List (List Int)} {st left g left' g' : List Int} {tr : List Bool} {k : Nat} (h : Part1 fs st k left g) (hk : k < fs.length) (hsp : ∀ j, ∀ s ∈ fsG fs j, 0 ≤ s ∧ s < st.length) (hw : Win fs left g tr left' g' k) : Part1 fs st (k + 1) left' g' := by
  have hkg : k < g.length := by rw [h.lg]; exact hk
  have hr := h.rest k (Nat.le_refl _) hkg
  have hpos : ∀ j, g'.getD j 0 ∈ fsG fs j → g'.getD j 0 ≠ -1 := fun j hj e => by have := hsp j _ hj; omega
  refine ⟨by rw [hw.ll, h.ll], by rw [hw.gl, h.lg], hw.nn, fun j hj => ?_, fun s hs => ?_, fun j hj hjl hgj => ?_, fun j hj hjl => ?_⟩
  · rw [hw.gl] at hj
    by_cases e : j = k
    · subst e; exact .inr hw.got
    · rcases hw.oth j hj e with q | q
      · rw [q]; exact h.gok j hj
      · exact .inr q.1
  · have := hw.tot s (by rw [h.ll]; exact hs)
    rw [hr] at this
    have := h.tot s hs
    rw [if_neg (by omega)] at *
    omega
  · rw [hw.gl] at hjl
    by_cases e : j = k
    · subst e; exact absurd hgj (hpos j hw.got)
    · rcases hw.oth j hjl e with q | q
      · rw [q] at hgj
        obtain ⟨C, c1, c2⟩ := h.shut j (by omega) hjl hgj
        exact ⟨C, (hw.shut C c1).1, c2⟩
      · exact absurd hgj (hpos j q.1)
  · rw [hw.gl] at hjl
    have hrj := h.rest j (by omega) hjl
    rcases hw.oth j hjl (by omega) with q | q
    · rw [q]; exact hrj
    · omega
theorem part_fail {fs : List (List Int)} {st left g : List Int} {tr : List Bool} {k : Nat} (h : Part1 fs st k left g) (hsp : ∀ j, ∀ s ∈ fsG fs j, 0 ≤ s ∧ s < st.length) (hf : Fail fs left g (List.replicate st.length false) tr k) : Part1 fs st (k + 1) left g := by
  refine ⟨h.ll, h.lg, h.nn, h.gok, h.tot, fun j hj hjl hgj => ?_, fun j hj hjl => h.rest j (by omega) hjl⟩
  by_cases e : j = k
  · subst e
    refine ⟨fun x => 0 ≤ x ∧ trB tr x = true, fun s hs => ?_, fun x hx => ⟨(hsp j x hx).1, hf.all x hx⟩⟩
    obtain ⟨a, b⟩ := hf.shut s hs.1 hs.2 (by unfold trB; simp [List.getD_eq_getElem?_getD, List.getElem?_replicate]; split <;> rfl)
    exact ⟨a, fun i hi hgi x hx => ⟨(hsp i x hx).1, b i hi hgi x hx⟩⟩
  · exact h.shut j (by omega) hjl hgj
theorem part_best {fs : List (List Int)} {st left g : List Int} (h : Part1 fs st fs.length left g) : Best fs st left g :=
  ⟨h.ll, h.lg, h.nn, h.gok, h.tot, fun j hj hgj => h.shut j (by rw [← h.lg]; exact hj) hj hgj⟩
theorem part_0 {fs : List (List Int)} {st : List Int} (hn : Nn st) : Part1 fs st 0 st (List.replicate fs.length (-1)) := by
  refine ⟨rfl, by simp, hn, fun j hj => .inl ?_, fun s hs => ?_, fun j hj => by omega, fun j _ hj => ?_⟩
  · have hj : j < fs.length := by simpa using hj
    simp [List.getD_eq_getElem?_getD, List.getElem?_replicate, hj]
  · rw [List.count_replicate]
    have : ¬ ((-1 : Int) == (s : Int)) = true := by simp
    rw [if_neg this]; omega
  · have hj : j < fs.length := by simpa using hj
    simp [List.getD_eq_getElem?_getD, List.getElem?_replicate, hj]
theorem isSt_iff {w : Shop} {st : List Int} : w.isSt st = true ↔ st.length = w.sps.length ∧ ∀ s, s < st.length → 0 ≤ st.getD s 0 ∧ st.getD s 0 ≤ 10 := by
  unfold Shop.isSt
  rw [Bool.and_eq_true, decide_eq_true_iff, List.all_eq_true]
  refine and_congr_right fun _ => ⟨fun h s hs => ?_, fun h x hx => ?_⟩
  · have := h _ (List.getElem_mem hs)
    have e : st.getD s 0 = st[s] := by simp [List.getD_eq_getElem?_getD, hs]
    rw [e]; exact of_decide_eq_true this
  · obtain ⟨s, hs, rfl⟩ := List.getElem_of_mem hx
    have := h s hs
    have e : st.getD s 0 = st[s] := by simp [List.getD_eq_getElem?_getD, hs]
    rw [e] at this; exact decide_eq_true this
theorem areJ_iff {w : Shop} {js : List Job} : w.areJ js = true ↔ js.length ≤ 10 ∧ ∀ j ∈ js, w.isSl j.mkr j.sl = true := by
  unfold Shop.areJ
  rw [Bool.and_eq_true, decide_eq_true_iff, List.all_eq_true]
theorem p135 (w : Shop) (hk : Ok w) (st : List Int) (js : List Job) (hst : w.isSt st = true) (hjs : w.areJ js = true) (h0 : 0 < st.length) : FnO Try.prog 135 [.agg w.scL, .isl (st.map jAV), .isl (js.map Job.av)] (fun r rows => ∃ left g, Best (w.fsJ js) st left g ∧ r = .agg [.row 11, .row 2, .row 12] ∧ rows = [(11, .row false 42 1 ((w.fsJ js).map fAV)), (2, .row false 3 1 (left.map jAV)), (12, .row false 3 1 (g.map jAV))]) := by
  obtain ⟨hs1, hs2⟩ := isSt_iff.1 hst
  obtain ⟨hj1, hj2⟩ := areJ_iff.1 hjs
  have hk1 := hk.s1
  have l1 : (st.map jAV).length = st.length := by simp
  have l2 : (js.map Job.av).length = js.length := by simp
  have hnn : Nn st := fun s hs => (hs2 s hs).1
  have hsp : ∀ j, ∀ s ∈ fsG (w.fsJ js) j, 0 ≤ s ∧ s < st.length := fun j s hs => by have := fsJ_sp hs; omega
  have hfl := fsJ_len w js
  have e1 := p160 st h0 (by omega)
  refine fnO 13 ok135 (by simp) ?_
  (conv => whnf); (repeat' ((first | refine bT ?_ | refine bF ?_ | refine bN ?_ | ((first | refine bD ?_ ?_ | refine bEq ?_ ?_ | refine bNe ?_ ?_) <;> intro hh <;> try (exfalso; omega)) | (refine (e1).callzq rfl rfl fun _ _ h => ?_; obtain ⟨h, k⟩ := h; subst h; subst k; refine ⟨rfl, ?_⟩) | refine wIn (by omega) ?_ | refine nI (by omega) ?_) <;> conv => whnf))
  refine loop_i (α := Nat) (fun k => [(16, .int .i64 k), (15, .int .i64 ↑(js.map Job.av).length), (14, .isl (js.map Job.av)), (7, .own 3 0), (6, .own 1 0), (3, .own 0 0), (2, .isl (js.map Job.av)), (1, .isl (st.map jAV))]) (fun k => [.box false w.scL, .box false [.nils, .nils, .nils], .row false 3 1 (st.map jAV), .box false [.row 11, .row 2, .row 12], .fresh, .fresh, .fresh, .fresh, .fresh, .fresh, .fresh, .row false 42 1 ((w.fsJ (js.take k)).map fAV), .row false 3 1 ((List.replicate k (-1 : Int)).map jAV)]) (fun k => k ≤ js.length) (fun k => js.length - k) 0 (meets_as [(11, none), (12, none)] (by (repeat' apply And.intro) <;> first | rfl | exact True.intro | (intro hh; cases hh))) (by omega) ?_
  · intro k hk0
    conv => whnf
    refine bD (fun h3 => ?_) (fun h3 => ?_)
    · have hkl : k < js.length := by omega
      have gj := getM Job.av js k hkl
      have hsl := hj2 _ (List.getElem_mem hkl)
      have e2 := p161 w hk js[k].mkr js[k].sl hsl
      have hm1 : (w.fsJ (js.take (k + 1))).map fAV = (w.fsJ (js.take k)).map fAV ++ [fAV (w.sures js[k].mkr js[k].sl)] := by
        unfold Shop.fsJ; rw [List.take_succ_eq_append_getElem hkl, List.map_append, List.map_append]; rfl
      have hm2 : (List.replicate (k + 1) (-1 : Int)).map jAV = (List.replicate k (-1 : Int)).map jAV ++ [[.int .i64 (-1)]] := by
        rw [List.replicate_succ', List.map_append]; rfl
      have l3 : ((w.fsJ (js.take k)).map fAV).length = k := by rw [List.length_map, fsJ_len, List.length_take]; omega
      have l4 : ((List.replicate k (-1 : Int)).map jAV).length = k := by simp
      (conv => whnf); (repeat' ((first | refine bT ?_ | refine bF ?_ | refine bN ?_ | ((first | refine bD ?_ ?_ | refine bEq ?_ ?_ | refine bNe ?_ ?_) <;> intro hh <;> try (exfalso; omega)) | (refine iaI (by omega) (by omega) gj ?_) | (refine (e2).callzq rfl rfl fun _ h => ?_; subst h) | (refine apI (by simp [AV.one]) (by simp only [l3]; simp; omega) ?_) | (refine apI (by simp [AV.one]) (by simp only [l4]; simp; omega) ?_) | refine wIn (by omega) ?_ | refine nI (by omega) ?_) <;> conv => whnf))
      refine ⟨k + 1, ?_, by omega, by omega⟩
      rw [hm1, hm2]
      exact (meets_as [(11, some 7), (12, some 9)] (by (repeat' apply And.intro) <;> first | rfl | exact True.intro | (intro hh; cases hh)))
    · have : k = js.length := by omega
      subst this
      rw [List.take_length]
      (conv => whnf); (repeat' ((first | refine bT ?_ | refine bF ?_ | refine bN ?_ | ((first | refine bD ?_ ?_ | refine bEq ?_ ?_ | refine bNe ?_ ?_) <;> intro hh <;> try (exfalso; omega)) | refine wIn (by omega) ?_ | refine nI (by omega) ?_) <;> conv => whnf))
      refine loop_i (α := Nat × List Int × List Int) (fun q => [(39, .int .i64 q.1), (38, .int .i64 ↑(js.map Job.av).length), (7, .own 3 0), (6, .own 1 0), (3, .own 0 0), (2, .isl (js.map Job.av)), (1, .isl (st.map jAV))]) (fun q => [.box false w.scL, .box false [.nils, .nils, .nils], .row false 3 1 (q.2.1.map jAV), .box false [.row 11, .row 2, .row 12], .fresh, .fresh, .fresh, .fresh, .fresh, .fresh, .fresh, .row false 42 1 ((w.fsJ js).map fAV), .row false 3 1 (q.2.2.map jAV)]) (fun q => q.1 ≤ js.length ∧ Part1 (w.fsJ js) st q.1 q.2.1 q.2.2) (fun q => js.length - q.1) (0, st, List.replicate (w.fsJ js).length (-1)) ?_ ⟨by simp, part_0 hnn⟩ ?_
      · dsimp only
        rw [hfl]
        exact (meets_id (by (repeat' apply And.intro) <;> first | rfl | exact True.intro | (intro hh; cases hh)))
      rintro ⟨k, left, g⟩ ⟨hk0, hP⟩
      dsimp only at hk0 hP ⊢
      conv => whnf
      refine bD (fun h3 => ?_) (fun h3 => ?_)
      · have hkl : k < js.length := by omega
        have hkf : k < (w.fsJ js).length := by rw [hfl]; exact hkl
        have hpre := part_pre hP hkf hsp (by omega) (by omega) (fun j => by have := fsJ_len3 w js j; omega) (fun s => by
          by_cases hs : s < st.length
          · have := hs2 s hs; omega
          · have : st.getD s 0 = 0 := by simp [List.getD_eq_getElem?_getD, show st[s]? = none from List.getElem?_eq_none (by omega)]
            omega)
        have hg := w136 (w.fsJ js) _ left g (List.replicate st.length false) k (Nat.le_refl _) hpre
        have hrep : List.replicate (↑(st.map jAV).length : Int).toNat [AV.bool false] = (List.replicate st.length false).map bAV := by simp [bAV]
        have hg' := hg
        unfold wkIns at hg'
        rw [← hrep] at hg'
        (conv => whnf); (repeat' ((first | refine bT ?_ | refine bF ?_ | refine bN ?_ | ((first | refine bD ?_ ?_ | refine bEq ?_ ?_ | refine bNe ?_ ?_) <;> intro hh <;> try (exfalso; omega)) | (refine mkI (by omega) (by omega) (by omega) ?_) | refine wIn (by omega) ?_ | refine nI (by omega) ?_) <;> conv => whnf))
        refine hg'.callwq [3, 11, 2, 12, 10] rfl rfl ⟨rfl, rfl, rfl, rfl, rfl, trivial⟩ rfl rfl rfl rfl (fun r outs hr => ?_)
        obtain ⟨b, left', g', t3, hr1, ho, hl3, hf, hw⟩ := hr
        subst hr1; subst ho
        refine ⟨⟨rfl, rfl, rfl, rfl⟩, ?_⟩
        cases b with
        | false =>
          obtain ⟨q1, q2, hF⟩ := hf rfl
          subst q1; subst q2
          have hN := part_fail hP hsp hF
          (conv => whnf); (repeat' ((first | refine bT ?_ | refine bF ?_ | refine bN ?_ | ((first | refine bD ?_ ?_ | refine bEq ?_ ?_ | refine bNe ?_ ?_) <;> intro hh <;> try (exfalso; omega)) | refine wIn (by omega) ?_ | refine nI (by omega) ?_) <;> conv => whnf))
          exact ⟨(k + 1, left', g'), (meets_id (by (repeat' apply And.intro) <;> first | rfl | exact True.intro | (intro hh; cases hh))), ⟨by dsimp only; omega, hN⟩, by dsimp only; omega⟩
        | true =>
          have hN := part_win hP hkf hsp (hw rfl)
          (conv => whnf); (repeat' ((first | refine bT ?_ | refine bF ?_ | refine bN ?_ | ((first | refine bD ?_ ?_ | refine bEq ?_ ?_ | refine bNe ?_ ?_) <;> intro hh <;> try (exfalso; omega)) | refine wIn (by omega) ?_ | refine nI (by omega) ?_) <;> conv => whnf))
          exact ⟨(k + 1, left', g'), (meets_id (by (repeat' apply And.intro) <;> first | rfl | exact True.intro | (intro hh; cases hh))), ⟨by dsimp only; omega, hN⟩, by dsimp only; omega⟩
      · have : k = js.length := by omega
        subst this
        rw [← hfl] at hP
        (conv => whnf); (repeat' ((first | refine bT ?_ | refine bF ?_ | refine bN ?_ | ((first | refine bD ?_ ?_ | refine bEq ?_ ?_ | refine bNe ?_ ?_) <;> intro hh <;> try (exfalso; omega)) | refine wIn (by omega) ?_ | refine nI (by omega) ?_) <;> conv => whnf))
        all_goals exact ⟨left, g, part_best hP, rfl, rfl⟩
theorem p135e (w : Shop) (hk : Ok w) (st : List Int) (js : List Job) (hst : w.isSt st = true) (hjs : w.areJ js = true) (h0 : st.length = 0) : FnO Try.prog 135 [.agg w.scL, .isl (st.map jAV), .isl (js.map Job.av)] (fun r rows => ∃ left g, Best (w.fsJ js) st left g ∧ r = .agg [.row 11, .isl [], .row 12] ∧ rows = [(11, .row false 42 1 ((w.fsJ js).map fAV)), (12, .row false 3 1 (g.map jAV))]) := by
  obtain ⟨hs1, hs2⟩ := isSt_iff.1 hst
  obtain ⟨hj1, hj2⟩ := areJ_iff.1 hjs
  have hk1 := hk.s1
  have l1 : (st.map jAV).length = st.length := by simp
  have l2 : (js.map Job.av).length = js.length := by simp
  have hnn : Nn st := fun s hs => (hs2 s hs).1
  have hsp : ∀ j, ∀ s ∈ fsG (w.fsJ js) j, 0 ≤ s ∧ s < st.length := fun j s hs => by have := fsJ_sp hs; omega
  have hfl := fsJ_len w js
  have hst0 : st = [] := List.eq_nil_of_length_eq_zero h0
  subst hst0
  have e1 := p160e
  refine fnO 13 ok135 (by simp) ?_
  (conv => whnf); (repeat' ((first | refine bT ?_ | refine bF ?_ | refine bN ?_ | ((first | refine bD ?_ ?_ | refine bEq ?_ ?_ | refine bNe ?_ ?_) <;> intro hh <;> try (exfalso; omega)) | (refine (e1).callzq rfl rfl fun _ h => ?_; subst h) | refine wIn (by omega) ?_ | refine nI (by omega) ?_) <;> conv => whnf))
  refine loop_i (α := Nat) (fun k => [(16, .int .i64 k), (15, .int .i64 ↑(js.map Job.av).length), (14, .isl (js.map Job.av)), (7, .own 3 0), (6, .own 1 0), (3, .own 0 0), (2, .isl (js.map Job.av)), (1, .isl (([] : List Int).map jAV))]) (fun k => [.box false w.scL, .box false [.nils, .nils, .nils], .fresh, .box false [.row 11, .isl [], .row 12], .fresh, .fresh, .fresh, .fresh, .fresh, .fresh, .fresh, .row false 42 1 ((w.fsJ (js.take k)).map fAV), .row false 3 1 ((List.replicate k (-1 : Int)).map jAV)]) (fun k => k ≤ js.length) (fun k => js.length - k) 0 (meets_as [(11, none), (12, none)] (by (repeat' apply And.intro) <;> first | rfl | exact True.intro | (intro hh; cases hh))) (by omega) ?_
  · intro k hk0
    conv => whnf
    refine bD (fun h3 => ?_) (fun h3 => ?_)
    · have hkl : k < js.length := by omega
      have gj := getM Job.av js k hkl
      have hsl := hj2 _ (List.getElem_mem hkl)
      have e2 := p161 w hk js[k].mkr js[k].sl hsl
      have hm1 : (w.fsJ (js.take (k + 1))).map fAV = (w.fsJ (js.take k)).map fAV ++ [fAV (w.sures js[k].mkr js[k].sl)] := by
        unfold Shop.fsJ; rw [List.take_succ_eq_append_getElem hkl, List.map_append, List.map_append]; rfl
      have hm2 : (List.replicate (k + 1) (-1 : Int)).map jAV = (List.replicate k (-1 : Int)).map jAV ++ [[.int .i64 (-1)]] := by
        rw [List.replicate_succ', List.map_append]; rfl
      have l3 : ((w.fsJ (js.take k)).map fAV).length = k := by rw [List.length_map, fsJ_len, List.length_take]; omega
      have l4 : ((List.replicate k (-1 : Int)).map jAV).length = k := by simp
      (conv => whnf); (repeat' ((first | refine bT ?_ | refine bF ?_ | refine bN ?_ | ((first | refine bD ?_ ?_ | refine bEq ?_ ?_ | refine bNe ?_ ?_) <;> intro hh <;> try (exfalso; omega)) | (refine iaI (by omega) (by omega) gj ?_) | (refine (e2).callzq rfl rfl fun _ h => ?_; subst h) | (refine apI (by simp [AV.one]) (by simp only [l3]; simp; omega) ?_) | (refine apI (by simp [AV.one]) (by simp only [l4]; simp; omega) ?_) | refine wIn (by omega) ?_ | refine nI (by omega) ?_) <;> conv => whnf))
      refine ⟨k + 1, ?_, by omega, by omega⟩
      rw [hm1, hm2]
      exact (meets_as [(11, some 7), (12, some 9)] (by (repeat' apply And.intro) <;> first | rfl | exact True.intro | (intro hh; cases hh)))
    · have : k = js.length := by omega
      subst this
      rw [List.take_length]
      (conv => whnf); (repeat' ((first | refine bT ?_ | refine bF ?_ | refine bN ?_ | ((first | refine bD ?_ ?_ | refine bEq ?_ ?_ | refine bNe ?_ ?_) <;> intro hh <;> try (exfalso; omega)) | refine wIn (by omega) ?_ | refine nI (by omega) ?_) <;> conv => whnf))
      refine loop_i (α := Nat × List Int × List Int) (fun q => [(39, .int .i64 q.1), (38, .int .i64 ↑(js.map Job.av).length), (7, .own 3 0), (6, .own 1 0), (3, .own 0 0), (2, .isl (js.map Job.av)), (1, .isl (([] : List Int).map jAV))]) (fun q => [.box false w.scL, .box false [.nils, .nils, .nils], .fresh, .box false [.row 11, .isl [], .row 12], .fresh, .fresh, .fresh, .fresh, .fresh, .fresh, .fresh, .row false 42 1 ((w.fsJ js).map fAV), .row false 3 1 (q.2.2.map jAV)]) (fun q => q.1 ≤ js.length ∧ Part1 (w.fsJ js) [] q.1 q.2.1 q.2.2) (fun q => js.length - q.1) (0, [], List.replicate (w.fsJ js).length (-1)) ?_ ⟨by simp, part_0 hnn⟩ ?_
      · dsimp only
        rw [hfl]
        exact (meets_id (by (repeat' apply And.intro) <;> first | rfl | exact True.intro | (intro hh; cases hh)))
      rintro ⟨k, left, g⟩ ⟨hk0, hP⟩
      dsimp only at hk0 hP ⊢
      conv => whnf
      refine bD (fun h3 => ?_) (fun h3 => ?_)
      · have hkl : k < js.length := by omega
        have hkf : k < (w.fsJ js).length := by rw [hfl]; exact hkl
        have h00 : fsG (w.fsJ js) k = [] := by
          cases hq : fsG (w.fsJ js) k with
          | nil => rfl
          | cons a l =>
            have := hsp k a (by rw [hq]; simp)
            simp at this; omega
        have e3 := p136e (w.fsJ js) g k hkf (by omega) h00
        have hF : Fail (w.fsJ js) left g (List.replicate ([] : List Int).length false) [] k := ⟨fun x hx => by simp [trB] at hx, fun x hx => by rw [h00] at hx; exact absurd hx (by simp), fun x _ hx => by simp [trB] at hx⟩
        have hN := part_fail hP hsp hF
        (conv => whnf); (repeat' ((first | refine bT ?_ | refine bF ?_ | refine bN ?_ | ((first | refine bD ?_ ?_ | refine bEq ?_ ?_ | refine bNe ?_ ?_) <;> intro hh <;> try (exfalso; omega)) | (refine mkI (by simp) (by simp) (by simp) ?_) | refine wIn (by omega) ?_ | refine nI (by omega) ?_) <;> conv => whnf))
        refine e3.lookwq rfl (fun r (hr : r = _) => ?_); subst hr
        refine ⟨rfl, ?_⟩
        (conv => whnf); (repeat' ((first | refine bT ?_ | refine bF ?_ | refine bN ?_ | ((first | refine bD ?_ ?_ | refine bEq ?_ ?_ | refine bNe ?_ ?_) <;> intro hh <;> try (exfalso; omega)) | refine wIn (by omega) ?_ | refine nI (by omega) ?_) <;> conv => whnf))
        exact ⟨(k + 1, left, g), (meets_id (by (repeat' apply And.intro) <;> first | rfl | exact True.intro | (intro hh; cases hh))), ⟨by dsimp only; omega, hN⟩, by dsimp only; omega⟩
      · have : k = js.length := by omega
        subst this
        rw [← hfl] at hP
        (conv => whnf); (repeat' ((first | refine bT ?_ | refine bF ?_ | refine bN ?_ | ((first | refine bD ?_ ?_ | refine bEq ?_ ?_ | refine bNe ?_ ?_) <;> intro hh <;> try (exfalso; omega)) | refine wIn (by omega) ?_ | refine nI (by omega) ?_) <;> conv => whnf))
        all_goals exact ⟨left, g, part_best hP, rfl, rfl⟩
structure Bd (w : Shop) (st : List Int) (js : List Job) : Prop where
  s : w.sps.length ≤ 1000000
  m1 : w.mks.length ≤ 1000000
  m2 : ∀ x ∈ w.mks, x.length ≤ 1000000
  st : st.length ≤ 1000000
  j : js.length ≤ 1000000
theorem js_10 {w : Shop} {st : List Int} {js : List Job} (h : w.eO (w.isSt st && w.areJ js) = 0) : js.length ≤ 10 := by
  have hv := eO_v h
  rw [Bool.and_eq_true] at hv
  exact (areJ_iff.1 hv.2).1
theorem hasN_take {g : List Int} {k : Nat} (hk : k < g.length) : hasN (g.take (k + 1)) = hasN (g.take k) + if g.getD k 0 = -1 then 0 else 1 := by
  have e : g.getD k 0 = g[k] := by simp [List.getD_eq_getElem?_getD, hk]
  rw [e]
  have h1 := hasN_add (g.take (k + 1))
  have h2 := hasN_add (g.take k)
  unfold lackN at h1 h2
  rw [List.take_succ_eq_append_getElem hk, List.count_append] at h1
  rw [List.take_succ_eq_append_getElem hk]
  simp only [List.length_append, List.length_take, List.length_cons, List.length_nil] at h1 h2
  by_cases h : g[k] = -1
  · rw [if_pos h]
    rw [h] at h1 ⊢
    have : ([(-1 : Int)].count (-1)) = 1 := rfl
    omega
  · rw [if_neg h]
    have : ([g[k]].count (-1)) = 0 := by rw [List.count_eq_zero]; simpa using fun e => h e.symm
    omega
theorem p92 (x y : AV) (hx : ∃ es, x = .isl es) (hy : ∃ es, y = .isl es) (g : List Int) (hl : g.length ≤ 1000000) : FnA Try.prog 92 [.ipt [x, y, .isl (g.map jAV)]] (· = .int .i64 (hasN g)) := by
  obtain ⟨xs, rfl⟩ := hx
  obtain ⟨ys, rfl⟩ := hy
  have l1 : (g.map jAV).length = g.length := by simp
  refine fnA 0 ok92 (by simp) ?_
  (conv => whnf); (repeat' ((first | refine bT ?_ | refine bF ?_ | refine bN ?_ | ((first | refine bD ?_ ?_ | refine bEq ?_ ?_ | refine bNe ?_ ?_) <;> intro hh <;> try (exfalso; omega)) | refine wIn (by omega) ?_ | refine nI (by omega) ?_) <;> conv => whnf))
  refine loop_i (α := Nat) (fun k => [(11, .int .i64 k), (10, .int .i64 ↑(g.map jAV).length), (9, .isl (g.map jAV)), (3, .int .i64 (hasN (g.take k)))]) (fun k => []) (fun k => k ≤ g.length) (fun k => g.length - k) 0 (meets_id (by (repeat' apply And.intro) <;> first | rfl | exact True.intro | (intro hh; cases hh))) (by omega) ?_
  intro k hk0
  conv => whnf
  refine bD (fun h3 => ?_) (fun h3 => ?_)
  · have hk : k < g.length := by omega
    have gk := jget hk
    have hn := hasN_take hk
    have hle : hasN (g.take k) ≤ k := by have := hasN_add (g.take k); rw [List.length_take] at this; omega
    by_cases h : g.getD k 0 = -1
    · rw [if_pos h] at hn
      (conv => whnf); (repeat' ((first | refine bT ?_ | refine bF ?_ | refine bN ?_ | ((first | refine bD ?_ ?_ | refine bEq ?_ ?_ | refine bNe ?_ ?_) <;> intro hh <;> try (exfalso; omega)) | (refine iaI (by omega) (by omega) gk ?_) | refine wIn (by omega) ?_ | refine nI (by omega) ?_) <;> conv => whnf))
      refine ⟨k + 1, ?_, by omega, by omega⟩
      rw [hn]; exact (meets_id (by (repeat' apply And.intro) <;> first | rfl | exact True.intro | (intro hh; cases hh)))
    · rw [if_neg h] at hn
      (conv => whnf); (repeat' ((first | refine bT ?_ | refine bF ?_ | refine bN ?_ | ((first | refine bD ?_ ?_ | refine bEq ?_ ?_ | refine bNe ?_ ?_) <;> intro hh <;> try (exfalso; omega)) | (refine iaI (by omega) (by omega) gk ?_) | refine wIn (by omega) ?_ | refine nI (by omega) ?_) <;> conv => whnf))
      refine ⟨k + 1, ?_, by omega, by omega⟩
      rw [hn]; exact (meets_id (by (repeat' apply And.intro) <;> first | rfl | exact True.intro | (intro hh; cases hh)))
  · have : k = g.length := by omega
    subst this
    rw [List.take_length]
    (conv => whnf); (repeat' ((first | refine bT ?_ | refine bF ?_ | refine bN ?_ | ((first | refine bD ?_ ?_ | refine bEq ?_ ?_ | refine bNe ?_ ?_) <;> intro hh <;> try (exfalso; omega)) | refine wIn (by omega) ?_ | refine nI (by omega) ?_) <;> conv => whnf))
    all_goals rfl
theorem p91 (w : Shop) (st : List Int) (js : List Job) (hb : Bd w st js) (h : w.eO (w.isSt st && w.areJ js) = 0) (h0 : 0 < st.length) : FnO Try.prog 91 [.agg w.cells, .isl (st.map jAV), .isl (js.map Job.av)] (fun r rows => ∃ left g, Best (w.fsJ js) st left g ∧ r = .tup [.agg [.row 7, .row 8, .row 9], .int .i64 0] ∧ rows = [(7, .row false 42 1 ((w.fsJ js).map fAV)), (8, .row false 3 1 (left.map jAV)), (9, .row false 3 1 (g.map jAV))]) := by
  have hv := eO_v h
  rw [Bool.and_eq_true] at hv
  obtain ⟨hst, hjs⟩ := hv
  rw [hst, hjs] at h
  have hk := chk_ok (chk_0 h)
  have e1 := p133 w st hb.s hb.st
  have e2 := p134 w js hb.m1 hb.m2 hb.j
  rw [hst] at e1; rw [hjs] at e2
  have e3 := p69 w true h
  have e4 := p135 w hk st js hst hjs h0
  refine fnO 10 ok91 (by simp) ?_
  (conv => whnf); (repeat' ((first | refine bT ?_ | refine bF ?_ | refine bN ?_ | ((first | refine bD ?_ ?_ | refine bEq ?_ ?_ | refine bNe ?_ ?_) <;> intro hh <;> try (exfalso; omega)) | (refine (e1).callq rfl rfl fun _ h => ?_; subst h) | (refine (e2).callq rfl rfl fun _ h => ?_; subst h) | (refine (e3).callzq rfl rfl fun _ h => ?_; subst h) | refine wIn (by omega) ?_ | refine nI (by omega) ?_) <;> conv => whnf))
  refine e4.callzq rfl rfl (fun r rows hr => ?_)
  obtain ⟨left, g, hB, hr1, hr2⟩ := hr; subst hr1; subst hr2
  refine ⟨rfl, ?_⟩
  (conv => whnf); (repeat' ((first | refine bT ?_ | refine bF ?_ | refine bN ?_ | ((first | refine bD ?_ ?_ | refine bEq ?_ ?_ | refine bNe ?_ ?_) <;> intro hh <;> try (exfalso; omega)) | refine wIn (by omega) ?_ | refine nI (by omega) ?_) <;> conv => whnf))
  all_goals exact ⟨left, g, hB, rfl, rfl⟩
theorem p91e (w : Shop) (st : List Int) (js : List Job) (hb : Bd w st js) (h : w.eO (w.isSt st && w.areJ js) = 0) (h0 : st.length = 0) : FnO Try.prog 91 [.agg w.cells, .isl (st.map jAV), .isl (js.map Job.av)] (fun r rows => ∃ left g, Best (w.fsJ js) st left g ∧ r = .tup [.agg [.row 7, .isl [], .row 8], .int .i64 0] ∧ rows = [(7, .row false 42 1 ((w.fsJ js).map fAV)), (8, .row false 3 1 (g.map jAV))]) := by
  have hv := eO_v h
  rw [Bool.and_eq_true] at hv
  obtain ⟨hst, hjs⟩ := hv
  rw [hst, hjs] at h
  have hk := chk_ok (chk_0 h)
  have e1 := p133 w st hb.s hb.st
  have e2 := p134 w js hb.m1 hb.m2 hb.j
  rw [hst] at e1; rw [hjs] at e2
  have e3 := p69 w true h
  have e4 := p135e w hk st js hst hjs h0
  refine fnO 10 ok91 (by simp) ?_
  (conv => whnf); (repeat' ((first | refine bT ?_ | refine bF ?_ | refine bN ?_ | ((first | refine bD ?_ ?_ | refine bEq ?_ ?_ | refine bNe ?_ ?_) <;> intro hh <;> try (exfalso; omega)) | (refine (e1).callq rfl rfl fun _ h => ?_; subst h) | (refine (e2).callq rfl rfl fun _ h => ?_; subst h) | (refine (e3).callzq rfl rfl fun _ h => ?_; subst h) | refine wIn (by omega) ?_ | refine nI (by omega) ?_) <;> conv => whnf))
  refine e4.callzq rfl rfl (fun r rows hr => ?_)
  obtain ⟨left, g, hB, hr1, hr2⟩ := hr; subst hr1; subst hr2
  refine ⟨rfl, ?_⟩
  (conv => whnf); (repeat' ((first | refine bT ?_ | refine bF ?_ | refine bN ?_ | ((first | refine bD ?_ ?_ | refine bEq ?_ ?_ | refine bNe ?_ ?_) <;> intro hh <;> try (exfalso; omega)) | refine wIn (by omega) ?_ | refine nI (by omega) ?_) <;> conv => whnf))
  all_goals exact ⟨left, g, hB, rfl, rfl⟩
theorem p34 (w : Shop) (st : List Int) (js : List Job) (hb : Bd w st js) (h : w.eO (w.isSt st && w.areJ js) = 0) (h0 : 0 < st.length) : FnA Try.prog 34 [.agg w.cells, .isl (st.map jAV), .isl (js.map Job.av)] (fun r => ∃ left g, Best (w.fsJ js) st left g ∧ r = .tup [.int .i64 (hasN g), .int .i64 0]) := by
  have e1 := p91 w st js hb h h0
  have hj := js_10 h
  refine fnA 5 ok34 (by simp) ?_
  (conv => whnf); (repeat' ((first | refine bT ?_ | refine bF ?_ | refine bN ?_ | ((first | refine bD ?_ ?_ | refine bEq ?_ ?_ | refine bNe ?_ ?_) <;> intro hh <;> try (exfalso; omega)) | refine wIn (by omega) ?_ | refine nI (by omega) ?_) <;> conv => whnf))
  refine e1.callzq rfl rfl (fun r rows hr => ?_)
  obtain ⟨left, g, hB, hr1, hr2⟩ := hr; subst hr1; subst hr2
  refine ⟨rfl, ?_⟩
  have hl := hB.lg
  rw [fsJ_len] at hl
  have e2 := p92 (.isl ((w.fsJ js).map fAV)) (.isl (left.map jAV)) ⟨_, rfl⟩ ⟨_, rfl⟩ g (by omega)
  (conv => whnf); (repeat' ((first | refine bT ?_ | refine bF ?_ | refine bN ?_ | ((first | refine bD ?_ ?_ | refine bEq ?_ ?_ | refine bNe ?_ ?_) <;> intro hh <;> try (exfalso; omega)) | (refine (e2).lendq rfl fun _ h => ?_; subst h; refine ⟨rfl, ?_⟩) | refine wIn (by omega) ?_ | refine nI (by omega) ?_) <;> conv => whnf))
  all_goals exact ⟨left, g, hB, rfl⟩
theorem p34e (w : Shop) (st : List Int) (js : List Job) (hb : Bd w st js) (h : w.eO (w.isSt st && w.areJ js) = 0) (h0 : st.length = 0) : FnA Try.prog 34 [.agg w.cells, .isl (st.map jAV), .isl (js.map Job.av)] (fun r => ∃ left g, Best (w.fsJ js) st left g ∧ r = .tup [.int .i64 (hasN g), .int .i64 0]) := by
  have e1 := p91e w st js hb h h0
  have hj := js_10 h
  refine fnA 5 ok34 (by simp) ?_
  (conv => whnf); (repeat' ((first | refine bT ?_ | refine bF ?_ | refine bN ?_ | ((first | refine bD ?_ ?_ | refine bEq ?_ ?_ | refine bNe ?_ ?_) <;> intro hh <;> try (exfalso; omega)) | refine wIn (by omega) ?_ | refine nI (by omega) ?_) <;> conv => whnf))
  refine e1.callzq rfl rfl (fun r rows hr => ?_)
  obtain ⟨left, g, hB, hr1, hr2⟩ := hr; subst hr1; subst hr2
  refine ⟨rfl, ?_⟩
  have hl := hB.lg
  rw [fsJ_len] at hl
  have e2 := p92 (.isl ((w.fsJ js).map fAV)) (.isl []) ⟨_, rfl⟩ ⟨_, rfl⟩ g (by omega)
  (conv => whnf); (repeat' ((first | refine bT ?_ | refine bF ?_ | refine bN ?_ | ((first | refine bD ?_ ?_ | refine bEq ?_ ?_ | refine bNe ?_ ?_) <;> intro hh <;> try (exfalso; omega)) | (refine (e2).lendq rfl fun _ h => ?_; subst h; refine ⟨rfl, ?_⟩) | refine wIn (by omega) ?_ | refine nI (by omega) ?_) <;> conv => whnf))
  all_goals exact ⟨left, g, hB, rfl⟩
def kG {V : Type} (W : List (Nat × V)) : List AV := W.map fun e => .int .u64 (e.1 : Nat)
def uG {V : Type} (f : V → AV) (W : List (Nat × V)) : List AV := W.map fun e => f e.2
def putG {V : Type} : List (Nat × V) → Nat → V → List (Nat × V)
  | [], x, w => [(x, w)]
  | (y, v) :: W, x, w => if x = y then (x, w) :: W else (y, v) :: putG W x w
def getG {V : Type} : List (Nat × V) → Nat → Option V
  | [], _ => none
  | (y, v) :: W, x => if x = y then some v else getG W x
theorem getG_put {V : Type} (W : List (Nat × V)) (x : Nat) (w : V) (y : Nat) : getG (putG W x w) y = if y = x then some w else getG W y := by
  induction W with
  | nil => simp [putG, getG]
  | cons e W ih =>
    obtain ⟨z, v⟩ := e
    simp only [putG]
    by_cases h : x = z
    · subst h
      rw [if_pos rfl]
      simp only [getG]
      by_cases h2 : y = x
      · rw [if_pos h2, if_pos h2]
      · rw [if_neg h2, if_neg h2, if_neg h2]
    · rw [if_neg h]
      simp only [getG]
      by_cases h2 : y = z
      · rw [if_pos h2, if_neg (by omega), if_pos h2]
      · rw [if_neg h2, ih, if_neg h2]
theorem findG {V : Type} (x : Nat) (w : V) : ∀ (W : List (Nat × V)) (i : Nat), ∃ r, findK .int (.int .u64 (x : Nat)) (kG W) i = some r ∧ ((r = none ∧ putG W x w = W ++ [(x, w)] ∧ getG W x = none) ∨ ∃ j v, r = some (i + j) ∧ W[j]? = some (x, v) ∧ putG W x w = W.set j (x, w) ∧ getG W x = some v)
  | [], i => ⟨none, rfl, .inl ⟨rfl, rfl, rfl⟩⟩
  | (y, v) :: W, i => by
    have hq : keq .int (.int .u64 (x : Nat)) (.int .u64 (y : Nat)) = some ((x : Int) == (y : Int)) := rfl
    by_cases h : x = y
    · subst h
      exact ⟨some i, by simp [kG, findK, hq], .inr ⟨0, v, rfl, rfl, by simp [putG], by simp [getG]⟩⟩
    · obtain ⟨r, h1, h2⟩ := findG x w W (i + 1)
      have hq' : keq .int (.int .u64 (x : Nat)) (.int .u64 (y : Nat)) = some false := by rw [hq]; simp; omega
      refine ⟨r, by simpa [kG, findK, hq'] using h1, ?_⟩
      rcases h2 with ⟨h2, h3, h4⟩ | ⟨j, u, h2, h3, h4, h5⟩
      · exact .inl ⟨h2, by simp [putG, h, h3], by simp [getG, h, h4]⟩
      · exact .inr ⟨j + 1, u, by rw [h2]; congr 1; omega, by simpa using h3, by simp [putG, h, h4], by simp [getG, h, h5]⟩
theorem mput_G {V : Type} (f : V → AV) (W : List (Nat × V)) (x : Nat) (w : V) : mput .int (kG W) (uG f W) (.int .u64 (x : Nat)) (f w) = some (kG (putG W x w), uG f (putG W x w)) := by
  obtain ⟨r, h1, h2⟩ := findG x w W 0
  have hk : keyV .int (.int .u64 (x : Nat)) = true := rfl
  unfold mput
  rcases h2 with ⟨rfl, h2, _⟩ | ⟨j, v, rfl, h2, h3, _⟩
  · rw [hk, h1, h2]; simp [kG, uG]
  · rw [hk, h1, h3]
    simp only [Nat.zero_add, Option.some.injEq, Prod.mk.injEq]
    refine ⟨?_, by simp [uG, List.map_set]⟩
    apply List.ext_getElem (by simp [kG])
    intro n h4 h5
    simp only [kG, List.getElem_map, List.getElem_set]
    split
    · rename_i e
      subst e
      obtain ⟨h6, h7⟩ := List.getElem?_eq_some_iff.1 h2
      rw [h7]
    · rfl
theorem mlook_G {V : Type} [Inhabited V] (f : V → AV) (W : List (Nat × V)) (x : Nat) : mlook .int (kG W) (uG f W) (.int .u64 (x : Nat)) = some ((getG W x).map f) := by
  obtain ⟨r, h1, h2⟩ := findG x (default : V) W 0
  have hk : keyV .int (.int .u64 (x : Nat)) = true := rfl
  unfold mlook
  rcases h2 with ⟨rfl, _, h2⟩ | ⟨j, v, rfl, h2, _, h3⟩
  · rw [hk, h1, h2]; rfl
  · rw [hk, h1, h3]
    have : (uG f W)[j]? = some (f v) := by simp [uG, h2]
    simp only [Nat.zero_add, this, Option.map_some]
def ndG {V : Type} (W : List (Nat × V)) : Prop := (W.map (·.1)).Nodup
theorem keys_putG {V : Type} {W : List (Nat × V)} {x y : Nat} {w : V} : y ∈ (putG W x w).map (·.1) → y ∈ W.map (·.1) ∨ y = x := by
  induction W with
  | nil => simp [putG]
  | cons e W ih =>
    obtain ⟨z, v⟩ := e
    simp only [putG]
    split
    · rename_i h; subst h; intro h2; left; simpa using h2
    · intro h2
      simp only [List.map_cons, List.mem_cons] at h2 ⊢
      rcases h2 with h2 | h2
      · exact .inl (.inl h2)
      · rcases ih h2 with h3 | h3
        · exact .inl (.inr h3)
        · exact .inr h3
theorem ndG_put {V : Type} {W : List (Nat × V)} {x : Nat} {w : V} (h : ndG W) : ndG (putG W x w) := by
  induction W with
  | nil => simp [putG, ndG]
  | cons e W ih =>
    obtain ⟨z, v⟩ := e
    unfold ndG at h ih ⊢
    simp only [List.map_cons, List.nodup_cons] at h
    simp only [putG]
    split
    · rename_i h2; subst h2; simpa using h
    · rename_i h2
      simp only [List.map_cons, List.nodup_cons]
      refine ⟨fun h3 => ?_, ih h.2⟩
      rcases keys_putG h3 with h4 | h4
      · exact h.1 h4
      · exact h2 h4.symm
theorem getG_mem {V : Type} {W : List (Nat × V)} {x : Nat} {w : V} (h : getG W x = some w) : (x, w) ∈ W := by
  induction W with
  | nil => simp [getG] at h
  | cons e W ih =>
    obtain ⟨z, v⟩ := e
    simp only [getG] at h
    split at h
    · rename_i h2; cases h; subst h2; simp
    · exact List.mem_cons_of_mem _ (ih h)
theorem getG_of {V : Type} {W : List (Nat × V)} (hn : ndG W) {j : Nat} {x : Nat} {w : V} (h : W[j]? = some (x, w)) : getG W x = some w := by
  induction W generalizing j with
  | nil => simp at h
  | cons e W ih =>
    obtain ⟨z, v⟩ := e
    unfold ndG at hn ih
    simp only [List.map_cons, List.nodup_cons] at hn
    cases j with
    | zero => simp at h; obtain ⟨rfl, rfl⟩ := h; simp [getG]
    | succ j =>
      simp only [List.getElem?_cons_succ] at h
      have : x ≠ z := fun e => hn.1 (by subst e; exact List.mem_map.2 ⟨(x, w), List.mem_of_getElem? h, rfl⟩)
      simp only [getG, if_neg this]
      exact ih hn.2 h
theorem wrap_nat (k : IntKind) (hk : k = .u64 ∨ k = .i64) (n : Nat) (h : n < 2 ^ 60) : k.wrap (n : Nat) = ((n : Nat) : Int) := by
  rcases hk with rfl | rfl
  · simp [IntKind.wrap, IntKind.bits, IntKind.signed]; omega
  · simp [IntKind.wrap, IntKind.bits, IntKind.signed]; omega
theorem or_nat (k : IntKind) (hk : k = .u64 ∨ k = .i64) (a b : Nat) (ha : a < 2 ^ 60) (hb : b < 2 ^ 60) : bitI .or k (a : Nat) (b : Nat) = ((a ||| b : Nat) : Int) := by
  have hab : a ||| b < 2 ^ 60 := Nat.or_lt_two_pow ha hb
  have e : ∀ x : Nat, x < 2 ^ 60 → (BitVec.ofInt 64 (x : Int)).toNat = x := fun x hx => by
    rw [BitVec.toNat_ofInt]
    have : ((x : Int) % ((2 ^ 64 : Nat) : Int)) = x := Int.emod_eq_of_lt (by omega) (by omega)
    rw [this]; simp
  have hw := wrap_nat k hk (a ||| b) hab
  rcases hk with rfl | rfl
  · show IntKind.u64.wrap ((BitVec.ofInt 64 (a : Int) ||| BitVec.ofInt 64 (b : Int)).toNat : Int) = _
    rw [BitVec.toNat_or, e a ha, e b hb]; exact hw
  · show IntKind.i64.wrap ((BitVec.ofInt 64 (a : Int) ||| BitVec.ofInt 64 (b : Int)).toNat : Int) = _
    rw [BitVec.toNat_or, e a ha, e b hb]; exact hw
theorem or_pow {b k : Nat} (h : b < 2 ^ k) : b ||| 2 ^ k = b + 2 ^ k := by
  have := Nat.two_pow_add_eq_or_of_lt h 1
  rw [Nat.mul_one] at this
  rw [Nat.or_comm, ← this, Nat.add_comm]
/-- the slots of a make that a spare of a length fits, as bits -/
def Shop.cov (w : Shop) (i n m : Int) : Nat → Nat
  | 0 => 0
  | k + 1 => w.cov i n m k + if w.fit i n m (k : Nat) = true then 2 ^ k else 0
theorem cov_lt (w : Shop) (i n m : Int) : ∀ k, w.cov i n m k < 2 ^ k
  | 0 => by simp [Shop.cov]
  | k + 1 => by
    have := cov_lt w i n m k
    simp only [Shop.cov, Nat.pow_succ]
    split <;> omega
theorem leftN_lt {seen : List Nat} {n j : Nat} (h : j ∈ leftN seen n) : (leftN (seen ++ [j]) n).length < (leftN seen n).length := by
  obtain ⟨h1, h2⟩ := leftN_mem.1 h
  unfold leftN
  refine Go.filter_lt _ _ (fun x hx => ?_) j ?_ ?_ _ (List.mem_range.2 h1)
  · simp only [Bool.not_eq_true'] at hx ⊢
    cases hq : memN seen x with
    | false => rfl
    | true =>
      have := memN_iff.1 hq
      have h3 : memN (seen ++ [j]) x = true := memN_iff.2 (by simp [this])
      rw [h3] at hx; cases hx
  · simp only [Bool.not_eq_true']
    cases hq : memN seen j with
    | false => rfl
    | true => exact absurd (memN_iff.1 hq) h2
  · have : memN (seen ++ [j]) j = true := memN_iff.2 (by simp)
    simp [this]
structure FitK (w : Shop) (i m : Int) (k : Nat) (M : List (Nat × List (Int × Int))) : Prop where
  nd : ndG M
  ok : ∀ b L, getG M b = some L → Asc L ∧ L ≠ [] ∧ ∀ n, inL L n ↔ w.can i n = true ∧ w.cov i n m k = b
  ex : ∀ n, w.can i n = true → ∃ L, getG M (w.cov i n m k) = some L
def lF (L : List (Int × Int)) : AV := .isl (L.map spAV)
theorem fit_len {w : Shop} (hk : Ok w) {i : Int} (hi : w.isSp i = true) {L : List (Int × Int)} (h : Asc L) (h2 : ∀ n, inL L n → w.can i n = true) : L.length ≤ 1000 := by
  have hs := hk.sp hi
  have := asc_len h (a := 0) (b := 999) (fun p hp => by
    have a := can_bd (h2 p.1 ⟨p, hp, by omega, h.ne p hp⟩)
    have b := can_bd (h2 p.2 ⟨p, hp, h.ne p hp, by omega⟩)
    omega) (by omega)
  omega
theorem p155 (w : Shop) (hk : Ok w) (i m : Int) (hi : w.isSp i = true) (hm : w.isMk m = true) (hc : ∃ n, w.can i n = true) : FnA Try.prog 155 [.agg w.scL, .int .i64 i, .int .i64 m] (fun r => ∃ M, r = .imp (kG M) (uG lF M) ∧ FitK w i m (w.slots m).length M) := by
  have h1 := isSp_iff.1 hi
  have h2 := isMk_iff.1 hm
  have hs1 := hk.s1
  have hm1 := hk.m1
  have h4 := hk.slots hm
  have l1 : (w.lens.map lenAV).length = w.sps.length := by simp [Shop.lens, Shop.lensK]
  have l2 : (w.mks.map mkAV).length = w.mks.length := by simp
  have l3 : ((w.slots m).map Slot.av).length = (w.slots m).length := by simp
  have g1 := lensget hi
  have g2 := mkget hm
  obtain ⟨hA, hin⟩ := spans_ok hk hi
  have hne := spans_ne hk hi hc
  have hpow : ∀ k : Nat, k < 4 → IntKind.u64.wrap (1 * 2 ^ min ((k : Nat) : Int).toNat IntKind.u64.bits) = ((2 ^ k : Nat) : Int) := by decide
  refine fnA 7 ok155 (by simp) ?_
  (conv => whnf); (repeat' ((first | refine bT ?_ | refine bF ?_ | refine bN ?_ | ((first | refine bD ?_ ?_ | refine bEq ?_ ?_ | refine bNe ?_ ?_) <;> intro hh <;> try (exfalso; omega)) | (refine iaI (by omega) (by omega) g1 ?_) | refine wIn (by omega) ?_ | refine nI (by omega) ?_) <;> conv => whnf))
  refine mpI (show mput .int [] [] (.int .u64 0) (.isl ((w.spans i).map spAV)) = some (kG [(0, w.spans i)], uG lF [(0, w.spans i)]) from rfl) ?_
  (conv => whnf); (repeat' ((first | refine bT ?_ | refine bF ?_ | refine bN ?_ | ((first | refine bD ?_ ?_ | refine bEq ?_ ?_ | refine bNe ?_ ?_) <;> intro hh <;> try (exfalso; omega)) | (refine iaI (by omega) (by omega) g2 ?_) | refine wIn (by omega) ?_ | refine nI (by omega) ?_) <;> conv => whnf))
  refine loop_i (α := Nat × List (Nat × List (Int × Int))) (fun q => [(29, .int .i64 q.1), (28, .int .i64 ↑((w.slots m).map Slot.av).length), (7, .row 6), (3, .own 0 0), (2, .int .i64 m), (1, .int .i64 i)]) (fun q => [.box false w.scL, .fresh, .fresh, .fresh, .fresh, .fresh, .mp false (kG q.2) (uG lF q.2)]) (fun q => q.1 ≤ (w.slots m).length ∧ FitK w i m q.1 q.2) (fun q => (w.slots m).length - q.1) (0, [(0, w.spans i)]) (meets_as [(6, some 1)] (by (repeat' apply And.intro) <;> first | rfl | exact True.intro | (intro hh; cases hh))) ⟨by simp, ⟨by simp [ndG], fun b L h => ?_, fun n hn => ⟨w.spans i, by simp [getG, Shop.cov]⟩⟩⟩ ?_
  · simp only [getG] at h
    split at h
    · rename_i e
      cases h; subst e
      exact ⟨hA, hne, fun n => by rw [hin]; simp [Shop.cov]⟩
    · cases h
  rintro ⟨k, F⟩ ⟨hk0, hF⟩
  dsimp only at hk0 hF ⊢
  conv => whnf
  refine bD (fun h3 => ?_) (fun h3 => ?_)
  · have hkl : k < (w.slots m).length := by omega
    have hsl : w.isSl m (k : Nat) = true := isSl_iff.2 ⟨hm, by omega, by omega⟩
    have e1 := p124 w hk (.isl (w.lens.map lenAV)) rfl ⟨_, rfl⟩ i m (k : Nat) hi hsl
    have hpk : 2 ^ k ≤ 16 := Nat.pow_le_pow_right (by omega) (show k ≤ 4 by omega)
    (conv => whnf); (repeat' ((first | refine bT ?_ | refine bF ?_ | refine bN ?_ | ((first | refine bD ?_ ?_ | refine bEq ?_ ?_ | refine bNe ?_ ?_) <;> intro hh <;> try (exfalso; omega)) | refine wIn (by omega) ?_ | refine nI (by omega) ?_) <;> conv => whnf))
    refine loop_i (α := List Nat × List AV × List (Nat × List (Int × Int))) (fun q => [(34, .row 3), (29, .int .i64 k), (28, .int .i64 ↑((w.slots m).map Slot.av).length), (9, .row 2), (8, .int .i64 k), (3, .own 0 0), (2, .int .i64 m), (1, .int .i64 i)]) (fun q => [.box false w.scL, .fresh, .mp false (kG q.2.2) (uG lF q.2.2), .itr (kG F) (uG lF F) q.1 q.2.1, .fresh, .fresh, .fresh])
      (fun q => ndG q.2.2 ∧ (∀ b L, getG q.2.2 b = some L → Asc L ∧ L ≠ [] ∧ ∀ n, inL L n ↔ w.can i n = true ∧ w.cov i n m (k + 1) = b) ∧ ∀ j ∈ q.1, ∀ b L, F[j]? = some (b, L) → ∀ n, inL L n → ∃ L', getG q.2.2 (w.cov i n m (k + 1)) = some L') (fun q => (leftN q.1 F.length).length) ([], [], []) ?_ ⟨by simp [ndG], by simp [getG], by simp⟩ ?_
    · exact (meets_id (by (repeat' apply And.intro) <;> first | rfl | exact True.intro | (intro hh; cases hh)))
    rintro ⟨seen, last, N⟩ ⟨hN0, hN1, hN2⟩
    dsimp only at hN0 hN1 hN2 ⊢
    conv => whnf
    refine nxI (fun j kv uv h5 h6 h7 => ?_) (fun h5 => ?_)
    · obtain ⟨b, L, hy, rfl, rfl⟩ : ∃ b L, F[j]? = some (b, L) ∧ .int .u64 ((b : Nat) : Int) = kv ∧ lF L = uv := by
        simp only [kG, uG, List.getElem?_map, Option.map_eq_some_iff] at h5 h6
        obtain ⟨⟨y, v⟩, h8, h9⟩ := h5
        obtain ⟨⟨y', v'⟩, h10, h11⟩ := h6
        rw [h8] at h10; cases h10
        exact ⟨y, v, h8, h9, h11⟩
      have hjl : j < F.length := (List.getElem?_eq_some_iff.1 hy).1
      have hgy := getG_of hF.nd hy
      obtain ⟨hLa, hLn, hLi⟩ := hF.ok b L hgy
      have hLl := fit_len hk hi hLa (fun n hn => ((hLi n).1 hn).1)
      have hb : b < 2 ^ k := by
        obtain ⟨n, hn⟩ : ∃ n, inL L n := Classical.byContradiction fun hh => hLn ((asc_nil hLa).2 fun n hn => hh ⟨n, hn⟩)
        rw [← ((hLi n).1 hn).2]; exact cov_lt w i n m k
      have hkey : bitI .or .u64 ((b : Nat) : Int) (IntKind.u64.wrap (1 * 2 ^ min ((k : Nat) : Int).toNat IntKind.u64.bits)) = ((b + 2 ^ k : Nat) : Int) := by
        rw [hpow k (by omega), or_nat .u64 (.inl rfl) b (2 ^ k) (by omega) (by omega), or_pow hb]
      have e2 := p123 L (w.room i m (k : Nat)) (by omega) (room_bd hk hsl)
      have hI : ∀ n, inL (splI (w.room i m (k : Nat)) L) n ↔ w.can i n = true ∧ w.cov i n m (k + 1) = b + 2 ^ k := fun n => by
        rw [in_splI, hLi, ← fit_room]
        have := cov_lt w i n m k
        simp only [Shop.cov]
        constructor
        · rintro ⟨⟨a1, a2⟩, a3⟩; exact ⟨a1, by rw [if_pos a3]; omega⟩
        · rintro ⟨a1, a2⟩
          split at a2
          · rename_i a3; exact ⟨⟨a1, by omega⟩, a3⟩
          · omega
      have hO : ∀ n, inL (splO (w.room i m (k : Nat)) L) n ↔ w.can i n = true ∧ w.cov i n m (k + 1) = b := fun n => by
        rw [in_splO, hLi, ← fit_room]
        have := cov_lt w i n m k
        simp only [Shop.cov]
        constructor
        · rintro ⟨⟨a1, a2⟩, a3⟩; exact ⟨a1, by rw [if_neg a3]; omega⟩
        · rintro ⟨a1, a2⟩
          split at a2
          · omega
          · rename_i a3; exact ⟨⟨a1, by omega⟩, a3⟩
      have hAI := asc_splI (b := w.room i m (k : Nat)) hLa
      have hAO := asc_splO (room_ok hk (i := i) hsl) hLa
      have lI : ((splI (w.room i m (k : Nat)) L).map spAV).length = (splI (w.room i m (k : Nat)) L).length := by simp
      have lO : ((splO (w.room i m (k : Nat)) L).map spAV).length = (splO (w.room i m (k : Nat)) L).length := by simp
      have hor : ∀ n, inL L n → inL (splI (w.room i m (k : Nat)) L) n ∨ inL (splO (w.room i m (k : Nat)) L) n := fun n hn => by
        rw [in_splI, in_splO]
        by_cases hh : (w.room i m (k : Nat)).1 ≤ n ∧ n ≤ (w.room i m (k : Nat)).2
        · exact .inl ⟨hn, hh⟩
        · exact .inr ⟨hn, hh⟩
      generalize splI (w.room i m (k : Nat)) L = A at *
      generalize splO (w.room i m (k : Nat)) L = B at *
      -- what the map holds behind it
      have fin : ∀ N' : List (Nat × List (Int × Int)), ndG N' → (∀ y, getG N' y = if y = b ∧ B ≠ [] then some B else if y = b + 2 ^ k ∧ A ≠ [] then some A else getG N y) → (∀ y v, getG N' y = some v → Asc v ∧ v ≠ [] ∧ ∀ n, inL v n ↔ w.can i n = true ∧ w.cov i n m (k + 1) = y) ∧ ∀ j' ∈ seen ++ [j], ∀ b' L', F[j']? = some (b', L') → ∀ n, inL L' n → ∃ L'', getG N' (w.cov i n m (k + 1)) = some L'' := fun N' _ hg => by
        refine ⟨fun y v hv => ?_, fun j' hj' b' L' hy' n hn => ?_⟩
        · rw [hg] at hv
          split at hv
          · rename_i e; cases hv; exact ⟨hAO, e.2, fun n => by rw [hO, e.1]⟩
          · split at hv
            · rename_i e; cases hv; exact ⟨hAI, e.2, fun n => by rw [hI, e.1]⟩
            · exact hN1 y v hv
        · rcases List.mem_append.1 hj' with hj' | hj'
          · obtain ⟨v, hv⟩ := hN2 j' hj' b' L' hy' n hn
            rw [hg]
            split
            · exact ⟨_, rfl⟩
            · split
              · exact ⟨_, rfl⟩
              · exact ⟨v, hv⟩
          · simp only [List.mem_singleton] at hj'
            subst hj'
            rw [hy] at hy'; cases hy'
            rw [hg]
            rcases hor n hn with q | q
            · have q1 := ((hI n).1 q).2
              have q2 : A ≠ [] := fun e => by rw [e] at q; exact inL_nil q
              rw [q1]
              split
              · exact ⟨_, rfl⟩
              · rw [if_pos ⟨rfl, q2⟩]; exact ⟨_, rfl⟩
            · have q1 := ((hO n).1 q).2
              have q2 : B ≠ [] := fun e => by rw [e] at q; exact inL_nil q
              rw [q1, if_pos ⟨rfl, q2⟩]; exact ⟨_, rfl⟩
      have hp0 : 0 < 2 ^ k := Nat.pow_pos (by omega)
      by_cases hA0 : A = []
      · have la : ¬ 0 < ((A.map spAV).length : Int) := by rw [hA0]; simp
        by_cases hB0 : B = []
        · have lb : ¬ 0 < ((B.map spAV).length : Int) := by rw [hB0]; simp
          (conv => whnf); (repeat' ((first | refine bT ?_ | refine bF ?_ | refine bN ?_ | ((first | refine bD ?_ ?_ | refine bEq ?_ ?_ | refine bNe ?_ ?_) <;> intro hh <;> try (exfalso; omega)) | (refine (e1).lendq rfl fun _ h => ?_; subst h; refine ⟨rfl, ?_⟩) | (refine (e2).callzq rfl rfl fun _ h => ?_; subst h) | refine wIn (by omega) ?_ | refine nI (by omega) ?_) <;> conv => whnf))
          obtain ⟨f1, f2⟩ := fin N hN0 (fun y => by rw [if_neg (fun h => h.2 hB0), if_neg (fun h => h.2 hA0)])
          exact ⟨(seen ++ [j], [.int .u64 (b : Nat), lF L], N), (meets_id (by (repeat' apply And.intro) <;> first | rfl | exact True.intro | (intro hh; cases hh))), ⟨hN0, f1, f2⟩, leftN_lt (leftN_mem.2 ⟨hjl, h7⟩)⟩
        · have lb : 0 < ((B.map spAV).length : Int) := by rw [lO]; have := List.length_pos_iff.2 hB0; omega
          (conv => whnf); (repeat' ((first | refine bT ?_ | refine bF ?_ | refine bN ?_ | ((first | refine bD ?_ ?_ | refine bEq ?_ ?_ | refine bNe ?_ ?_) <;> intro hh <;> try (exfalso; omega)) | (refine (e1).lendq rfl fun _ h => ?_; subst h; refine ⟨rfl, ?_⟩) | (refine (e2).callzq rfl rfl fun _ h => ?_; subst h) | refine wIn (by omega) ?_ | refine nI (by omega) ?_) <;> conv => whnf))
          refine mpI (mput_G lF N b B) ?_
          (conv => whnf); (repeat' ((first | refine bT ?_ | refine bF ?_ | refine bN ?_ | ((first | refine bD ?_ ?_ | refine bEq ?_ ?_ | refine bNe ?_ ?_) <;> intro hh <;> try (exfalso; omega)) | refine wIn (by omega) ?_ | refine nI (by omega) ?_) <;> conv => whnf))
          obtain ⟨f1, f2⟩ := fin (putG N b B) (ndG_put hN0) (fun y => by
            rw [getG_put]
            by_cases e : y = b
            · rw [if_pos e, if_pos ⟨e, hB0⟩]
            · rw [if_neg e, if_neg (fun h => e h.1), if_neg (fun h => h.2 hA0)])
          exact ⟨(seen ++ [j], [.int .u64 (b : Nat), lF L], putG N b B), (meets_id (by (repeat' apply And.intro) <;> first | rfl | exact True.intro | (intro hh; cases hh))), ⟨ndG_put hN0, f1, f2⟩, leftN_lt (leftN_mem.2 ⟨hjl, h7⟩)⟩
      · have la : 0 < ((A.map spAV).length : Int) := by rw [lI]; have := List.length_pos_iff.2 hA0; omega
        have hmp : mput .int (kG N) (uG lF N) (.int .u64 (bitI .or .u64 ((b : Nat) : Int) (IntKind.u64.wrap (1 * 2 ^ min ((k : Nat) : Int).toNat IntKind.u64.bits)))) (lF A) = some (kG (putG N (b + 2 ^ k) A), uG lF (putG N (b + 2 ^ k) A)) := by
          rw [hkey]; exact mput_G lF N _ A
        by_cases hB0 : B = []
        · have lb : ¬ 0 < ((B.map spAV).length : Int) := by rw [hB0]; simp
          (conv => whnf); (repeat' ((first | refine bT ?_ | refine bF ?_ | refine bN ?_ | ((first | refine bD ?_ ?_ | refine bEq ?_ ?_ | refine bNe ?_ ?_) <;> intro hh <;> try (exfalso; omega)) | (refine (e1).lendq rfl fun _ h => ?_; subst h; refine ⟨rfl, ?_⟩) | (refine (e2).callzq rfl rfl fun _ h => ?_; subst h) | refine wIn (by omega) ?_ | refine nI (by omega) ?_) <;> conv => whnf))
          refine mpI hmp ?_
          (conv => whnf); (repeat' ((first | refine bT ?_ | refine bF ?_ | refine bN ?_ | ((first | refine bD ?_ ?_ | refine bEq ?_ ?_ | refine bNe ?_ ?_) <;> intro hh <;> try (exfalso; omega)) | refine wIn (by omega) ?_ | refine nI (by omega) ?_) <;> conv => whnf))
          obtain ⟨f1, f2⟩ := fin (putG N (b + 2 ^ k) A) (ndG_put hN0) (fun y => by
            rw [getG_put]
            by_cases e : y = b + 2 ^ k
            · simp [e, hA0, hB0]
            · simp [e, hB0])
          exact ⟨(seen ++ [j], [.int .u64 (b : Nat), lF L], putG N (b + 2 ^ k) A), (meets_id (by (repeat' apply And.intro) <;> first | rfl | exact True.intro | (intro hh; cases hh))), ⟨ndG_put hN0, f1, f2⟩, leftN_lt (leftN_mem.2 ⟨hjl, h7⟩)⟩
        · have lb : 0 < ((B.map spAV).length : Int) := by rw [lO]; have := List.length_pos_iff.2 hB0; omega
          (conv => whnf); (repeat' ((first | refine bT ?_ | refine bF ?_ | refine bN ?_ | ((first | refine bD ?_ ?_ | refine bEq ?_ ?_ | refine bNe ?_ ?_) <;> intro hh <;> try (exfalso; omega)) | (refine (e1).lendq rfl fun _ h => ?_; subst h; refine ⟨rfl, ?_⟩) | (refine (e2).callzq rfl rfl fun _ h => ?_; subst h) | refine wIn (by omega) ?_ | refine nI (by omega) ?_) <;> conv => whnf))
          refine mpI hmp ?_
          (conv => whnf); (repeat' ((first | refine bT ?_ | refine bF ?_ | refine bN ?_ | ((first | refine bD ?_ ?_ | refine bEq ?_ ?_ | refine bNe ?_ ?_) <;> intro hh <;> try (exfalso; omega)) | refine wIn (by omega) ?_ | refine nI (by omega) ?_) <;> conv => whnf))
          refine mpI (mput_G lF (putG N (b + 2 ^ k) A) b B) ?_
          (conv => whnf); (repeat' ((first | refine bT ?_ | refine bF ?_ | refine bN ?_ | ((first | refine bD ?_ ?_ | refine bEq ?_ ?_ | refine bNe ?_ ?_) <;> intro hh <;> try (exfalso; omega)) | refine wIn (by omega) ?_ | refine nI (by omega) ?_) <;> conv => whnf))
          obtain ⟨f1, f2⟩ := fin (putG (putG N (b + 2 ^ k) A) b B) (ndG_put (ndG_put hN0)) (fun y => by
            rw [getG_put, getG_put]
            by_cases e : y = b
            · simp [e, hB0]
            · by_cases e2 : y = b + 2 ^ k
              · have e3 : ¬ (b + 2 ^ k = b) := by omega
                simp [e2, hA0, e3]
              · simp [e, e2])
          exact ⟨(seen ++ [j], [.int .u64 (b : Nat), lF L], putG (putG N (b + 2 ^ k) A) b B), (meets_id (by (repeat' apply And.intro) <;> first | rfl | exact True.intro | (intro hh; cases hh))), ⟨ndG_put (ndG_put hN0), f1, f2⟩, leftN_lt (leftN_mem.2 ⟨hjl, h7⟩)⟩
    · (conv => whnf); (repeat' ((first | refine bT ?_ | refine bF ?_ | refine bN ?_ | ((first | refine bD ?_ ?_ | refine bEq ?_ ?_ | refine bNe ?_ ?_) <;> intro hh <;> try (exfalso; omega)) | refine wIn (by omega) ?_ | refine nI (by omega) ?_) <;> conv => whnf))
      refine ⟨(k + 1, N), (meets_as [(6, some 2)] (by (repeat' apply And.intro) <;> first | rfl | exact True.intro | (intro hh; cases hh))), ⟨by dsimp only; omega, ⟨hN0, hN1, fun n hn => ?_⟩⟩, by dsimp only; omega⟩
      obtain ⟨L, hL⟩ := hF.ex n hn
      have hLi := (hF.ok _ _ hL).2.2
      obtain ⟨j, hj, hjy⟩ := List.getElem_of_mem (getG_mem hL)
      exact hN2 j (h5 j (by simpa [kG] using hj)) _ L (by rw [← hjy]; simp [hj]) n ((hLi n).2 ⟨hn, rfl⟩)
  · have : k = (w.slots m).length := by omega
    subst this
    (conv => whnf); (repeat' ((first | refine bT ?_ | refine bF ?_ | refine bN ?_ | ((first | refine bD ?_ ?_ | refine bEq ?_ ?_ | refine bNe ?_ ?_) <;> intro hh <;> try (exfalso; omega)) | refine wIn (by omega) ?_ | refine nI (by omega) ?_) <;> conv => whnf))
    all_goals exact ⟨F, rfl, hF⟩
/-- the sets of slots of a make that spares of a list can fit together -/
def Shop.rch (w : Shop) (m : Int) (K : Nat) (l : List Int) : Nat → Nat → Prop
  | 0, b => b = 0
  | k + 1, b => ∃ s n, w.rch m K l k s ∧ w.can (l.getD k 0) n = true ∧ b = s ||| w.cov (l.getD k 0) n m K
theorem rch_lt {w : Shop} {m : Int} {K : Nat} {l : List Int} : ∀ {k b : Nat}, w.rch m K l k b → b < 2 ^ K
  | 0, b, h => by
    have h : b = 0 := h
    rw [h]; exact Nat.pow_pos (by omega)
  | k + 1, b, h => by
    obtain ⟨s, n, h1, _, rfl⟩ := h
    exact Nat.or_lt_two_pow (rch_lt h1) (cov_lt _ _ _ _ _)
structure FillK (w : Shop) (m : Int) (K : Nat) (l : List Int) (k : Nat) (S : List (Nat × Unit)) : Prop where
  nd : ndG S
  iff : ∀ b, getG S b = some () ↔ w.rch m K l k b
def tF (_ : Unit) : AV := .bool true
theorem p129 (w : Shop) (hk : Ok w) (l : List Int) (m : Int) (hl : l.length ≤ 1000000) (hsp : ∀ x ∈ l, w.isSp x = true) (hm : w.isMk m = true) (hc : ∀ x, w.isSp x = true → ∃ n, w.can x n = true) : FnA Try.prog 129 [.agg w.scL, .isl (l.map jAV), .int .i64 m] (fun r => ∃ S, r = .imp (kG S) (uG tF S) ∧ FillK w m (w.slots m).length l l.length S) := by
  have l1 : (l.map jAV).length = l.length := by simp
  have h4 := hk.slots hm
  have hp4 : 2 ^ (w.slots m).length ≤ 16 := Nat.pow_le_pow_right (by omega) h4
  refine fnA 6 ok129 (by simp) ?_
  (conv => whnf); (repeat' ((first | refine bT ?_ | refine bF ?_ | refine bN ?_ | ((first | refine bD ?_ ?_ | refine bEq ?_ ?_ | refine bNe ?_ ?_) <;> intro hh <;> try (exfalso; omega)) | refine wIn (by omega) ?_ | refine nI (by omega) ?_) <;> conv => whnf))
  refine mpI (show mput .int [] [] (.int .u64 0) (.bool true) = some (kG [(0, ())], uG tF [(0, ())]) from rfl) ?_
  (conv => whnf); (repeat' ((first | refine bT ?_ | refine bF ?_ | refine bN ?_ | ((first | refine bD ?_ ?_ | refine bEq ?_ ?_ | refine bNe ?_ ?_) <;> intro hh <;> try (exfalso; omega)) | refine wIn (by omega) ?_ | refine nI (by omega) ?_) <;> conv => whnf))
  refine loop_i (α := Nat × List (Nat × Unit)) (fun q => [(17, .int .i64 q.1), (16, .int .i64 ↑(l.map jAV).length), (15, .isl (l.map jAV)), (7, .row 5), (3, .own 0 0), (2, .int .i64 m)]) (fun q => [.box false w.scL, .fresh, .fresh, .fresh, .fresh, .mp false (kG q.2) (uG tF q.2)]) (fun q => q.1 ≤ l.length ∧ FillK w m (w.slots m).length l q.1 q.2) (fun q => l.length - q.1) (0, [(0, ())]) (meets_as [(5, some 1)] (by (repeat' apply And.intro) <;> first | rfl | exact True.intro | (intro hh; cases hh))) ⟨by simp, ⟨by simp [ndG], fun b => ?_⟩⟩ ?_
  · simp only [getG, Shop.rch]
    split
    · rename_i e; simp [e]
    · rename_i e; simp [e]
  rintro ⟨k, S⟩ ⟨hk0, hS⟩
  dsimp only at hk0 hS ⊢
  conv => whnf
  refine bD (fun h3 => ?_) (fun h3 => ?_)
  · have hkl : k < l.length := by omega
    have gk := jget hkl
    have hix : w.isSp (l.getD k 0) = true := by
      have e : l.getD k 0 = l[k] := by simp [List.getD_eq_getElem?_getD, hkl]
      rw [e]; exact hsp _ (List.getElem_mem hkl)
    have e1 := p155 w hk (l.getD k 0) m hix hm (hc _ hix)
    (conv => whnf); (repeat' ((first | refine bT ?_ | refine bF ?_ | refine bN ?_ | ((first | refine bD ?_ ?_ | refine bEq ?_ ?_ | refine bNe ?_ ?_) <;> intro hh <;> try (exfalso; omega)) | (refine iaI (by omega) (by omega) gk ?_) | refine wIn (by omega) ?_ | refine nI (by omega) ?_) <;> conv => whnf))
    refine e1.callzq rfl rfl (fun r hr => ?_)
    obtain ⟨F, hr1, hF⟩ := hr; subst hr1
    have hFb : ∀ f L, getG F f = some L → f < 2 ^ (w.slots m).length ∧ ∃ n, w.can (l.getD k 0) n = true ∧ w.cov (l.getD k 0) n m (w.slots m).length = f := fun f L h => by
      obtain ⟨a, b, c⟩ := hF.ok f L h
      obtain ⟨n, hn⟩ : ∃ n, inL L n := Classical.byContradiction fun hh => b ((asc_nil a).2 fun n hn => hh ⟨n, hn⟩)
      have := (c n).1 hn
      exact ⟨by rw [← this.2]; exact cov_lt _ _ _ _ _, n, this⟩
    (conv => whnf); (repeat' ((first | refine bT ?_ | refine bF ?_ | refine bN ?_ | ((first | refine bD ?_ ?_ | refine bEq ?_ ?_ | refine bNe ?_ ?_) <;> intro hh <;> try (exfalso; omega)) | refine wIn (by omega) ?_ | refine nI (by omega) ?_) <;> conv => whnf))
    refine loop_i (α := List Nat × List AV × List (Nat × Unit) × Bool) (fun q => [(26, .row 3), (17, .int .i64 k), (16, .int .i64 ↑(l.map jAV).length), (15, .isl (l.map jAV)), (10, .row 2), (7, .row 5), (3, .own 0 0), (2, .int .i64 m)]) (fun q => [.box false w.scL, .fresh, .mp false (kG q.2.2.1) (uG tF q.2.2.1), .itr (kG F) (uG lF F) q.1 q.2.1, .fresh, .mp q.2.2.2 (kG S) (uG tF S)])
      (fun q => ndG q.2.2.1 ∧ (∀ b, getG q.2.2.1 b = some () → w.rch m (w.slots m).length l (k + 1) b) ∧ ∀ j ∈ q.1, ∀ f L, F[j]? = some (f, L) → ∀ s, w.rch m (w.slots m).length l k s → getG q.2.2.1 (s ||| f) = some ()) (fun q => (leftN q.1 F.length).length) ([], [], [], false) ?_ ⟨by simp [ndG], by simp [getG], by simp⟩ ?_
    · exact (meets_id (by (repeat' apply And.intro) <;> first | rfl | exact True.intro | (intro hh; cases hh)))
    rintro ⟨seen, last, N, ice⟩ ⟨hN0, hN1, hN2⟩
    dsimp only at hN0 hN1 hN2 ⊢
    conv => whnf
    refine nxI (fun j kv uv h5 h6 h7 => ?_) (fun h5 => ?_)
    · obtain ⟨f, L, hy, rfl, rfl⟩ : ∃ f L, F[j]? = some (f, L) ∧ .int .u64 ((f : Nat) : Int) = kv ∧ lF L = uv := by
        simp only [kG, uG, List.getElem?_map, Option.map_eq_some_iff] at h5 h6
        obtain ⟨⟨y, v⟩, h8, h9⟩ := h5
        obtain ⟨⟨y', v'⟩, h10, h11⟩ := h6
        rw [h8] at h10; cases h10
        exact ⟨y, v, h8, h9, h11⟩
      have hjl : j < F.length := (List.getElem?_eq_some_iff.1 hy).1
      obtain ⟨hf1, n, hf2, hf3⟩ := hFb f L (getG_of hF.nd hy)
      (conv => whnf); (repeat' ((first | refine bT ?_ | refine bF ?_ | refine bN ?_ | ((first | refine bD ?_ ?_ | refine bEq ?_ ?_ | refine bNe ?_ ?_) <;> intro hh <;> try (exfalso; omega)) | refine wIn (by omega) ?_ | refine nI (by omega) ?_) <;> conv => whnf))
      refine loop_i (α := List Nat × List AV × List (Nat × Unit)) (fun q => [(32, .row 4), (26, .row 3), (17, .int .i64 k), (16, .int .i64 ↑(l.map jAV).length), (15, .isl (l.map jAV)), (11, .int .u64 ((f : Nat) : Int)), (10, .row 2), (7, .row 5), (3, .own 0 0), (2, .int .i64 m)]) (fun q => [.box false w.scL, .fresh, .mp false (kG q.2.2) (uG tF q.2.2), .itr (kG F) (uG lF F) (seen ++ [j]) [.int .u64 ((f : Nat) : Int), lF L], .itr (kG S) (uG tF S) q.1 q.2.1, .mp true (kG S) (uG tF S)])
        (fun q => ndG q.2.2 ∧ (∀ b, getG q.2.2 b = some () → w.rch m (w.slots m).length l (k + 1) b) ∧ (∀ b, getG N b = some () → getG q.2.2 b = some ()) ∧ ∀ j ∈ q.1, ∀ s, S[j]? = some (s, ()) → getG q.2.2 (s ||| f) = some ()) (fun q => (leftN q.1 S.length).length) ([], [], N) ?_ ⟨hN0, hN1, fun b hb => hb, by simp⟩ ?_
      · exact (meets_id (by (repeat' apply And.intro) <;> first | rfl | exact True.intro | (intro hh; cases hh)))
      rintro ⟨seen2, last2, N2⟩ ⟨hM0, hM1, hM2, hM3⟩
      dsimp only at hM0 hM1 hM2 hM3 ⊢
      conv => whnf
      refine nxI (fun j2 kv uv h5 h6 h72 => ?_) (fun h52 => ?_)
      · obtain ⟨s, hy2, rfl, rfl⟩ : ∃ s, S[j2]? = some (s, ()) ∧ .int .u64 ((s : Nat) : Int) = kv ∧ AV.bool true = uv := by
          simp only [kG, uG, List.getElem?_map, Option.map_eq_some_iff] at h5 h6
          obtain ⟨⟨y, v⟩, h8, h9⟩ := h5
          obtain ⟨⟨y', v'⟩, h10, h11⟩ := h6
          rw [h8] at h10; cases h10
          exact ⟨y, h8, h9, h11⟩
        have hjl2 : j2 < S.length := (List.getElem?_eq_some_iff.1 hy2).1
        have hs := (hS.iff s).1 (getG_of hS.nd hy2)
        have hs1 := rch_lt hs
        have hkey : bitI .or .u64 ((s : Nat) : Int) ((f : Nat) : Int) = ((s ||| f : Nat) : Int) := or_nat .u64 (.inl rfl) s f (by omega) (by omega)
        have hmp : mput .int (kG N2) (uG tF N2) (.int .u64 (bitI .or .u64 ((s : Nat) : Int) ((f : Nat) : Int))) (.bool true) = some (kG (putG N2 (s ||| f) ()), uG tF (putG N2 (s ||| f) ())) := by
          rw [hkey]; exact mput_G tF N2 _ ()
        (conv => whnf); (repeat' ((first | refine bT ?_ | refine bF ?_ | refine bN ?_ | ((first | refine bD ?_ ?_ | refine bEq ?_ ?_ | refine bNe ?_ ?_) <;> intro hh <;> try (exfalso; omega)) | refine wIn (by omega) ?_ | refine nI (by omega) ?_) <;> conv => whnf))
        refine mpI hmp ?_
        (conv => whnf); (repeat' ((first | refine bT ?_ | refine bF ?_ | refine bN ?_ | ((first | refine bD ?_ ?_ | refine bEq ?_ ?_ | refine bNe ?_ ?_) <;> intro hh <;> try (exfalso; omega)) | refine wIn (by omega) ?_ | refine nI (by omega) ?_) <;> conv => whnf))
        refine ⟨(seen2 ++ [j2], [.int .u64 (s : Nat), .bool true], putG N2 (s ||| f) ()), (meets_id (by (repeat' apply And.intro) <;> first | rfl | exact True.intro | (intro hh; cases hh))), ⟨ndG_put hM0, fun b hb => ?_, fun b hb => ?_, fun j' hj' s' hs' => ?_⟩, leftN_lt (leftN_mem.2 ⟨hjl2, h72⟩)⟩
        · rw [getG_put] at hb
          split at hb
          · rename_i e; rw [e]; exact ⟨s, n, hs, hf2, by rw [hf3]⟩
          · exact hM1 b hb
        · rw [getG_put]; split
          · rfl
          · exact hM2 b hb
        · rw [getG_put]; split
          · rfl
          · rename_i e
            rcases List.mem_append.1 hj' with hj' | hj'
            · exact hM3 j' hj' s' hs'
            · simp only [List.mem_singleton] at hj'
              subst hj'
              rw [hy2] at hs'; cases hs'
              exact absurd rfl e
      · (conv => whnf); (repeat' ((first | refine bT ?_ | refine bF ?_ | refine bN ?_ | ((first | refine bD ?_ ?_ | refine bEq ?_ ?_ | refine bNe ?_ ?_) <;> intro hh <;> try (exfalso; omega)) | refine wIn (by omega) ?_ | refine nI (by omega) ?_) <;> conv => whnf))
        refine ⟨(seen ++ [j], [.int .u64 ((f : Nat) : Int), lF L], N2, true), (meets_id (by (repeat' apply And.intro) <;> first | rfl | exact True.intro | (intro hh; cases hh))), ⟨hM0, hM1, fun j' hj' f' L' hy' s hs => ?_⟩, leftN_lt (leftN_mem.2 ⟨hjl, h7⟩)⟩
        rcases List.mem_append.1 hj' with hj' | hj'
        · exact hM2 _ (hN2 j' hj' f' L' hy' s hs)
        · simp only [List.mem_singleton] at hj'
          subst hj'
          rw [hy] at hy'; cases hy'
          obtain ⟨j2, hj2, hjy2⟩ := List.getElem_of_mem (getG_mem ((hS.iff s).2 hs))
          exact hM3 j2 (h52 j2 (by simpa [kG] using hj2)) s (by rw [← hjy2]; simp [hj2])
    · (conv => whnf); (repeat' ((first | refine bT ?_ | refine bF ?_ | refine bN ?_ | ((first | refine bD ?_ ?_ | refine bEq ?_ ?_ | refine bNe ?_ ?_) <;> intro hh <;> try (exfalso; omega)) | refine wIn (by omega) ?_ | refine nI (by omega) ?_) <;> conv => whnf))
      refine ⟨(k + 1, N), (meets_as [(5, some 2)] (by (repeat' apply And.intro) <;> first | rfl | exact True.intro | (intro hh; cases hh))), ⟨by dsimp only; omega, ⟨hN0, fun b => ⟨hN1 b, fun hb => ?_⟩⟩⟩, by dsimp only; omega⟩
      obtain ⟨s, n, hs, hn, rfl⟩ := hb
      obtain ⟨L, hL⟩ := hF.ex n hn
      obtain ⟨j, hj, hjy⟩ := List.getElem_of_mem (getG_mem hL)
      exact hN2 j (h5 j (by simpa [kG] using hj)) _ L (by rw [← hjy]; simp [hj]) s hs
  · have : k = l.length := by omega
    subst this
    (conv => whnf); (repeat' ((first | refine bT ?_ | refine bF ?_ | refine bN ?_ | ((first | refine bD ?_ ?_ | refine bEq ?_ ?_ | refine bNe ?_ ?_) <;> intro hh <;> try (exfalso; omega)) | refine wIn (by omega) ?_ | refine nI (by omega) ?_) <;> conv => whnf))
    all_goals exact ⟨S, rfl, hS⟩
theorem wrEq {k : IntKind} {x y : Int} {K : Int → Prop} (h : k.wrap x = y) (hk : K y) : WrE k x K := ⟨by rw [h]; exact hk⟩
open Classical in
/-- what is known of whether a list mends a make -/
noncomputable def Shop.mendsV (w : Shop) (l : List Int) (m : Int) : Int := if ¬ w.rch m (w.slots m).length l l.length (2 ^ (w.slots m).length - 1) then 2 else if ∀ b, w.rch m (w.slots m).length l l.length b → b = 2 ^ (w.slots m).length - 1 then 1 else 3
theorem p78 (w : Shop) (hk : Ok w) (l : List Int) (m : Int) (hl : l.length ≤ 1000000) (hsp : ∀ x ∈ l, w.isSp x = true) (hm : w.isMk m = true) (hc : ∀ x, w.isSp x = true → ∃ n, w.can x n = true) : FnA Try.prog 78 [.agg w.scL, .isl (l.map jAV), .int .i64 m] (· = .int .i64 (w.mendsV l m)) := by
  have e1 := p129 w hk l m hl hsp hm hc
  have h2 := isMk_iff.1 hm
  have l2 : (w.mks.map mkAV).length = w.mks.length := by simp
  have l3 : ((w.slots m).map Slot.av).length = (w.slots m).length := by simp
  have h4 := hk.slots hm
  have g2 := mkget hm
  have hfull : ∀ K : Nat, K ≤ 4 → IntKind.u64.wrap (IntKind.u64.wrap (1 * 2 ^ min ((K : Nat) : Int).toNat IntKind.u64.bits) - 1) = ((2 ^ K - 1 : Nat) : Int) := by decide
  have hfull := hfull _ h4
  rw [← l3] at hfull
  refine fnA 1 ok78 (by simp) ?_
  (conv => whnf); (repeat' ((first | refine bT ?_ | refine bF ?_ | refine bN ?_ | ((first | refine bD ?_ ?_ | refine bEq ?_ ?_ | refine bNe ?_ ?_) <;> intro hh <;> try (exfalso; omega)) | refine wIn (by omega) ?_ | refine nI (by omega) ?_) <;> conv => whnf))
  refine e1.callzq rfl rfl (fun r hr => ?_)
  obtain ⟨S, hr1, hS⟩ := hr; subst hr1
  have hlk : mlook .int (kG S) (uG tF S) (.int .u64 ((2 ^ ((w.slots m).map Slot.av).length - 1 : Nat) : Int)) = some ((getG S (2 ^ (w.slots m).length - 1)).map tF) := by
    rw [l3]; exact mlook_G tF S _
  have hi := hS.iff (2 ^ (w.slots m).length - 1)
  (conv => whnf); (repeat' ((first | refine bT ?_ | refine bF ?_ | refine bN ?_ | ((first | refine bD ?_ ?_ | refine bEq ?_ ?_ | refine bNe ?_ ?_) <;> intro hh <;> try (exfalso; omega)) | (refine iaI (by omega) (by omega) g2 ?_) | (refine wrEq hfull ?_) | refine wIn (by omega) ?_ | refine nI (by omega) ?_) <;> conv => whnf))
  refine lkI hlk ?_
  unfold Shop.mendsV
  cases hg : getG S (2 ^ (w.slots m).length - 1) with
  | none =>
    rw [hg] at hi
    have hn : ¬ w.rch m (w.slots m).length l l.length (2 ^ (w.slots m).length - 1) := fun h => by have := hi.2 h; cases this
    rw [if_pos hn]
    (conv => whnf); (repeat' ((first | refine bT ?_ | refine bF ?_ | refine bN ?_ | ((first | refine bD ?_ ?_ | refine bEq ?_ ?_ | refine bNe ?_ ?_) <;> intro hh <;> try (exfalso; omega)) | refine wIn (by omega) ?_ | refine nI (by omega) ?_) <;> conv => whnf))
    all_goals rfl
  | some u =>
    rw [hg] at hi
    have hy := hi.1 rfl
    rw [if_neg (fun h => h hy)]
    have hlen : (kG S).length = S.length := by simp [kG]
    by_cases h1 : S.length = 1
    · have hall : ∀ b, w.rch m (w.slots m).length l l.length b → b = 2 ^ (w.slots m).length - 1 := fun b hb => by
        have a := getG_mem ((hS.iff b).2 hb)
        have c := getG_mem ((hS.iff _).2 hy)
        match S, h1, a, c with
        | [e], _, a, c =>
          simp only [List.mem_singleton] at a c
          rw [← c] at a; exact (Prod.mk.inj a).1
      rw [if_pos hall]
      (conv => whnf); (repeat' ((first | refine bT ?_ | refine bF ?_ | refine bN ?_ | ((first | refine bD ?_ ?_ | refine bEq ?_ ?_ | refine bNe ?_ ?_) <;> intro hh <;> try (exfalso; omega)) | refine wIn (by omega) ?_ | refine nI (by omega) ?_) <;> conv => whnf))
      all_goals rfl
    · have hall : ¬ ∀ b, w.rch m (w.slots m).length l l.length b → b = 2 ^ (w.slots m).length - 1 := fun hh => h1 (by
        have hnd := hS.nd
        have hmem : ∀ e ∈ S, e.1 = 2 ^ (w.slots m).length - 1 := fun e he => by
          obtain ⟨j, hj, rfl⟩ := List.getElem_of_mem he
          exact hh _ ((hS.iff _).1 (getG_of hnd (j := j) (by rw [List.getElem?_eq_getElem hj])))
        have c := getG_mem ((hS.iff _).2 hy)
        match S, hnd, hmem, c with
        | [e], _, _, _ => rfl
        | e :: e' :: r, hnd, hmem, _ =>
          have a := hmem e (by simp)
          have b := hmem e' (by simp)
          unfold ndG at hnd
          simp only [List.map_cons, List.nodup_cons, List.mem_cons, not_or] at hnd
          exact absurd (a.trans b.symm) hnd.1.1)
      rw [if_neg hall]
      (conv => whnf); (repeat' ((first | refine bT ?_ | refine bF ?_ | refine bN ?_ | ((first | refine bD ?_ ?_ | refine bEq ?_ ?_ | refine bNe ?_ ?_) <;> intro hh <;> try (exfalso; omega)) | refine wIn (by omega) ?_ | refine nI (by omega) ?_) <;> conv => whnf))
      all_goals rfl
def Shop.isLi (w : Shop) (l : List Int) : Bool := ascB l && l.all w.isSp
theorem p128 (w : Shop) (x : Int) (hs : w.sps.length ≤ 1000000) : FnA Try.prog 128 [.int .i64 x, .ipt w.cells] (· = .bool (w.isSp x)) := by
  have e1 := p70 w x hs
  refine fnA 0 ok128 (by simp) ?_
  (conv => whnf); (repeat' ((first | refine bT ?_ | refine bF ?_ | refine bN ?_ | ((first | refine bD ?_ ?_ | refine bEq ?_ ?_ | refine bNe ?_ ?_) <;> intro hh <;> try (exfalso; omega)) | (refine (e1).callq rfl rfl fun _ h => ?_; subst h) | refine wIn (by omega) ?_ | refine nI (by omega) ?_) <;> conv => whnf))
  all_goals rfl
theorem p76 (w : Shop) (l : List Int) (hs : w.sps.length ≤ 1000000) (hl : l.length ≤ 1000000) : FnA Try.prog 76 [.agg w.cells, .isl (l.map jAV)] (· = .bool (w.isLi l)) := by
  have e1 := p126 l hl
  have e2 := p127l (C := w.cells) w.isSp l hl (fun x _ => fnV_of bd128 (p128 w x hs))
  unfold Shop.isLi
  refine fnA 1 ok76 (by simp) ?_
  cases h : ascB l with
  | false =>
    rw [h] at e1
    (conv => whnf); (repeat' ((first | refine bT ?_ | refine bF ?_ | refine bN ?_ | ((first | refine bD ?_ ?_ | refine bEq ?_ ?_ | refine bNe ?_ ?_) <;> intro hh <;> try (exfalso; omega)) | (refine (e1).callq rfl rfl fun _ h => ?_; subst h) | refine wIn (by omega) ?_ | refine nI (by omega) ?_) <;> conv => whnf))
    all_goals rfl
  | true =>
    rw [h] at e1
    (conv => whnf); (repeat' ((first | refine bT ?_ | refine bF ?_ | refine bN ?_ | ((first | refine bD ?_ ?_ | refine bEq ?_ ?_ | refine bNe ?_ ?_) <;> intro hh <;> try (exfalso; omega)) | (refine (e1).callq rfl rfl fun _ h => ?_; subst h) | (refine (e2).lendq rfl fun _ h => ?_; subst h; refine ⟨rfl, ?_⟩) | refine wIn (by omega) ?_ | refine nI (by omega) ?_) <;> conv => whnf))
    all_goals rfl
theorem p24 (w : Shop) (l : List Int) (m : Int) (hs : w.sps.length ≤ 1000000) (hm1 : w.mks.length ≤ 1000000) (hl : l.length ≤ 1000000) (h : w.eO (w.isLi l && w.isMk m) = 0) : FnA Try.prog 24 [.agg w.cells, .isl (l.map jAV), .int .i64 m] (· = .tup [.int .i64 (w.mendsV l m), .int .i64 0]) := by
  have hv := eO_v h
  rw [Bool.and_eq_true] at hv
  obtain ⟨hi, hm⟩ := hv
  rw [hi, hm] at h
  have hk := chk_ok (chk_0 h)
  have e1 := p76 w l hs hl
  have e2 := p77 w m hm1
  rw [hi] at e1; rw [hm] at e2
  have e3 := p69 w true h
  have hsp : ∀ x ∈ l, w.isSp x = true := by
    unfold Shop.isLi at hi
    rw [Bool.and_eq_true] at hi
    exact List.all_eq_true.1 hi.2
  have e4 := p78 w hk l m hl hsp hm (fun x hx => can_ex h hx)
  refine fnA 6 ok24 (by simp) ?_
  (conv => whnf); (repeat' ((first | refine bT ?_ | refine bF ?_ | refine bN ?_ | ((first | refine bD ?_ ?_ | refine bEq ?_ ?_ | refine bNe ?_ ?_) <;> intro hh <;> try (exfalso; omega)) | (refine (e1).callq rfl rfl fun _ h => ?_; subst h) | (refine (e2).callq rfl rfl fun _ h => ?_; subst h) | (refine (e3).callzq rfl rfl fun _ h => ?_; subst h) | (refine (e4).callq rfl rfl fun _ h => ?_; subst h) | refine wIn (by omega) ?_ | refine nI (by omega) ?_) <;> conv => whnf))
  all_goals rfl
theorem p24e (w : Shop) (l : List Int) (m : Int) (hs : w.sps.length ≤ 1000000) (hm1 : w.mks.length ≤ 1000000) (hl : l.length ≤ 1000000) (h : w.eO (w.isLi l && w.isMk m) ≠ 0) : FnA Try.prog 24 [.agg w.cells, .isl (l.map jAV), .int .i64 m] (· = .tup [.int .i64 0, .int .i64 (w.eO (w.isLi l && w.isMk m))]) := by
  have e1 := p76 w l hs hl
  have e2 := p77 w m hm1
  refine fnA 6 ok24 (by simp) ?_
  cases hi : w.isLi l with
  | false =>
    rw [hi] at e1 h
    have h' : w.eO false ≠ 0 := h
    have e3 := p69e w false h'
    (conv => whnf); (repeat' ((first | refine bT ?_ | refine bF ?_ | refine bN ?_ | ((first | refine bD ?_ ?_ | refine bEq ?_ ?_ | refine bNe ?_ ?_) <;> intro hh <;> try (exfalso; omega)) | (refine (e1).callq rfl rfl fun _ h => ?_; subst h) | (refine (e3).callzq rfl rfl fun _ h => ?_; subst h) | refine wIn (by omega) ?_ | refine nI (by omega) ?_) <;> conv => whnf))
    all_goals rfl
  | true =>
    rw [hi] at e1 h
    rw [Bool.true_and] at h
    have e3 := p69e w (w.isMk m) h
    (conv => whnf); (repeat' ((first | refine bT ?_ | refine bF ?_ | refine bN ?_ | ((first | refine bD ?_ ?_ | refine bEq ?_ ?_ | refine bNe ?_ ?_) <;> intro hh <;> try (exfalso; omega)) | (refine (e1).callq rfl rfl fun _ h => ?_; subst h) | (refine (e2).callq rfl rfl fun _ h => ?_; subst h) | (refine (e3).callzq rfl rfl fun _ h => ?_; subst h) | refine wIn (by omega) ?_ | refine nI (by omega) ?_) <;> conv => whnf))
    all_goals rfl
end Go.Proofs
