/- What each function of this program answers, proved by walking its body: the contracts that the law rests on, part 1. -/
import Derived.Test.YtngninkkcnalkaaFCode
set_option linter.unusedSimpArgs false
set_option linter.unusedVariables false
set_option linter.unusedSectionVars false
namespace Go.Proofs
open Go.Eng
attribute [local irreducible] Go.Eng.brB Go.Eng.need Go.Eng.wrE Go.Eng.iaE Go.Eng.slE Go.Eng.apE Go.Eng.CallZ Go.Eng.CallE Go.Eng.VCallE Go.Eng.YldE Go.Eng.GoC Go.Eng.MeetsE Go.Eng.FnA Go.Eng.FnV Go.Eng.ItA Go.Eng.ItM
set_option maxRecDepth 100000
def fsG (fs : List (List Int)) (j : Nat) : List Int := fs.getD j []
structure Valid (st : List Int) (fs : List (List Int)) (g : List Int) : Prop where
  len : g.length = fs.length
  fit : ∀ j, j < g.length → g.getD j 0 = -1 ∨ g.getD j 0 ∈ fsG fs j
  cnt : ∀ s : Nat, s < st.length → (g.count (s : Int) : Int) ≤ st.getD s 0
/-- the jobs that have none -/
def lackN (g : List Int) : Nat := g.count (-1)
def hasN (g : List Int) : Nat := g.length - g.count (-1)
theorem hasN_add (g : List Int) : hasN g + lackN g = g.length := by
  unfold hasN lackN
  have := List.count_le_length (a := (-1 : Int)) (l := g)
  omega
def Spr (st : List Int) (fs : List (List Int)) : Prop := ∀ f ∈ fs, ∀ s ∈ f, 0 ≤ s ∧ s < st.length
structure IsMost (st : List Int) (fs : List (List Int)) (n : Nat) : Prop where
  has : ∃ g, Valid st fs g ∧ hasN g = n
  max : ∀ g, Valid st fs g → hasN g ≤ n
theorem IsMost.uniq {st : List Int} {fs : List (List Int)} {n m : Nat} (h : IsMost st fs n) (k : IsMost st fs m) : n = m := by
  obtain ⟨g, h1, h2⟩ := h.has
  obtain ⟨g', k1, k2⟩ := k.has
  have := h.max g' k1
  have := k.max g h1
  omega
theorem getD_set (l : List Int) (i : Nat) (x : Int) (j : Nat) (hi : i < l.length) : (l.set i x).getD j 0 = if j = i then x else l.getD j 0 := by
  simp only [List.getD_eq_getElem?_getD, List.getElem?_set]
  by_cases h : i = j
  · subst h; simp [hi]
  · rw [if_neg h, if_neg (fun e => h e.symm)]
theorem count_set' (l : List Int) (i : Nat) (x s : Int) (hi : i < l.length) : ((l.set i x).count s : Int) + (if l.getD i 0 = s then 1 else 0) = l.count s + (if x = s then 1 else 0) := by
  have hg : l.getD i 0 = l[i] := by simp [List.getD_eq_getElem?_getD, hi]
  rw [hg, List.count_set (h := hi)]
  have : l[i] = s → 1 ≤ l.count s := fun e => List.count_pos_iff.2 (e ▸ List.getElem_mem hi)
  by_cases h1 : l[i] = s <;> by_cases h2 : x = s <;> simp [h1, h2] <;> (try (have := this h1)) <;> omega
def bestM : List Int → List (List Int) → Nat
  | _, [] => 0
  | st, f :: fs => (f.filter fun s => decide (0 < st.getD s.toNat 0)).foldl (fun n s => max n (1 + bestM (st.set s.toNat (st.getD s.toNat 0 - 1)) fs)) (bestM st fs)
theorem foldl_max {α : Type} (F : α → Nat) : ∀ (l : List α) (n : Nat), n ≤ l.foldl (fun n s => max n (F s)) n ∧ (∀ s ∈ l, F s ≤ l.foldl (fun n s => max n (F s)) n) ∧ (l.foldl (fun n s => max n (F s)) n = n ∨ ∃ s ∈ l, l.foldl (fun n s => max n (F s)) n = F s)
  | [], n => by simp
  | a :: l, n => by
    obtain ⟨h1, h2, h3⟩ := foldl_max F l (max n (F a))
    refine ⟨by simp only [List.foldl_cons]; omega, fun s hs => ?_, ?_⟩
    · simp only [List.foldl_cons]
      rcases List.mem_cons.1 hs with rfl | hs
      · omega
      · exact h2 s hs
    · simp only [List.foldl_cons]
      rcases h3 with h3 | ⟨s, hs, h3⟩
      · rw [h3]
        by_cases h : F a ≤ n
        · left; omega
        · right; exact ⟨a, by simp, by omega⟩
      · exact .inr ⟨s, by simp [hs], h3⟩
theorem valid_cons {st : List Int} {f : List Int} {fs : List (List Int)} {x : Int} {g : List Int} (hs : Spr st (f :: fs)) : Valid st (f :: fs) (x :: g) ↔ (x = -1 ∧ Valid st fs g) ∨ (x ∈ f ∧ 0 < st.getD x.toNat 0 ∧ Valid (st.set x.toNat (st.getD x.toNat 0 - 1)) fs g) := by
  constructor
  · rintro ⟨h1, h2, h3⟩
    have hf : ∀ j, j < g.length → g.getD j 0 = -1 ∨ g.getD j 0 ∈ fsG fs j := fun j hj => by simpa [fsG] using h2 (j + 1) (by simp; omega)
    have hl : g.length = fs.length := by simpa using h1
    rcases h2 0 (by simp) with h0 | h0
    · have h0 : x = -1 := by simpa using h0
      refine .inl ⟨h0, hl, hf, fun s hs => ?_⟩
      have := h3 s hs
      rw [List.count_cons] at this
      split at this <;> omega
    · have h0 : x ∈ f := by simpa [fsG] using h0
      obtain ⟨a, b⟩ := hs f (by simp) x h0
      have ht : (x.toNat : Int) = x := by omega
      have hc := h3 x.toNat (by omega)
      rw [ht, List.count_cons] at hc
      simp only [beq_self_eq_true, if_true] at hc
      refine .inr ⟨h0, by omega, hl, hf, fun s hs => ?_⟩
      rw [List.length_set] at hs
      rw [getD_set _ _ _ _ (by omega)]
      have := h3 s hs
      rw [List.count_cons] at this
      split
      · rename_i e; subst e; rw [ht]; omega
      · split at this <;> omega
  · rintro (⟨rfl, h1, h2, h3⟩ | ⟨h0, hp, h1, h2, h3⟩)
    · refine ⟨by simp [h1], fun j hj => ?_, fun s hs => ?_⟩
      · cases j with
        | zero => exact .inl (by simp)
        | succ j => simpa [fsG] using h2 j (by simp at hj; omega)
      · rw [List.count_cons]
        have := h3 s hs
        have : ¬ ((-1 : Int) == (s : Int)) = true := by simp
        rw [if_neg this]; omega
    · obtain ⟨a, b⟩ := hs f (by simp) x h0
      refine ⟨by simp [h1], fun j hj => ?_, fun s hs => ?_⟩
      · cases j with
        | zero => exact .inr (by simpa [fsG] using h0)
        | succ j => simpa [fsG] using h2 j (by simp at hj; omega)
      · rw [List.count_cons]
        have := h3 s (by rw [List.length_set]; exact hs)
        rw [getD_set _ _ _ _ (by omega)] at this
        split at this
        · rename_i e
          have hst : st.getD s 0 = st.getD x.toNat 0 := by rw [e]
          split <;> omega
        · rename_i e
          have : ¬ (x == (s : Int)) = true := by simp; omega
          rw [if_neg this]; omega
theorem spr_set {st : List Int} {fs : List (List Int)} (h : Spr st fs) (i : Nat) (x : Int) : Spr (st.set i x) fs := fun f hf s hs => by rw [List.length_set]; exact h f hf s hs
theorem hasN_cons (x : Int) (g : List Int) : hasN (x :: g) = hasN g + if x = -1 then 0 else 1 := by
  unfold hasN
  have := List.count_le_length (a := (-1 : Int)) (l := g)
  rw [List.count_cons]
  by_cases h : x = -1
  · simp [h]
  · have h' : ¬ (x == -1) = true := by simpa using h
    rw [if_neg h', if_neg h]; simp; omega
def Nn (st : List Int) : Prop := ∀ s, s < st.length → 0 ≤ st.getD s 0
theorem nn_set {st : List Int} (h : Nn st) (i : Nat) (hp : 0 < st.getD i 0) : Nn (st.set i (st.getD i 0 - 1)) := fun s hs => by
  rw [List.length_set] at hs
  by_cases hi : i < st.length
  · rw [getD_set _ _ _ _ hi]
    have := h s hs
    split <;> omega
  · rw [List.set_eq_of_length_le (by omega)]; exact h s hs
theorem best_most : ∀ (fs : List (List Int)) (st : List Int), Spr st fs → Nn st → IsMost st fs (bestM st fs)
  | [], st, _, hn => ⟨⟨[], ⟨rfl, by simp, fun s hs => by have := hn s hs; simpa using this⟩, rfl⟩, fun g h => by
      have : g = [] := List.eq_nil_of_length_eq_zero (by simpa using h.len)
      subst this; simp [hasN]⟩
  | f :: fs, st, hs, hn => by
    have hs' : Spr st fs := fun x hx => hs x (by simp [hx])
    have hm := foldl_max (fun s : Int => 1 + bestM (st.set s.toNat (st.getD s.toNat 0 - 1)) fs) (f.filter fun s => decide (0 < st.getD s.toNat 0)) (bestM st fs)
    obtain ⟨h1, h2, h3⟩ := hm
    refine ⟨?_, fun g hg => ?_⟩
    · unfold bestM
      rcases h3 with h3 | ⟨s, hsm, h3⟩
      · rw [h3]
        obtain ⟨g, k1, k2⟩ := (best_most fs st hs' hn).has
        exact ⟨-1 :: g, (valid_cons hs).2 (.inl ⟨rfl, k1⟩), by rw [hasN_cons]; simp [k2]⟩
      · rw [h3]
        rw [List.mem_filter] at hsm
        replace hsm : s ∈ f ∧ 0 < st.getD s.toNat 0 := ⟨hsm.1, of_decide_eq_true hsm.2⟩
        obtain ⟨g, k1, k2⟩ := (best_most fs (st.set s.toNat (st.getD s.toNat 0 - 1)) (spr_set hs' _ _) (nn_set hn _ hsm.2)).has
        have := hs f (by simp) s hsm.1
        exact ⟨s :: g, (valid_cons hs).2 (.inr ⟨hsm.1, hsm.2, k1⟩), by rw [hasN_cons, if_neg (by omega), k2]; omega⟩
    · cases g with
      | nil => have := hg.len; simp at this
      | cons x g =>
        unfold bestM
        rw [hasN_cons]
        rcases (valid_cons hs).1 hg with ⟨rfl, k⟩ | ⟨k1, k2, k3⟩
        · have := (best_most fs st hs' hn).max g k
          simp only [if_true]; omega
        · have := (best_most fs (st.set x.toNat (st.getD x.toNat 0 - 1)) (spr_set hs' _ _) (nn_set hn _ k2)).max g k3
          have h4 := h2 x (List.mem_filter.2 ⟨k1, decide_eq_true k2⟩)
          have := hs f (by simp) x k1
          rw [if_neg (by omega)]
          omega
theorem asc_sub {g : List Int} {d : Int} : ∀ (l : List Nat) (b : Nat), l.Pairwise (· < ·) → (∀ x ∈ l, b ≤ x ∧ x < g.length) → (l.map fun j => g.getD j d).Sublist (g.drop b)
  | [], b, _, _ => List.nil_sublist _
  | x :: l, b, hp, h => by
    have hx := h x (by simp)
    have ih := asc_sub (g := g) (d := d) l (x + 1) (List.pairwise_cons.1 hp).2 (fun y hy => ⟨(List.pairwise_cons.1 hp).1 y hy, (h y (by simp [hy])).2⟩)
    have e : g.drop x = g.getD x d :: g.drop (x + 1) := by
      rw [List.drop_eq_getElem_cons hx.2]; simp [List.getD_eq_getElem?_getD, hx.2]
    have h2 : (g.drop x).Sublist (g.drop b) := by
      rw [show x = b + (x - b) by omega, ← List.drop_drop]; exact List.drop_sublist _ _
    simp only [List.map_cons]
    refine List.Sublist.trans ?_ h2
    rw [e]
    exact ih.cons_cons _
/-- the spares of the stock that are useful -/
def sumU (u : Nat → Bool) (F : Nat → Int) : Nat → Int
  | 0 => 0
  | n + 1 => sumU u F n + if u n = true then F n else 0
def cntF (g : List Int) (s : Nat) : Int := g.count (s : Int)
def stF (st : List Int) (s : Nat) : Int := st.getD s 0
theorem sumU_add (u : Nat → Bool) (F G H : Nat → Int) : ∀ n : Nat, (∀ s, s < n → F s = G s + H s) → sumU u F n = sumU u G n + sumU u H n
  | 0, _ => rfl
  | n + 1, h => by
    have := sumU_add u F G H n fun s hs => h s (by omega)
    have := h n (by omega)
    simp only [sumU]
    split <;> omega
theorem sumU_one (u : Nat → Bool) (x : Int) : ∀ n : Nat, sumU u (fun s => if x = (s : Int) then 1 else 0) n = if (decide (0 ≤ x ∧ x < n) && u x.toNat) = true then 1 else 0
  | 0 => by
    have : ¬ (0 ≤ x ∧ x < ((0 : Nat) : Int)) := by omega
    simp [sumU]; omega
  | n + 1 => by
    have ih := sumU_one u x n
    simp only [sumU, ih]
    by_cases h : x = (n : Int)
    · subst h
      have h1 : ¬ (0 ≤ (n : Int) ∧ (n : Int) < n) := by omega
      have h2 : 0 ≤ (n : Int) ∧ (n : Int) < ((n + 1 : Nat) : Int) := by omega
      rw [decide_eq_false h1, decide_eq_true h2]
      simp
    · have h3 : decide (0 ≤ x ∧ x < ((n + 1 : Nat) : Int)) = decide (0 ≤ x ∧ x < (n : Int)) := decide_eq_decide.2 ⟨fun h => ⟨h.1, by omega⟩, fun h => ⟨h.1, by omega⟩⟩
      rw [h3, if_neg h]; simp
theorem sumU_zero (u : Nat → Bool) : ∀ n : Nat, sumU u (fun _ => 0) n = 0
  | 0 => rfl
  | n + 1 => by simp [sumU, sumU_zero u n]
theorem sumU_count (u : Nat → Bool) (n : Nat) : ∀ g : List Int, ((g.countP fun x : Int => decide (0 ≤ x ∧ x < n) && u x.toNat : Nat) : Int) = sumU u (cntF g) n
  | [] => by
    have : cntF [] = fun _ => 0 := by funext s; simp [cntF]
    rw [this, sumU_zero]; rfl
  | x :: g => by
    have ih := sumU_count u n g
    have e := sumU_add u (cntF (x :: g)) (cntF g) (fun s => if x = (s : Int) then 1 else 0) n fun s _ => by
      simp only [cntF, List.count_cons]
      by_cases h : x = (s : Int) <;> simp [h]
    rw [e, ← ih, sumU_one, List.countP_cons]
    split <;> simp
theorem sumU_le {u v : Nat → Bool} {a b : Nat → Int} : ∀ (n : Nat), (∀ s, s < n → u s = true → v s = true) → (∀ s, s < n → u s = true → a s ≤ b s) → (∀ s, s < n → 0 ≤ b s) → sumU u a n ≤ sumU v b n
  | 0, _, _, _ => by simp [sumU]
  | n + 1, h1, h2, h3 => by
    have ih := sumU_le n (fun s hs => h1 s (by omega)) (fun s hs => h2 s (by omega)) (fun s hs => h3 s (by omega))
    have a1 := h1 n (by omega)
    have a2 := h2 n (by omega)
    have a3 := h3 n (by omega)
    simp only [sumU]
    cases hu : u n with
    | true =>
      have b1 := a1 hu
      have b2 := a2 hu
      rw [b1]; simp only [if_true]; omega
    | false =>
      simp only [Bool.false_eq_true, if_false]
      split <;> omega
/-- which spares fit some of these jobs -/
def useB (fs : List (List Int)) (some : List Nat) (s : Nat) : Bool := some.any fun k => decide ((s : Int) ∈ fsG fs k)
def lackS (st : List Int) (fs : List (List Int)) (some : List Nat) : Int := some.length - sumU (useB fs some) (stF st) st.length
theorem count_split (l : List Int) (p q : Int → Bool) (h : ∀ x ∈ l, p x = true ∨ q x = true) : l.length ≤ l.countP p + l.countP q := by
  induction l with
  | nil => simp
  | cons x l ih =>
    have := ih fun y hy => h y (by simp [hy])
    rw [List.countP_cons, List.countP_cons, List.length_cons]
    rcases h x (by simp) with h1 | h1 <;> simp [h1] <;> omega
theorem weak_dual {st : List Int} {fs : List (List Int)} {g : List Int} (hv : Valid st fs g) (hs : Spr st fs) (h0 : ∀ s, s < st.length → 0 ≤ st.getD s 0) {some : List Nat} (ha : some.Pairwise (· < ·)) (hb : ∀ x ∈ some, x < fs.length) : lackS st fs some ≤ lackN g := by
  have hsub := asc_sub (g := g) (d := 0) some 0 ha (fun x hx => ⟨by omega, by rw [hv.len]; exact hb x hx⟩)
  rw [List.drop_zero] at hsub
  have hsp := count_split (some.map fun j => g.getD j 0) (fun x => x == -1) (fun x : Int => decide (0 ≤ x ∧ x < st.length) && useB fs some x.toNat) (by
    intro x hx
    obtain ⟨j, hj, rfl⟩ := List.mem_map.1 hx
    have hjl := hb j hj
    rcases hv.fit j (by rw [hv.len]; exact hjl) with h | h
    · left; exact beq_iff_eq.2 h
    · right
      have hm : fsG fs j ∈ fs := by
        unfold fsG; rw [List.getD_eq_getElem?_getD, List.getElem?_eq_getElem hjl]; exact List.getElem_mem hjl
      have := hs _ hm _ h
      rw [Bool.and_eq_true]
      refine ⟨decide_eq_true this, List.any_eq_true.2 ⟨j, hj, decide_eq_true ?_⟩⟩
      rw [show ((g.getD j 0).toNat : Int) = g.getD j 0 by omega]; exact h)
  have c1 := hsub.countP_le (p := fun x => x == -1)
  have c2 := hsub.countP_le (p := fun x : Int => decide (0 ≤ x ∧ x < st.length) && useB fs some x.toNat)
  have c3 := sumU_count (useB fs some) st.length g
  have c4 := sumU_le (u := useB fs some) (v := useB fs some) (a := cntF g) (b := stF st) st.length (fun _ _ h => h) (fun s hs _ => hv.cnt s hs) h0
  rw [List.length_map] at hsp
  unfold lackS lackN
  have c5 : g.countP (fun x => x == -1) = g.count (-1) := rfl
  omega
/-- a set of spares of which none is left, and which all fit that have one of them -/
def Shut (fs : List (List Int)) (left g : List Int) (C : Int → Prop) : Prop := ∀ s, C s → left.getD s.toNat 0 = 0 ∧ ∀ j, j < g.length → g.getD j 0 = s → ∀ x ∈ fsG fs j, C x
/-- the jobs that lack -/
def shortL (g : List Int) (t : Int → Bool) : List Nat := (List.range g.length).filter fun j => g.getD j 0 == -1 || t (g.getD j 0)
theorem filter_range_count (g : List Int) (p : Int → Bool) : ((List.range g.length).filter fun j => p (g.getD j 0)).length = g.countP p := by
  have : ∀ n, n ≤ g.length → ((List.range n).filter fun j => p (g.getD j 0)).length = (g.take n).countP p := by
    intro n
    induction n with
    | zero => simp
    | succ n ih =>
      intro h
      have h' : n < g.length := h
      rw [List.range_succ, List.filter_append, List.length_append, ih (by omega), List.take_succ_eq_append_getElem h', List.countP_append]
      congr 1
      have e : g.getD n 0 = g[n] := by simp [List.getD_eq_getElem?_getD, h']
      simp only [List.filter_cons, List.filter_nil, List.countP_cons, List.countP_nil, e]
      split <;> simp
  have := this g.length (Nat.le_refl _)
  rwa [List.take_length] at this
theorem short_lack {st left : List Int} {fs : List (List Int)} {g : List Int} (hv : Valid st fs g) (hs : Spr st fs) (h0 : ∀ s, s < st.length → 0 ≤ st.getD s 0) {t : Int → Bool} (ht : ∀ x, t x = true → 0 ≤ x ∧ x < st.length)
    (hT : Shut fs left g fun s => t s = true) (hl : ∀ s : Nat, s < st.length → left.getD s 0 + (g.count (s : Int) : Int) = st.getD s 0) (hu : ∀ j, j < g.length → g.getD j 0 = -1 → ∀ x ∈ fsG fs j, t x = true) : lackS st fs (shortL g t) = lackN g := by
  have hasc : (shortL g t).Pairwise (· < ·) := List.Pairwise.sublist List.filter_sublist List.pairwise_lt_range
  have hmem : ∀ x ∈ shortL g t, x < g.length ∧ (g.getD x 0 = -1 ∨ t (g.getD x 0) = true) := fun x hx => by
    simpa [shortL] using hx
  have h1 := weak_dual hv hs h0 hasc (fun x hx => by rw [← hv.len]; exact (hmem x hx).1)
  have hlen : (shortL g t).length = g.countP fun x : Int => x == -1 || t x := filter_range_count g fun x : Int => x == -1 || t x
  have hsum : (g.countP fun x : Int => x == -1 || t x) = g.countP (fun x : Int => x == -1) + g.countP fun x : Int => decide (0 ≤ x ∧ x < st.length) && t x := by
    clear h1 hlen hmem hasc hu hl hT hv
    induction g with
    | nil => simp
    | cons x g ih =>
      rw [List.countP_cons, List.countP_cons, List.countP_cons, ih]
      cases hx : t x with
      | true =>
        have := ht x hx
        have e1 : ¬ x = -1 := by omega
        simp [this, e1]; omega
      | false => simp; omega
  have c3 := sumU_count (fun n => t n) st.length g
  have c5 : g.countP (fun x : Int => decide (0 ≤ x ∧ x < st.length) && t ((x.toNat : Nat) : Int)) = g.countP fun x : Int => decide (0 ≤ x ∧ x < st.length) && t x := by
    apply List.countP_congr
    intro x _
    by_cases hx : 0 ≤ x ∧ x < st.length
    · simp [hx, show ((x.toNat : Nat) : Int) = x by omega]
    · simp [hx]
  have hut : ∀ s, s < st.length → useB fs (shortL g t) s = true → t s = true := fun s hs hu2 => by
    obtain ⟨k, hk, hk2⟩ := List.any_eq_true.1 hu2
    have hk2 := of_decide_eq_true hk2
    obtain ⟨a, b⟩ := hmem k hk
    rcases b with b | b
    · exact hu k a b _ hk2
    · exact (hT _ b).2 k a rfl _ hk2
  have c4 := sumU_le (u := useB fs (shortL g t)) (v := fun n => t n) (a := stF st) (b := cntF g) st.length hut (fun s hs hu2 => by
    have a := (hT _ (hut s hs hu2)).1
    have b := hl s hs
    rw [show ((s : Int)).toNat = s by omega] at a
    unfold stF cntF; omega) (fun s hs => by unfold cntF; omega)
  unfold lackS lackN at h1 ⊢
  have c6 : g.countP (fun x => x == -1) = g.count (-1) := rfl
  omega
def jAV (r : Int) : List AV := [.int .i64 r]
structure Spare where
  k : Int
  s : Int
  lo : Int
  hi : Int
deriving DecidableEq
structure Slot where
  k : Int
  ss : List Int
  lo : Int
  hi : Int
structure Trial where
  sp : Int
  mkr : Int
  sl : Int
  ft : Int
deriving DecidableEq
structure Shop where
  sps : List Spare
  mks : List (List Slot)
  cut : Int
  tb : List Trial
def Spare.av (x : Spare) : List AV := [.int .i64 x.k, .int .i64 x.s, .int .i64 x.lo, .int .i64 x.hi]
def Slot.av (x : Slot) : List AV := [.int .i64 x.k, .isl (x.ss.map jAV), .int .i64 x.lo, .int .i64 x.hi]
def mkAV (m : List Slot) : List AV := [.isl (m.map Slot.av)]
def Trial.av (x : Trial) : List AV := [.int .i64 x.sp, .int .i64 x.mkr, .int .i64 x.sl, .int .i64 x.ft]
def Shop.cells (w : Shop) : List AV := [.isl (w.sps.map Spare.av), .isl (w.mks.map mkAV), .int .i64 w.cut, .isl (w.tb.map Trial.av)]
theorem getM {α : Type} (f : α → List AV) (l : List α) (i : Nat) (h : i < l.length) : (l.map f).getD i [] = f l[i] := by
  simp [List.getD_eq_getElem?_getD, h]
theorem all_not {α : Type} {l : List α} {p : α → Bool} {k : Nat} (hk : k < l.length) (h : p l[k] = false) : l.all p = false := by
  rw [Bool.eq_false_iff]; intro h2
  rw [List.all_eq_true.1 h2 _ (List.getElem_mem hk)] at h; cases h
theorem take_all {α : Type} {l : List α} {p : α → Bool} {k : Nat} (hk : k < l.length) (h : ∀ x ∈ l.take k, p x = true) (hx : p l[k] = true) : ∀ x ∈ l.take (k + 1), p x = true := by
  intro x hm
  rw [List.take_succ_eq_append_getElem hk] at hm
  rcases List.mem_append.1 hm with hm | hm
  · exact h x hm
  · simp only [List.mem_singleton] at hm; subst hm; exact hx
theorem take_none {α : Type} {l : List α} {p : α → Bool} {k : Nat} (hk : k < l.length) (h : ∀ x ∈ l.take k, p x = false) (hx : p l[k] = false) : ∀ x ∈ l.take (k + 1), p x = false := by
  intro x hm
  rw [List.take_succ_eq_append_getElem hk] at hm
  rcases List.mem_append.1 hm with hm | hm
  · exact h x hm
  · simp only [List.mem_singleton] at hm; subst hm; exact hx
theorem all_yes {α : Type} {l : List α} {p : α → Bool} (h : ∀ x ∈ l, p x = true) : l.all p = true := List.all_eq_true.2 h
theorem any_no {α : Type} {l : List α} {p : α → Bool} (h : ∀ x ∈ l, p x = false) : l.any p = false := by
  rw [Bool.eq_false_iff]; intro h2
  obtain ⟨x, hx, hp⟩ := List.any_eq_true.1 h2
  rw [h x hx] at hp; cases hp
theorem any_yes {α : Type} {l : List α} {p : α → Bool} {k : Nat} (hk : k < l.length) (h : p l[k] = true) : l.any p = true := List.any_eq_true.2 ⟨_, List.getElem_mem hk, h⟩
theorem p114 (n lo hi : Int) : FnA Try.prog 114 [.int .i64 n, .int .i64 lo, .int .i64 hi] (· = .bool (decide (lo ≤ n ∧ n ≤ hi))) := by
  refine fnA 0 ok114 (by simp) ?_
  (conv => whnf); (repeat' ((first | refine bT ?_ | refine bF ?_ | refine bN ?_ | ((first | refine bD ?_ ?_ | refine bEq ?_ ?_ | refine bNe ?_ ?_) <;> intro hh <;> try (exfalso; omega)) | refine wIn (by omega) ?_ | refine nI (by omega) ?_) <;> conv => whnf))
  all_goals first | rfl | exact congrArg AV.bool (decide_eq_decide.2 (by omega)) | exact congrArg AV.bool (decide_eq_true (by omega)).symm | exact congrArg AV.bool (decide_eq_false (by omega)).symm
theorem p90 (n lo hi : Int) : FnA Try.prog 90 [.int .i64 n, .int .i64 lo, .int .i64 hi] (· = .bool (decide (lo ≤ n ∧ n ≤ hi))) := by
  refine fnA 0 ok90 (by simp) ?_
  (conv => whnf); (repeat' ((first | refine bT ?_ | refine bF ?_ | refine bN ?_ | ((first | refine bD ?_ ?_ | refine bEq ?_ ?_ | refine bNe ?_ ?_) <;> intro hh <;> try (exfalso; omega)) | refine wIn (by omega) ?_ | refine nI (by omega) ?_) <;> conv => whnf))
  all_goals first | rfl | exact congrArg AV.bool (decide_eq_decide.2 (by omega)) | exact congrArg AV.bool (decide_eq_true (by omega)).symm | exact congrArg AV.bool (decide_eq_false (by omega)).symm
theorem p148 (n : Int) : FnA Try.prog 148 [.int .i64 n] (· = .bool (decide (0 ≤ n ∧ n ≤ 9))) := by
  have e1 := p114 n 0 9
  refine fnA 1 ok148 (by simp) ?_
  (conv => whnf); (repeat' ((first | refine bT ?_ | refine bF ?_ | refine bN ?_ | ((first | refine bD ?_ ?_ | refine bEq ?_ ?_ | refine bNe ?_ ?_) <;> intro hh <;> try (exfalso; omega)) | (refine (e1).callq rfl rfl fun _ h => ?_; subst h) | refine wIn (by omega) ?_ | refine nI (by omega) ?_) <;> conv => whnf))
  all_goals rfl
def okLen (lo hi : Int) : Bool := decide (0 ≤ lo ∧ lo ≤ hi ∧ hi ≤ 999)
theorem okLen_iff {lo hi : Int} : okLen lo hi = true ↔ 0 ≤ lo ∧ lo ≤ hi ∧ hi ≤ 999 := by unfold okLen; exact decide_eq_true_iff
theorem p149 (lo hi : Int) : FnA Try.prog 149 [.agg [.int .i64 lo, .int .i64 hi]] (· = .bool (okLen lo hi)) := by
  have e1 := p114 lo 0 hi
  unfold okLen
  refine fnA 1 ok149 (by simp) ?_
  (conv => whnf); (repeat' ((first | refine bT ?_ | refine bF ?_ | refine bN ?_ | ((first | refine bD ?_ ?_ | refine bEq ?_ ?_ | refine bNe ?_ ?_) <;> intro hh <;> try (exfalso; omega)) | (refine (e1).callq rfl rfl fun _ h => ?_; subst h) | refine wIn (by omega) ?_ | refine nI (by omega) ?_) <;> conv => whnf))
  all_goals first | rfl | exact congrArg AV.bool (decide_eq_decide.2 (by omega)) | exact congrArg AV.bool (decide_eq_true (by omega)).symm | exact congrArg AV.bool (decide_eq_false (by omega)).symm
theorem p120 (lo hi : Int) : FnA Try.prog 120 [.agg [.int .i64 lo, .int .i64 hi]] (· = .bool (okLen lo hi)) := by
  have e1 := p90 lo 0 hi
  unfold okLen
  refine fnA 1 ok120 (by simp) ?_
  (conv => whnf); (repeat' ((first | refine bT ?_ | refine bF ?_ | refine bN ?_ | ((first | refine bD ?_ ?_ | refine bEq ?_ ?_ | refine bNe ?_ ?_) <;> intro hh <;> try (exfalso; omega)) | (refine (e1).callq rfl rfl fun _ h => ?_; subst h) | refine wIn (by omega) ?_ | refine nI (by omega) ?_) <;> conv => whnf))
  all_goals first | rfl | exact congrArg AV.bool (decide_eq_decide.2 (by omega)) | exact congrArg AV.bool (decide_eq_true (by omega)).symm | exact congrArg AV.bool (decide_eq_false (by omega)).symm
def okSp (x : Spare) : Bool := decide (0 ≤ x.k ∧ x.k ≤ 9) && decide (0 ≤ x.s ∧ x.s ≤ 9) && okLen x.lo x.hi
theorem p111 (x : Spare) : FnA Try.prog 111 [.agg x.av] (· = .bool (okSp x)) := by
  have e1 := p148 x.k
  have e2 := p148 x.s
  have e3 := p149 x.lo x.hi
  unfold okSp
  refine fnA 1 ok111 (by simp) ?_
  cases h1 : decide (0 ≤ x.k ∧ x.k ≤ 9) <;> cases h2 : decide (0 ≤ x.s ∧ x.s ≤ 9) <;> rw [h1] at e1 <;> rw [h2] at e2
  all_goals
    (conv => whnf); (repeat' ((first | refine bT ?_ | refine bF ?_ | refine bN ?_ | ((first | refine bD ?_ ?_ | refine bEq ?_ ?_ | refine bNe ?_ ?_) <;> intro hh <;> try (exfalso; omega)) | (refine (e1).callq rfl rfl fun _ h => ?_; subst h) | (refine (e2).callq rfl rfl fun _ h => ?_; subst h) | (refine (e3).callq rfl rfl fun _ h => ?_; subst h) | refine wIn (by omega) ?_ | refine nI (by omega) ?_) <;> conv => whnf))
    all_goals rfl
def ascB : List Int → Bool
  | [] => true
  | [_] => true
  | a :: b :: l => decide (a < b) && ascB (b :: l)
theorem ascB_iff : ∀ {l : List Int}, ascB l = true ↔ ∀ i, i + 1 < l.length → l.getD i 0 < l.getD (i + 1) 0
  | [] => by simp [ascB]
  | [_] => by simp [ascB]
  | a :: b :: l => by
    simp only [ascB, Bool.and_eq_true, decide_eq_true_eq, ascB_iff (l := b :: l)]
    constructor
    · rintro ⟨h1, h2⟩ i hi
      cases i with
      | zero => simpa using h1
      | succ i => simpa using h2 i (by simpa using hi)
    · intro h
      exact ⟨by simpa using h 0 (by simp), fun i hi => by simpa using h (i + 1) (by simpa using hi)⟩
theorem jget {l : List Int} {i : Nat} (h : i < l.length) : (l.map jAV).getD i [] = [.int .i64 (l.getD i 0)] := by
  simp [List.getD_eq_getElem?_getD, h, jAV]
theorem ascB_no {l : List Int} {k : Nat} (hk : k + 1 < l.length) (h : ¬ l.getD k 0 < l.getD (k + 1) 0) : ascB l = false := by
  rw [Bool.eq_false_iff]; intro h2; exact h (ascB_iff.1 h2 k hk)
theorem p126 (l : List Int) (hl : l.length ≤ 1000000) : FnA Try.prog 126 [.isl (l.map jAV)] (· = .bool (ascB l)) := by
  have hL : (l.map jAV).length = l.length := by simp
  refine fnA 0 ok126 (by simp) ?_
  (conv => whnf); (repeat' ((first | refine bT ?_ | refine bF ?_ | refine bN ?_ | ((first | refine bD ?_ ?_ | refine bEq ?_ ?_ | refine bNe ?_ ?_) <;> intro hh <;> try (exfalso; omega)) | refine wIn (by omega) ?_ | refine nI (by omega) ?_) <;> conv => whnf))
  refine loop_i (α := Nat) (fun k => [(7, .int .i64 k), (6, .int .i64 (↑(l.map jAV).length - 1)), (0, .isl (l.map jAV))]) (fun k => []) (fun k => (k : Int) ≤ l.length ∧ ∀ i, i < k → i + 1 < l.length → l.getD i 0 < l.getD (i + 1) 0) (fun k => l.length - k) 0 (meets_id (by (repeat' apply And.intro) <;> first | rfl | exact True.intro | (intro hh; cases hh))) ⟨by omega, by omega⟩ ?_
  rintro k ⟨h1, h2⟩
  conv => whnf
  refine bD (fun h3 => ?_) (fun h3 => ?_)
  · have hk : k + 1 < l.length := by omega
    have g1 := jget (l := l) (i := k) (by omega)
    have g2 := jget (l := l) (i := k + 1) (by omega)
    by_cases hx : l.getD k 0 < l.getD (k + 1) 0
    · (conv => whnf); (repeat' ((first | refine bT ?_ | refine bF ?_ | refine bN ?_ | ((first | refine bD ?_ ?_ | refine bEq ?_ ?_ | refine bNe ?_ ?_) <;> intro hh <;> try (exfalso; omega)) | (refine iaI (by omega) (by omega) g1 ?_) | (refine iaI (by omega) (by omega) g2 ?_) | refine wIn (by omega) ?_ | refine nI (by omega) ?_) <;> conv => whnf))
      refine ⟨k + 1, (meets_id (by (repeat' apply And.intro) <;> first | rfl | exact True.intro | (intro hh; cases hh))), ⟨by omega, fun i hi hi2 => ?_⟩, by omega⟩
      by_cases e : i = k
      · rw [e]; exact hx
      · exact h2 i (by omega) hi2
    · rw [ascB_no hk hx]
      (conv => whnf); (repeat' ((first | refine bT ?_ | refine bF ?_ | refine bN ?_ | ((first | refine bD ?_ ?_ | refine bEq ?_ ?_ | refine bNe ?_ ?_) <;> intro hh <;> try (exfalso; omega)) | (refine iaI (by omega) (by omega) g1 ?_) | (refine iaI (by omega) (by omega) g2 ?_) | refine wIn (by omega) ?_ | refine nI (by omega) ?_) <;> conv => whnf))
      all_goals rfl
  · rw [ascB_iff.2 fun i hi => h2 i (by omega) hi]
    (conv => whnf); (repeat' ((first | refine bT ?_ | refine bF ?_ | refine bN ?_ | ((first | refine bD ?_ ?_ | refine bEq ?_ ?_ | refine bNe ?_ ?_) <;> intro hh <;> try (exfalso; omega)) | refine wIn (by omega) ?_ | refine nI (by omega) ?_) <;> conv => whnf))
    all_goals rfl
theorem p50 (l : List Int) (hl : l.length ≤ 1000000) : FnA Try.prog 50 [.isl (l.map jAV)] (· = .bool (ascB l)) := by
  have hL : (l.map jAV).length = l.length := by simp
  refine fnA 0 ok50 (by simp) ?_
  (conv => whnf); (repeat' ((first | refine bT ?_ | refine bF ?_ | refine bN ?_ | ((first | refine bD ?_ ?_ | refine bEq ?_ ?_ | refine bNe ?_ ?_) <;> intro hh <;> try (exfalso; omega)) | refine wIn (by omega) ?_ | refine nI (by omega) ?_) <;> conv => whnf))
  refine loop_i (α := Nat) (fun k => [(3, .int .i64 (k + 1)), (0, .isl (l.map jAV))]) (fun k => []) (fun k => (k : Int) ≤ l.length ∧ ∀ i, i < k → i + 1 < l.length → l.getD i 0 < l.getD (i + 1) 0) (fun k => l.length - k) 0 (meets_id (by (repeat' apply And.intro) <;> first | rfl | exact True.intro | (intro hh; cases hh))) ⟨by omega, by omega⟩ ?_
  rintro k ⟨h1, h2⟩
  conv => whnf
  refine bD (fun h3 => ?_) (fun h3 => ?_)
  · have hk : k + 1 < l.length := by omega
    have g1 := jget (l := l) (i := k) (by omega)
    have g2 := jget (l := l) (i := k + 1) (by omega)
    have h4 : ((k : Int) + 1 - 1) = k := by omega
    by_cases hx : l.getD k 0 < l.getD (k + 1) 0
    · (conv => whnf); (repeat' ((first | refine bT ?_ | refine bF ?_ | refine bN ?_ | ((first | refine bD ?_ ?_ | refine bEq ?_ ?_ | refine bNe ?_ ?_) <;> intro hh <;> try (exfalso; omega)) | (refine iaI (by omega) (by omega) g2 ?_) | (refine iaI (by omega) (by omega) (show (l.map jAV).getD ((k : Int) + 1 - 1).toNat [] = [.int .i64 (l.getD k 0)] by rw [h4]; exact g1) ?_) | refine wIn (by omega) ?_ | refine nI (by omega) ?_) <;> conv => whnf))
      refine ⟨k + 1, (meets_id (by (repeat' apply And.intro) <;> first | rfl | exact True.intro | (intro hh; cases hh))), ⟨by omega, fun i hi hi2 => ?_⟩, by omega⟩
      by_cases e : i = k
      · rw [e]; exact hx
      · exact h2 i (by omega) hi2
    · rw [ascB_no hk hx]
      (conv => whnf); (repeat' ((first | refine bT ?_ | refine bF ?_ | refine bN ?_ | ((first | refine bD ?_ ?_ | refine bEq ?_ ?_ | refine bNe ?_ ?_) <;> intro hh <;> try (exfalso; omega)) | (refine iaI (by omega) (by omega) g2 ?_) | (refine iaI (by omega) (by omega) (show (l.map jAV).getD ((k : Int) + 1 - 1).toNat [] = [.int .i64 (l.getD k 0)] by rw [h4]; exact g1) ?_) | refine wIn (by omega) ?_ | refine nI (by omega) ?_) <;> conv => whnf))
      all_goals rfl
  · rw [ascB_iff.2 fun i hi => h2 i (by omega) hi]
    (conv => whnf); (repeat' ((first | refine bT ?_ | refine bF ?_ | refine bN ?_ | ((first | refine bD ?_ ?_ | refine bEq ?_ ?_ | refine bNe ?_ ?_) <;> intro hh <;> try (exfalso; omega)) | refine wIn (by omega) ?_ | refine nI (by omega) ?_) <;> conv => whnf))
    all_goals rfl
structure Job where
  mkr : Int
  sl : Int
def Job.av (j : Job) : List AV := [.int .i64 j.mkr, .int .i64 j.sl]
theorem p110 {C : List AV} (p : Spare → Bool) (l : List (Spare)) (hl : l.length ≤ 1000000) (hg : ∀ x ∈ l, FnV Try.prog (.fn 111 []) [.agg (Spare.av x)] (· = .bool (p x))) : FnA Try.prog 110 [.isl (l.map Spare.av), (.fn 111 [])] (· = .bool (l.all p)) := by
  have hL : (l.map Spare.av).length = l.length := by simp
  refine fnA 1 ok110 (by simp) ?_
  (conv => whnf); (repeat' ((first | refine bT ?_ | refine bF ?_ | refine bN ?_ | ((first | refine bD ?_ ?_ | refine bEq ?_ ?_ | refine bNe ?_ ?_) <;> intro hh <;> try (exfalso; omega)) | refine wIn (by omega) ?_ | refine nI (by omega) ?_) <;> conv => whnf))
  refine loop_i (α := Nat) (fun k => [(9, .int .i64 k), (8, .int .i64 ↑(l.map Spare.av).length), (7, .isl (l.map Spare.av)), (1, (.fn 111 []))]) (fun k => [.fresh]) (fun k => k ≤ l.length ∧ ∀ b ∈ l.take k, p b = true) (fun k => l.length - k) 0 (meets_id (by (repeat' apply And.intro) <;> first | rfl | exact True.intro | (intro hh; cases hh))) ⟨by omega, by simp⟩ ?_
  rintro k ⟨h1, h2⟩
  conv => whnf
  refine bD (fun h3 => ?_) (fun h3 => ?_)
  · have hk : k < l.length := by omega
    have hv := hg l[k] (List.getElem_mem hk)
    cases hx : p l[k] with
    | true =>
      rw [hx] at hv
      conv => whnf
      refine iaI (by omega) (by omega) (getM Spare.av l k hk) ?_
      (conv => whnf); (repeat' ((first | refine bT ?_ | refine bF ?_ | refine bN ?_ | ((first | refine bD ?_ ?_ | refine bEq ?_ ?_ | refine bNe ?_ ?_) <;> intro hh <;> try (exfalso; omega)) | (refine hv.vcallq rfl rfl rfl rfl (fun r (hr : r = _) => ?_); subst hr) | refine wIn (by omega) ?_ | refine nI (by omega) ?_) <;> conv => whnf))
      exact ⟨k + 1, (meets_id (by (repeat' apply And.intro) <;> first | rfl | exact True.intro | (intro hh; cases hh))), ⟨by omega, take_all hk h2 hx⟩, by omega⟩
    | false =>
      rw [hx] at hv
      rw [all_not hk hx]
      conv => whnf
      refine iaI (by omega) (by omega) (getM Spare.av l k hk) ?_
      (conv => whnf); (repeat' ((first | refine bT ?_ | refine bF ?_ | refine bN ?_ | ((first | refine bD ?_ ?_ | refine bEq ?_ ?_ | refine bNe ?_ ?_) <;> intro hh <;> try (exfalso; omega)) | (refine hv.vcallq rfl rfl rfl rfl (fun r (hr : r = _) => ?_); subst hr) | refine wIn (by omega) ?_ | refine nI (by omega) ?_) <;> conv => whnf))
      all_goals rfl
  · have : k = l.length := by omega
    subst this
    rw [List.take_length] at h2
    rw [all_yes h2]
    (conv => whnf); (repeat' ((first | refine bT ?_ | refine bF ?_ | refine bN ?_ | ((first | refine bD ?_ ?_ | refine bEq ?_ ?_ | refine bNe ?_ ?_) <;> intro hh <;> try (exfalso; omega)) | refine wIn (by omega) ?_ | refine nI (by omega) ?_) <;> conv => whnf))
    all_goals rfl
theorem p112 {C : List AV} (p : List Slot → Bool) (l : List (List Slot)) (hl : l.length ≤ 1000000) (hg : ∀ x ∈ l, FnV Try.prog (.fn 113 []) [.agg (mkAV x)] (· = .bool (p x))) : FnA Try.prog 112 [.isl (l.map mkAV), (.fn 113 [])] (· = .bool (l.all p)) := by
  have hL : (l.map mkAV).length = l.length := by simp
  refine fnA 1 ok112 (by simp) ?_
  (conv => whnf); (repeat' ((first | refine bT ?_ | refine bF ?_ | refine bN ?_ | ((first | refine bD ?_ ?_ | refine bEq ?_ ?_ | refine bNe ?_ ?_) <;> intro hh <;> try (exfalso; omega)) | refine wIn (by omega) ?_ | refine nI (by omega) ?_) <;> conv => whnf))
  refine loop_i (α := Nat) (fun k => [(9, .int .i64 k), (8, .int .i64 ↑(l.map mkAV).length), (7, .isl (l.map mkAV)), (1, (.fn 113 []))]) (fun k => [.fresh]) (fun k => k ≤ l.length ∧ ∀ b ∈ l.take k, p b = true) (fun k => l.length - k) 0 (meets_id (by (repeat' apply And.intro) <;> first | rfl | exact True.intro | (intro hh; cases hh))) ⟨by omega, by simp⟩ ?_
  rintro k ⟨h1, h2⟩
  conv => whnf
  refine bD (fun h3 => ?_) (fun h3 => ?_)
  · have hk : k < l.length := by omega
    have hv := hg l[k] (List.getElem_mem hk)
    cases hx : p l[k] with
    | true =>
      rw [hx] at hv
      conv => whnf
      refine iaI (by omega) (by omega) (getM mkAV l k hk) ?_
      (conv => whnf); (repeat' ((first | refine bT ?_ | refine bF ?_ | refine bN ?_ | ((first | refine bD ?_ ?_ | refine bEq ?_ ?_ | refine bNe ?_ ?_) <;> intro hh <;> try (exfalso; omega)) | (refine hv.vcallq rfl rfl rfl rfl (fun r (hr : r = _) => ?_); subst hr) | refine wIn (by omega) ?_ | refine nI (by omega) ?_) <;> conv => whnf))
      exact ⟨k + 1, (meets_id (by (repeat' apply And.intro) <;> first | rfl | exact True.intro | (intro hh; cases hh))), ⟨by omega, take_all hk h2 hx⟩, by omega⟩
    | false =>
      rw [hx] at hv
      rw [all_not hk hx]
      conv => whnf
      refine iaI (by omega) (by omega) (getM mkAV l k hk) ?_
      (conv => whnf); (repeat' ((first | refine bT ?_ | refine bF ?_ | refine bN ?_ | ((first | refine bD ?_ ?_ | refine bEq ?_ ?_ | refine bNe ?_ ?_) <;> intro hh <;> try (exfalso; omega)) | (refine hv.vcallq rfl rfl rfl rfl (fun r (hr : r = _) => ?_); subst hr) | refine wIn (by omega) ?_ | refine nI (by omega) ?_) <;> conv => whnf))
      all_goals rfl
  · have : k = l.length := by omega
    subst this
    rw [List.take_length] at h2
    rw [all_yes h2]
    (conv => whnf); (repeat' ((first | refine bT ?_ | refine bF ?_ | refine bN ?_ | ((first | refine bD ?_ ?_ | refine bEq ?_ ?_ | refine bNe ?_ ?_) <;> intro hh <;> try (exfalso; omega)) | refine wIn (by omega) ?_ | refine nI (by omega) ?_) <;> conv => whnf))
    all_goals rfl
theorem p115 {C : List AV} (p : Trial → Bool) (l : List (Trial)) (hl : l.length ≤ 1000000) (hg : ∀ x ∈ l, FnV Try.prog (.fn 116 [.ipt C]) [.agg (Trial.av x)] (· = .bool (p x))) : FnA Try.prog 115 [.isl (l.map Trial.av), (.fn 116 [.ipt C])] (· = .bool (l.all p)) := by
  have hL : (l.map Trial.av).length = l.length := by simp
  refine fnA 1 ok115 (by simp) ?_
  (conv => whnf); (repeat' ((first | refine bT ?_ | refine bF ?_ | refine bN ?_ | ((first | refine bD ?_ ?_ | refine bEq ?_ ?_ | refine bNe ?_ ?_) <;> intro hh <;> try (exfalso; omega)) | refine wIn (by omega) ?_ | refine nI (by omega) ?_) <;> conv => whnf))
  refine loop_i (α := Nat) (fun k => [(9, .int .i64 k), (8, .int .i64 ↑(l.map Trial.av).length), (7, .isl (l.map Trial.av)), (1, (.fn 116 [.ipt C]))]) (fun k => [.fresh]) (fun k => k ≤ l.length ∧ ∀ b ∈ l.take k, p b = true) (fun k => l.length - k) 0 (meets_id (by (repeat' apply And.intro) <;> first | rfl | exact True.intro | (intro hh; cases hh))) ⟨by omega, by simp⟩ ?_
  rintro k ⟨h1, h2⟩
  conv => whnf
  refine bD (fun h3 => ?_) (fun h3 => ?_)
  · have hk : k < l.length := by omega
    have hv := hg l[k] (List.getElem_mem hk)
    cases hx : p l[k] with
    | true =>
      rw [hx] at hv
      conv => whnf
      refine iaI (by omega) (by omega) (getM Trial.av l k hk) ?_
      (conv => whnf); (repeat' ((first | refine bT ?_ | refine bF ?_ | refine bN ?_ | ((first | refine bD ?_ ?_ | refine bEq ?_ ?_ | refine bNe ?_ ?_) <;> intro hh <;> try (exfalso; omega)) | (refine hv.vcallq rfl rfl rfl rfl (fun r (hr : r = _) => ?_); subst hr) | refine wIn (by omega) ?_ | refine nI (by omega) ?_) <;> conv => whnf))
      exact ⟨k + 1, (meets_id (by (repeat' apply And.intro) <;> first | rfl | exact True.intro | (intro hh; cases hh))), ⟨by omega, take_all hk h2 hx⟩, by omega⟩
    | false =>
      rw [hx] at hv
      rw [all_not hk hx]
      conv => whnf
      refine iaI (by omega) (by omega) (getM Trial.av l k hk) ?_
      (conv => whnf); (repeat' ((first | refine bT ?_ | refine bF ?_ | refine bN ?_ | ((first | refine bD ?_ ?_ | refine bEq ?_ ?_ | refine bNe ?_ ?_) <;> intro hh <;> try (exfalso; omega)) | (refine hv.vcallq rfl rfl rfl rfl (fun r (hr : r = _) => ?_); subst hr) | refine wIn (by omega) ?_ | refine nI (by omega) ?_) <;> conv => whnf))
      all_goals rfl
  · have : k = l.length := by omega
    subst this
    rw [List.take_length] at h2
    rw [all_yes h2]
    (conv => whnf); (repeat' ((first | refine bT ?_ | refine bF ?_ | refine bN ?_ | ((first | refine bD ?_ ?_ | refine bEq ?_ ?_ | refine bNe ?_ ?_) <;> intro hh <;> try (exfalso; omega)) | refine wIn (by omega) ?_ | refine nI (by omega) ?_) <;> conv => whnf))
    all_goals rfl
theorem p150 {C : List AV} (p : Slot → Bool) (l : List (Slot)) (hl : l.length ≤ 1000000) (hg : ∀ x ∈ l, FnV Try.prog (.fn 151 []) [.agg (Slot.av x)] (· = .bool (p x))) : FnA Try.prog 150 [.isl (l.map Slot.av), (.fn 151 [])] (· = .bool (l.all p)) := by
  have hL : (l.map Slot.av).length = l.length := by simp
  refine fnA 1 ok150 (by simp) ?_
  (conv => whnf); (repeat' ((first | refine bT ?_ | refine bF ?_ | refine bN ?_ | ((first | refine bD ?_ ?_ | refine bEq ?_ ?_ | refine bNe ?_ ?_) <;> intro hh <;> try (exfalso; omega)) | refine wIn (by omega) ?_ | refine nI (by omega) ?_) <;> conv => whnf))
  refine loop_i (α := Nat) (fun k => [(9, .int .i64 k), (8, .int .i64 ↑(l.map Slot.av).length), (7, .isl (l.map Slot.av)), (1, (.fn 151 []))]) (fun k => [.fresh]) (fun k => k ≤ l.length ∧ ∀ b ∈ l.take k, p b = true) (fun k => l.length - k) 0 (meets_id (by (repeat' apply And.intro) <;> first | rfl | exact True.intro | (intro hh; cases hh))) ⟨by omega, by simp⟩ ?_
  rintro k ⟨h1, h2⟩
  conv => whnf
  refine bD (fun h3 => ?_) (fun h3 => ?_)
  · have hk : k < l.length := by omega
    have hv := hg l[k] (List.getElem_mem hk)
    cases hx : p l[k] with
    | true =>
      rw [hx] at hv
      conv => whnf
      refine iaI (by omega) (by omega) (getM Slot.av l k hk) ?_
      (conv => whnf); (repeat' ((first | refine bT ?_ | refine bF ?_ | refine bN ?_ | ((first | refine bD ?_ ?_ | refine bEq ?_ ?_ | refine bNe ?_ ?_) <;> intro hh <;> try (exfalso; omega)) | (refine hv.vcallq rfl rfl rfl rfl (fun r (hr : r = _) => ?_); subst hr) | refine wIn (by omega) ?_ | refine nI (by omega) ?_) <;> conv => whnf))
      exact ⟨k + 1, (meets_id (by (repeat' apply And.intro) <;> first | rfl | exact True.intro | (intro hh; cases hh))), ⟨by omega, take_all hk h2 hx⟩, by omega⟩
    | false =>
      rw [hx] at hv
      rw [all_not hk hx]
      conv => whnf
      refine iaI (by omega) (by omega) (getM Slot.av l k hk) ?_
      (conv => whnf); (repeat' ((first | refine bT ?_ | refine bF ?_ | refine bN ?_ | ((first | refine bD ?_ ?_ | refine bEq ?_ ?_ | refine bNe ?_ ?_) <;> intro hh <;> try (exfalso; omega)) | (refine hv.vcallq rfl rfl rfl rfl (fun r (hr : r = _) => ?_); subst hr) | refine wIn (by omega) ?_ | refine nI (by omega) ?_) <;> conv => whnf))
      all_goals rfl
  · have : k = l.length := by omega
    subst this
    rw [List.take_length] at h2
    rw [all_yes h2]
    (conv => whnf); (repeat' ((first | refine bT ?_ | refine bF ?_ | refine bN ?_ | ((first | refine bD ?_ ?_ | refine bEq ?_ ?_ | refine bNe ?_ ?_) <;> intro hh <;> try (exfalso; omega)) | refine wIn (by omega) ?_ | refine nI (by omega) ?_) <;> conv => whnf))
    all_goals rfl
theorem p158 {C : List AV} (p : Job → Bool) (l : List (Job)) (hl : l.length ≤ 1000000) (hg : ∀ x ∈ l, FnV Try.prog (.fn 159 [.ipt C]) [.agg (Job.av x)] (· = .bool (p x))) : FnA Try.prog 158 [.isl (l.map Job.av), (.fn 159 [.ipt C])] (· = .bool (l.all p)) := by
  have hL : (l.map Job.av).length = l.length := by simp
  refine fnA 1 ok158 (by simp) ?_
  (conv => whnf); (repeat' ((first | refine bT ?_ | refine bF ?_ | refine bN ?_ | ((first | refine bD ?_ ?_ | refine bEq ?_ ?_ | refine bNe ?_ ?_) <;> intro hh <;> try (exfalso; omega)) | refine wIn (by omega) ?_ | refine nI (by omega) ?_) <;> conv => whnf))
  refine loop_i (α := Nat) (fun k => [(9, .int .i64 k), (8, .int .i64 ↑(l.map Job.av).length), (7, .isl (l.map Job.av)), (1, (.fn 159 [.ipt C]))]) (fun k => [.fresh]) (fun k => k ≤ l.length ∧ ∀ b ∈ l.take k, p b = true) (fun k => l.length - k) 0 (meets_id (by (repeat' apply And.intro) <;> first | rfl | exact True.intro | (intro hh; cases hh))) ⟨by omega, by simp⟩ ?_
  rintro k ⟨h1, h2⟩
  conv => whnf
  refine bD (fun h3 => ?_) (fun h3 => ?_)
  · have hk : k < l.length := by omega
    have hv := hg l[k] (List.getElem_mem hk)
    cases hx : p l[k] with
    | true =>
      rw [hx] at hv
      conv => whnf
      refine iaI (by omega) (by omega) (getM Job.av l k hk) ?_
      (conv => whnf); (repeat' ((first | refine bT ?_ | refine bF ?_ | refine bN ?_ | ((first | refine bD ?_ ?_ | refine bEq ?_ ?_ | refine bNe ?_ ?_) <;> intro hh <;> try (exfalso; omega)) | (refine hv.vcallq rfl rfl rfl rfl (fun r (hr : r = _) => ?_); subst hr) | refine wIn (by omega) ?_ | refine nI (by omega) ?_) <;> conv => whnf))
      exact ⟨k + 1, (meets_id (by (repeat' apply And.intro) <;> first | rfl | exact True.intro | (intro hh; cases hh))), ⟨by omega, take_all hk h2 hx⟩, by omega⟩
    | false =>
      rw [hx] at hv
      rw [all_not hk hx]
      conv => whnf
      refine iaI (by omega) (by omega) (getM Job.av l k hk) ?_
      (conv => whnf); (repeat' ((first | refine bT ?_ | refine bF ?_ | refine bN ?_ | ((first | refine bD ?_ ?_ | refine bEq ?_ ?_ | refine bNe ?_ ?_) <;> intro hh <;> try (exfalso; omega)) | (refine hv.vcallq rfl rfl rfl rfl (fun r (hr : r = _) => ?_); subst hr) | refine wIn (by omega) ?_ | refine nI (by omega) ?_) <;> conv => whnf))
      all_goals rfl
  · have : k = l.length := by omega
    subst this
    rw [List.take_length] at h2
    rw [all_yes h2]
    (conv => whnf); (repeat' ((first | refine bT ?_ | refine bF ?_ | refine bN ?_ | ((first | refine bD ?_ ?_ | refine bEq ?_ ?_ | refine bNe ?_ ?_) <;> intro hh <;> try (exfalso; omega)) | refine wIn (by omega) ?_ | refine nI (by omega) ?_) <;> conv => whnf))
    all_goals rfl
theorem p127 {C : List AV} (p : Int → Bool) (l : List (Int)) (hl : l.length ≤ 1000000) (hg : ∀ x ∈ l, FnV Try.prog (.fn 148 []) [AV.int .i64 x] (· = .bool (p x))) : FnA Try.prog 127 [.isl (l.map jAV), (.fn 148 [])] (· = .bool (l.all p)) := by
  have hL : (l.map jAV).length = l.length := by simp
  refine fnA 0 ok127 (by simp) ?_
  (conv => whnf); (repeat' ((first | refine bT ?_ | refine bF ?_ | refine bN ?_ | ((first | refine bD ?_ ?_ | refine bEq ?_ ?_ | refine bNe ?_ ?_) <;> intro hh <;> try (exfalso; omega)) | refine wIn (by omega) ?_ | refine nI (by omega) ?_) <;> conv => whnf))
  refine loop_i (α := Nat) (fun k => [(9, .int .i64 k), (8, .int .i64 ↑(l.map jAV).length), (7, .isl (l.map jAV)), (1, (.fn 148 []))]) (fun k => []) (fun k => k ≤ l.length ∧ ∀ b ∈ l.take k, p b = true) (fun k => l.length - k) 0 (meets_id (by (repeat' apply And.intro) <;> first | rfl | exact True.intro | (intro hh; cases hh))) ⟨by omega, by simp⟩ ?_
  rintro k ⟨h1, h2⟩
  conv => whnf
  refine bD (fun h3 => ?_) (fun h3 => ?_)
  · have hk : k < l.length := by omega
    have hv := hg l[k] (List.getElem_mem hk)
    cases hx : p l[k] with
    | true =>
      rw [hx] at hv
      conv => whnf
      refine iaI (by omega) (by omega) (getM jAV l k hk) ?_
      (conv => whnf); (repeat' ((first | refine bT ?_ | refine bF ?_ | refine bN ?_ | ((first | refine bD ?_ ?_ | refine bEq ?_ ?_ | refine bNe ?_ ?_) <;> intro hh <;> try (exfalso; omega)) | (refine hv.vcallq rfl rfl rfl rfl (fun r (hr : r = _) => ?_); subst hr) | refine wIn (by omega) ?_ | refine nI (by omega) ?_) <;> conv => whnf))
      exact ⟨k + 1, (meets_id (by (repeat' apply And.intro) <;> first | rfl | exact True.intro | (intro hh; cases hh))), ⟨by omega, take_all hk h2 hx⟩, by omega⟩
    | false =>
      rw [hx] at hv
      rw [all_not hk hx]
      conv => whnf
      refine iaI (by omega) (by omega) (getM jAV l k hk) ?_
      (conv => whnf); (repeat' ((first | refine bT ?_ | refine bF ?_ | refine bN ?_ | ((first | refine bD ?_ ?_ | refine bEq ?_ ?_ | refine bNe ?_ ?_) <;> intro hh <;> try (exfalso; omega)) | (refine hv.vcallq rfl rfl rfl rfl (fun r (hr : r = _) => ?_); subst hr) | refine wIn (by omega) ?_ | refine nI (by omega) ?_) <;> conv => whnf))
      all_goals rfl
  · have : k = l.length := by omega
    subst this
    rw [List.take_length] at h2
    rw [all_yes h2]
    (conv => whnf); (repeat' ((first | refine bT ?_ | refine bF ?_ | refine bN ?_ | ((first | refine bD ?_ ?_ | refine bEq ?_ ?_ | refine bNe ?_ ?_) <;> intro hh <;> try (exfalso; omega)) | refine wIn (by omega) ?_ | refine nI (by omega) ?_) <;> conv => whnf))
    all_goals rfl
theorem p127s {C : List AV} (p : Int → Bool) (l : List (Int)) (hl : l.length ≤ 1000000) (hg : ∀ x ∈ l, FnV Try.prog (.fn 157 []) [AV.int .i64 x] (· = .bool (p x))) : FnA Try.prog 127 [.isl (l.map jAV), (.fn 157 [])] (· = .bool (l.all p)) := by
  have hL : (l.map jAV).length = l.length := by simp
  refine fnA 0 ok127 (by simp) ?_
  (conv => whnf); (repeat' ((first | refine bT ?_ | refine bF ?_ | refine bN ?_ | ((first | refine bD ?_ ?_ | refine bEq ?_ ?_ | refine bNe ?_ ?_) <;> intro hh <;> try (exfalso; omega)) | refine wIn (by omega) ?_ | refine nI (by omega) ?_) <;> conv => whnf))
  refine loop_i (α := Nat) (fun k => [(9, .int .i64 k), (8, .int .i64 ↑(l.map jAV).length), (7, .isl (l.map jAV)), (1, (.fn 157 []))]) (fun k => []) (fun k => k ≤ l.length ∧ ∀ b ∈ l.take k, p b = true) (fun k => l.length - k) 0 (meets_id (by (repeat' apply And.intro) <;> first | rfl | exact True.intro | (intro hh; cases hh))) ⟨by omega, by simp⟩ ?_
  rintro k ⟨h1, h2⟩
  conv => whnf
  refine bD (fun h3 => ?_) (fun h3 => ?_)
  · have hk : k < l.length := by omega
    have hv := hg l[k] (List.getElem_mem hk)
    cases hx : p l[k] with
    | true =>
      rw [hx] at hv
      conv => whnf
      refine iaI (by omega) (by omega) (getM jAV l k hk) ?_
      (conv => whnf); (repeat' ((first | refine bT ?_ | refine bF ?_ | refine bN ?_ | ((first | refine bD ?_ ?_ | refine bEq ?_ ?_ | refine bNe ?_ ?_) <;> intro hh <;> try (exfalso; omega)) | (refine hv.vcallq rfl rfl rfl rfl (fun r (hr : r = _) => ?_); subst hr) | refine wIn (by omega) ?_ | refine nI (by omega) ?_) <;> conv => whnf))
      exact ⟨k + 1, (meets_id (by (repeat' apply And.intro) <;> first | rfl | exact True.intro | (intro hh; cases hh))), ⟨by omega, take_all hk h2 hx⟩, by omega⟩
    | false =>
      rw [hx] at hv
      rw [all_not hk hx]
      conv => whnf
      refine iaI (by omega) (by omega) (getM jAV l k hk) ?_
      (conv => whnf); (repeat' ((first | refine bT ?_ | refine bF ?_ | refine bN ?_ | ((first | refine bD ?_ ?_ | refine bEq ?_ ?_ | refine bNe ?_ ?_) <;> intro hh <;> try (exfalso; omega)) | (refine hv.vcallq rfl rfl rfl rfl (fun r (hr : r = _) => ?_); subst hr) | refine wIn (by omega) ?_ | refine nI (by omega) ?_) <;> conv => whnf))
      all_goals rfl
  · have : k = l.length := by omega
    subst this
    rw [List.take_length] at h2
    rw [all_yes h2]
    (conv => whnf); (repeat' ((first | refine bT ?_ | refine bF ?_ | refine bN ?_ | ((first | refine bD ?_ ?_ | refine bEq ?_ ?_ | refine bNe ?_ ?_) <;> intro hh <;> try (exfalso; omega)) | refine wIn (by omega) ?_ | refine nI (by omega) ?_) <;> conv => whnf))
    all_goals rfl
def okSl (x : Slot) : Bool := decide (0 ≤ x.k ∧ x.k ≤ 9) && decide (x.ss.length ≤ 4) && x.ss.all (fun n => decide (0 ≤ n ∧ n ≤ 9)) && ascB x.ss && okLen x.lo x.hi
theorem p151 (x : Slot) : FnA Try.prog 151 [.agg x.av] (· = .bool (okSl x)) := by
  have hL : (x.ss.map jAV).length = x.ss.length := by simp
  by_cases hl : x.ss.length ≤ 4
  case neg =>
    have h0 : okSl x = false := by unfold okSl; rw [decide_eq_false hl]; simp
    rw [h0]
    have e1 := p148 x.k
    refine fnA 1 ok151 (by simp) ?_
    (conv => whnf); (repeat' ((first | refine bT ?_ | refine bF ?_ | refine bN ?_ | ((first | refine bD ?_ ?_ | refine bEq ?_ ?_ | refine bNe ?_ ?_) <;> intro hh <;> try (exfalso; omega)) | (refine (e1).callq rfl rfl fun _ h => ?_; subst h) | refine wIn (by omega) ?_ | refine nI (by omega) ?_ | (refine bS ?_ ?_ <;> intro hh)) <;> conv => whnf))
    all_goals first | rfl | (refine congrArg AV.bool ?_; simp [*])
  have e1 := p148 x.k
  have e2 := p127 (C := []) (fun n => decide (0 ≤ n ∧ n ≤ 9)) x.ss (by omega) (fun n _ => fnV_of bd148 (p148 n))
  have e3 := p126 x.ss (by omega)
  have e4 := p149 x.lo x.hi
  have h0 : okSl x = (decide (0 ≤ x.k ∧ x.k ≤ 9) && x.ss.all (fun n => decide (0 ≤ n ∧ n ≤ 9)) && ascB x.ss && okLen x.lo x.hi) := by unfold okSl; rw [decide_eq_true hl]; simp
  rw [h0]
  generalize decide (0 ≤ x.k ∧ x.k ≤ 9) = b1 at *
  generalize x.ss.all (fun n => decide (0 ≤ n ∧ n ≤ 9)) = b2 at *
  generalize ascB x.ss = b3 at *
  refine fnA 1 ok151 (by simp) ?_
  cases b1 <;> cases b2 <;> cases b3
  all_goals
    (conv => whnf); (repeat' ((first | refine bT ?_ | refine bF ?_ | refine bN ?_ | ((first | refine bD ?_ ?_ | refine bEq ?_ ?_ | refine bNe ?_ ?_) <;> intro hh <;> try (exfalso; omega)) | (refine (e1).callq rfl rfl fun _ h => ?_; subst h) | (refine (e2).callq rfl rfl fun _ h => ?_; subst h) | (refine (e3).callq rfl rfl fun _ h => ?_; subst h) | (refine (e4).callq rfl rfl fun _ h => ?_; subst h) | refine wIn (by omega) ?_ | refine nI (by omega) ?_) <;> conv => whnf))
    all_goals rfl
def okMk (m : List Slot) : Bool := decide (m.length ≤ 4) && m.all okSl
theorem p113 (m : List Slot) : FnA Try.prog 113 [.agg (mkAV m)] (· = .bool (okMk m)) := by
  have hL : (m.map Slot.av).length = m.length := by simp
  by_cases hl : m.length ≤ 4
  case neg =>
    have h0 : okMk m = false := by unfold okMk; rw [decide_eq_false hl]; simp
    rw [h0]
    refine fnA 1 ok113 (by simp) ?_
    (conv => whnf); (repeat' ((first | refine bT ?_ | refine bF ?_ | refine bN ?_ | ((first | refine bD ?_ ?_ | refine bEq ?_ ?_ | refine bNe ?_ ?_) <;> intro hh <;> try (exfalso; omega)) | refine wIn (by omega) ?_ | refine nI (by omega) ?_) <;> conv => whnf))
    all_goals rfl
  have e1 := p150 (C := []) okSl m (by omega) (fun x _ => fnV_of bd151 (p151 x))
  have h0 : okMk m = m.all okSl := by unfold okMk; rw [decide_eq_true hl]; simp
  rw [h0]
  refine fnA 1 ok113 (by simp) ?_
  (conv => whnf); (repeat' ((first | refine bT ?_ | refine bF ?_ | refine bN ?_ | ((first | refine bD ?_ ?_ | refine bEq ?_ ?_ | refine bNe ?_ ?_) <;> intro hh <;> try (exfalso; omega)) | (refine (e1).callq rfl rfl fun _ h => ?_; subst h) | refine wIn (by omega) ?_ | refine nI (by omega) ?_) <;> conv => whnf))
  all_goals rfl
def Shop.isSp (w : Shop) (i : Int) : Bool := decide (0 ≤ i ∧ i < w.sps.length)
def Shop.isMk (w : Shop) (m : Int) : Bool := decide (0 ≤ m ∧ m < w.mks.length)
def Shop.slots (w : Shop) (m : Int) : List Slot := w.mks.getD m.toNat []
def Shop.isSl (w : Shop) (m k : Int) : Bool := w.isMk m && decide (0 ≤ k ∧ k < (w.slots m).length)
theorem p70 (w : Shop) (i : Int) (hw : w.sps.length ≤ 1000000) : FnA Try.prog 70 [.agg w.cells, .int .i64 i] (· = .bool (w.isSp i)) := by
  have hL : (w.sps.map Spare.av).length = w.sps.length := by simp
  have e1 := p114 i 0 (↑(w.sps.map Spare.av).length - 1)
  unfold Shop.isSp
  refine fnA 1 ok70 (by simp) ?_
  (conv => whnf); (repeat' ((first | refine bT ?_ | refine bF ?_ | refine bN ?_ | ((first | refine bD ?_ ?_ | refine bEq ?_ ?_ | refine bNe ?_ ?_) <;> intro hh <;> try (exfalso; omega)) | (refine (e1).callq rfl rfl fun _ h => ?_; subst h) | refine wIn (by omega) ?_ | refine nI (by omega) ?_) <;> conv => whnf))
  all_goals first | rfl | exact congrArg AV.bool (decide_eq_decide.2 (by omega)) | exact congrArg AV.bool (decide_eq_true (by omega)).symm | exact congrArg AV.bool (decide_eq_false (by omega)).symm
theorem p77 (w : Shop) (i : Int) (hw : w.mks.length ≤ 1000000) : FnA Try.prog 77 [.agg w.cells, .int .i64 i] (· = .bool (w.isMk i)) := by
  have hL : (w.mks.map mkAV).length = w.mks.length := by simp
  have e1 := p114 i 0 (↑(w.mks.map mkAV).length - 1)
  unfold Shop.isMk
  refine fnA 1 ok77 (by simp) ?_
  (conv => whnf); (repeat' ((first | refine bT ?_ | refine bF ?_ | refine bN ?_ | ((first | refine bD ?_ ?_ | refine bEq ?_ ?_ | refine bNe ?_ ?_) <;> intro hh <;> try (exfalso; omega)) | (refine (e1).callq rfl rfl fun _ h => ?_; subst h) | refine wIn (by omega) ?_ | refine nI (by omega) ?_) <;> conv => whnf))
  all_goals first | rfl | exact congrArg AV.bool (decide_eq_decide.2 (by omega)) | exact congrArg AV.bool (decide_eq_true (by omega)).symm | exact congrArg AV.bool (decide_eq_false (by omega)).symm
theorem isMk_iff {w : Shop} {m : Int} : w.isMk m = true ↔ 0 ≤ m ∧ m < w.mks.length := by unfold Shop.isMk; exact decide_eq_true_iff
theorem mkget {w : Shop} {m : Int} (h : w.isMk m = true) : (w.mks.map mkAV).getD m.toNat [] = [.isl ((w.slots m).map Slot.av)] := by
  have h := isMk_iff.1 h
  have : m.toNat < w.mks.length := by omega
  rw [getM mkAV w.mks _ this]
  unfold Shop.slots; simp [List.getD_eq_getElem?_getD, this, mkAV]
theorem p73 (w : Shop) (m k : Int) (hw : w.mks.length ≤ 1000000) (hm : ∀ x ∈ w.mks, x.length ≤ 1000000) : FnA Try.prog 73 [.agg w.cells, .int .i64 m, .int .i64 k] (· = .bool (w.isSl m k)) := by
  have hL : (w.mks.map mkAV).length = w.mks.length := by simp
  have e1 := p77 w m hw
  unfold Shop.isSl
  refine fnA 1 ok73 (by simp) ?_
  cases h1 : w.isMk m with
  | false =>
    rw [h1] at e1
    (conv => whnf); (repeat' ((first | refine bT ?_ | refine bF ?_ | refine bN ?_ | ((first | refine bD ?_ ?_ | refine bEq ?_ ?_ | refine bNe ?_ ?_) <;> intro hh <;> try (exfalso; omega)) | (refine (e1).callq rfl rfl fun _ h => ?_; subst h) | refine wIn (by omega) ?_ | refine nI (by omega) ?_) <;> conv => whnf))
    all_goals rfl
  | true =>
    rw [h1] at e1
    have h2 := isMk_iff.1 h1
    have hL2 : ((w.slots m).map Slot.av).length = (w.slots m).length := by simp
    have hS : (w.slots m).length ≤ 1000000 := by
      have : m.toNat < w.mks.length := by omega
      have e : w.slots m = w.mks[m.toNat] := by unfold Shop.slots; simp [List.getD_eq_getElem?_getD, this]
      rw [e]; exact hm _ (List.getElem_mem this)
    have e2 := p114 k 0 (↑((w.slots m).map Slot.av).length - 1)
    (conv => whnf); (repeat' ((first | refine bT ?_ | refine bF ?_ | refine bN ?_ | ((first | refine bD ?_ ?_ | refine bEq ?_ ?_ | refine bNe ?_ ?_) <;> intro hh <;> try (exfalso; omega)) | (refine (e1).callq rfl rfl fun _ h => ?_; subst h) | (refine (e2).callq rfl rfl fun _ h => ?_; subst h) | (refine iaI (by omega) (by omega) (mkget h1) ?_) | refine wIn (by omega) ?_ | refine nI (by omega) ?_) <;> conv => whnf))
    all_goals (refine congrArg AV.bool ?_; rw [Bool.true_and]; exact decide_eq_decide.2 (by omega))
def okTr (w : Shop) (t : Trial) : Bool := w.isSp t.sp && w.isSl t.mkr t.sl && decide (0 ≤ t.ft ∧ t.ft ≤ 1)
theorem p116 (w : Shop) (t : Trial) (hs : w.sps.length ≤ 1000000) (hw : w.mks.length ≤ 1000000) (hm : ∀ x ∈ w.mks, x.length ≤ 1000000) : FnA Try.prog 116 [.agg t.av, .ipt w.cells] (· = .bool (okTr w t)) := by
  have e1 := p70 w t.sp hs
  have e2 := p73 w t.mkr t.sl hw hm
  have e3 := p114 t.ft 0 1
  unfold okTr
  generalize w.isSp t.sp = b1 at *
  generalize w.isSl t.mkr t.sl = b2 at *
  refine fnA 1 ok116 (by simp) ?_
  cases b1 <;> cases b2
  all_goals
    (conv => whnf); (repeat' ((first | refine bT ?_ | refine bF ?_ | refine bN ?_ | ((first | refine bD ?_ ?_ | refine bEq ?_ ?_ | refine bNe ?_ ?_) <;> intro hh <;> try (exfalso; omega)) | (refine (e1).callq rfl rfl fun _ h => ?_; subst h) | (refine (e2).callq rfl rfl fun _ h => ?_; subst h) | (refine (e3).callq rfl rfl fun _ h => ?_; subst h) | refine wIn (by omega) ?_ | refine nI (by omega) ?_) <;> conv => whnf))
    all_goals rfl
def okW (w : Shop) : Bool := decide (w.sps.length ≤ 10) && w.sps.all okSp && decide (w.mks.length ≤ 6) && w.mks.all okMk && decide (0 ≤ w.cut ∧ w.cut ≤ 99) && decide (w.tb.length ≤ 30) && w.tb.all (okTr w)
theorem okMk_len {m : List Slot} (h : okMk m = true) : m.length ≤ 4 := by
  unfold okMk at h; rw [Bool.and_eq_true] at h; exact of_decide_eq_true h.1
theorem p66 (w : Shop) : FnA Try.prog 66 [.agg w.cells] (· = .bool (okW w)) := by
  have l1 : (w.sps.map Spare.av).length = w.sps.length := by simp
  have l2 : (w.mks.map mkAV).length = w.mks.length := by simp
  have l3 : (w.tb.map Trial.av).length = w.tb.length := by simp
  by_cases h1 : w.sps.length ≤ 10
  case neg =>
    have h0 : okW w = false := by unfold okW; rw [decide_eq_false h1]; simp
    rw [h0]
    refine fnA 1 ok66 (by simp) ?_
    (conv => whnf); (repeat' ((first | refine bT ?_ | refine bF ?_ | refine bN ?_ | ((first | refine bD ?_ ?_ | refine bEq ?_ ?_ | refine bNe ?_ ?_) <;> intro hh <;> try (exfalso; omega)) | refine wIn (by omega) ?_ | refine nI (by omega) ?_) <;> conv => whnf))
    all_goals rfl
  have e1 := p110 (C := []) okSp w.sps (by omega) (fun x _ => fnV_of bd111 (p111 x))
  cases h2 : w.sps.all okSp with
  | false =>
    have h0 : okW w = false := by unfold okW; rw [h2]; simp
    rw [h0]
    rw [h2] at e1
    refine fnA 1 ok66 (by simp) ?_
    (conv => whnf); (repeat' ((first | refine bT ?_ | refine bF ?_ | refine bN ?_ | ((first | refine bD ?_ ?_ | refine bEq ?_ ?_ | refine bNe ?_ ?_) <;> intro hh <;> try (exfalso; omega)) | (refine (e1).callq rfl rfl fun _ h => ?_; subst h) | refine wIn (by omega) ?_ | refine nI (by omega) ?_) <;> conv => whnf))
    all_goals rfl
  | true =>
  rw [h2] at e1
  by_cases h3 : w.mks.length ≤ 6
  case neg =>
    have h0 : okW w = false := by unfold okW; rw [decide_eq_false h3]; simp
    rw [h0]
    refine fnA 1 ok66 (by simp) ?_
    (conv => whnf); (repeat' ((first | refine bT ?_ | refine bF ?_ | refine bN ?_ | ((first | refine bD ?_ ?_ | refine bEq ?_ ?_ | refine bNe ?_ ?_) <;> intro hh <;> try (exfalso; omega)) | (refine (e1).callq rfl rfl fun _ h => ?_; subst h) | refine wIn (by omega) ?_ | refine nI (by omega) ?_) <;> conv => whnf))
    all_goals rfl
  have e2 := p112 (C := []) okMk w.mks (by omega) (fun x _ => fnV_of bd113 (p113 x))
  cases h4 : w.mks.all okMk with
  | false =>
    have h0 : okW w = false := by unfold okW; rw [h4]; simp
    rw [h0]
    rw [h4] at e2
    refine fnA 1 ok66 (by simp) ?_
    (conv => whnf); (repeat' ((first | refine bT ?_ | refine bF ?_ | refine bN ?_ | ((first | refine bD ?_ ?_ | refine bEq ?_ ?_ | refine bNe ?_ ?_) <;> intro hh <;> try (exfalso; omega)) | (refine (e1).callq rfl rfl fun _ h => ?_; subst h) | (refine (e2).callq rfl rfl fun _ h => ?_; subst h) | refine wIn (by omega) ?_ | refine nI (by omega) ?_) <;> conv => whnf))
    all_goals rfl
  | true =>
  rw [h4] at e2
  have hm : ∀ x ∈ w.mks, x.length ≤ 1000000 := fun x hx => by have := okMk_len (List.all_eq_true.1 h4 x hx); omega
  have e3 := p114 w.cut 0 99
  have e5 : w.tb.length ≤ 30 → FnA Try.prog 115 [.isl (w.tb.map Trial.av), .fn 116 [.ipt w.cells]] (· = .bool (w.tb.all (okTr w))) := fun h => p115 (C := w.cells) (okTr w) w.tb (by omega) (fun x _ => fnV_of bd116 (p116 w x (by omega) (by omega) hm))
  have h0 : okW w = (decide (0 ≤ w.cut ∧ w.cut ≤ 99) && decide (w.tb.length ≤ 30) && w.tb.all (okTr w)) := by unfold okW; rw [decide_eq_true h1, h2, decide_eq_true h3, h4]; simp
  rw [h0]
  cases h5 : decide (0 ≤ w.cut ∧ w.cut ≤ 99) with
  | false =>
    rw [h5] at e3
    refine fnA 1 ok66 (by simp) ?_
    (conv => whnf); (repeat' ((first | refine bT ?_ | refine bF ?_ | refine bN ?_ | ((first | refine bD ?_ ?_ | refine bEq ?_ ?_ | refine bNe ?_ ?_) <;> intro hh <;> try (exfalso; omega)) | (refine (e1).callq rfl rfl fun _ h => ?_; subst h) | (refine (e2).callq rfl rfl fun _ h => ?_; subst h) | (refine (e3).callq rfl rfl fun _ h => ?_; subst h) | refine wIn (by omega) ?_ | refine nI (by omega) ?_) <;> conv => whnf))
    all_goals rfl
  | true =>
  rw [h5] at e3
  by_cases h6 : w.tb.length ≤ 30
  case neg =>
    rw [decide_eq_false h6]
    refine fnA 1 ok66 (by simp) ?_
    (conv => whnf); (repeat' ((first | refine bT ?_ | refine bF ?_ | refine bN ?_ | ((first | refine bD ?_ ?_ | refine bEq ?_ ?_ | refine bNe ?_ ?_) <;> intro hh <;> try (exfalso; omega)) | (refine (e1).callq rfl rfl fun _ h => ?_; subst h) | (refine (e2).callq rfl rfl fun _ h => ?_; subst h) | (refine (e3).callq rfl rfl fun _ h => ?_; subst h) | refine wIn (by omega) ?_ | refine nI (by omega) ?_) <;> conv => whnf))
    all_goals rfl
  have e6 := e5 h6
  rw [decide_eq_true h6]
  refine fnA 1 ok66 (by simp) ?_
  (conv => whnf); (repeat' ((first | refine bT ?_ | refine bF ?_ | refine bN ?_ | ((first | refine bD ?_ ?_ | refine bEq ?_ ?_ | refine bNe ?_ ?_) <;> intro hh <;> try (exfalso; omega)) | (refine (e1).callq rfl rfl fun _ h => ?_; subst h) | (refine (e2).callq rfl rfl fun _ h => ?_; subst h) | (refine (e3).callq rfl rfl fun _ h => ?_; subst h) | (refine (e6).lendq rfl fun _ h => ?_; subst h; refine ⟨rfl, ?_⟩) | refine wIn (by omega) ?_ | refine nI (by omega) ?_) <;> conv => whnf))
  all_goals rfl
theorem p132 (l : List Int) (x : Int) (hl : l.length ≤ 1000000) : FnA Try.prog 132 [.isl (l.map jAV), .int .i64 x] (fun r => ∃ n : Int, r = .int .i64 n ∧ (0 ≤ n ↔ x ∈ l)) := by
  have hL : (l.map jAV).length = l.length := by simp
  refine fnA 0 ok132 (by simp) ?_
  (conv => whnf); (repeat' ((first | refine bT ?_ | refine bF ?_ | refine bN ?_ | ((first | refine bD ?_ ?_ | refine bEq ?_ ?_ | refine bNe ?_ ?_) <;> intro hh <;> try (exfalso; omega)) | refine wIn (by omega) ?_ | refine nI (by omega) ?_) <;> conv => whnf))
  refine loop_i (α := Nat) (fun k => [(8, .int .i64 k), (7, .int .i64 ↑(l.map jAV).length), (1, .int .i64 x), (0, .isl (l.map jAV))]) (fun k => []) (fun k => k ≤ l.length ∧ ∀ b ∈ l.take k, decide (x = b) = false) (fun k => l.length - k) 0 (meets_id (by (repeat' apply And.intro) <;> first | rfl | exact True.intro | (intro hh; cases hh))) ⟨by omega, by simp⟩ ?_
  rintro k ⟨h1, h2⟩
  conv => whnf
  refine bD (fun h3 => ?_) (fun h3 => ?_)
  · have hk : k < l.length := by omega
    by_cases hx : x = l[k]
    · conv => whnf
      refine iaI (by omega) (by omega) (getM jAV l k hk) ?_
      (conv => whnf); (repeat' ((first | refine bT ?_ | refine bF ?_ | refine bN ?_ | ((first | refine bD ?_ ?_ | refine bEq ?_ ?_ | refine bNe ?_ ?_) <;> intro hh <;> try (exfalso; omega)) | refine wIn (by omega) ?_ | refine nI (by omega) ?_) <;> conv => whnf))
      all_goals exact ⟨k, rfl, fun _ => by rw [hx]; exact List.getElem_mem hk, fun _ => by omega⟩
    · conv => whnf
      refine iaI (by omega) (by omega) (getM jAV l k hk) ?_
      (conv => whnf); (repeat' ((first | refine bT ?_ | refine bF ?_ | refine bN ?_ | ((first | refine bD ?_ ?_ | refine bEq ?_ ?_ | refine bNe ?_ ?_) <;> intro hh <;> try (exfalso; omega)) | refine wIn (by omega) ?_ | refine nI (by omega) ?_) <;> conv => whnf))
      exact ⟨k + 1, (meets_id (by (repeat' apply And.intro) <;> first | rfl | exact True.intro | (intro hh; cases hh))), ⟨by omega, take_none hk h2 (decide_eq_false hx)⟩, by omega⟩
  · have : k = l.length := by omega
    subst this
    rw [List.take_length] at h2
    (conv => whnf); (repeat' ((first | refine bT ?_ | refine bF ?_ | refine bN ?_ | ((first | refine bD ?_ ?_ | refine bEq ?_ ?_ | refine bNe ?_ ?_) <;> intro hh <;> try (exfalso; omega)) | refine wIn (by omega) ?_ | refine nI (by omega) ?_) <;> conv => whnf))
    all_goals exact ⟨-1, rfl, fun h => by omega, fun h => by have := h2 x h; simp at this⟩
theorem p89 (l : List Int) (x : Int) (hl : l.length ≤ 1000000) : FnA Try.prog 89 [.isl (l.map jAV), .int .i64 x] (· = .bool (decide (x ∈ l))) := by
  refine fnA 0 ok89 (by simp) ?_
  (conv => whnf); (repeat' ((first | refine bT ?_ | refine bF ?_ | refine bN ?_ | ((first | refine bD ?_ ?_ | refine bEq ?_ ?_ | refine bNe ?_ ?_) <;> intro hh <;> try (exfalso; omega)) | refine wIn (by omega) ?_ | refine nI (by omega) ?_) <;> conv => whnf))
  refine (p132 l x hl).callq rfl rfl (fun r hr => ?_); obtain ⟨n, rfl, hn⟩ := hr
  (conv => whnf); (repeat' ((first | refine bT ?_ | refine bF ?_ | refine bN ?_ | ((first | refine bD ?_ ?_ | refine bEq ?_ ?_ | refine bNe ?_ ?_) <;> intro hh <;> try (exfalso; omega)) | refine wIn (by omega) ?_ | refine nI (by omega) ?_) <;> conv => whnf))
  all_goals exact congrArg AV.bool (decide_eq_decide.2 hn)
def trEq (x y : Trial) : Bool := x.sp == y.sp && (x.mkr == y.mkr && (x.sl == y.sl && (x.ft == y.ft && true)))
theorem trEq_iff {x y : Trial} : trEq x y = true ↔ x = y := by
  cases x; cases y; simp [trEq]
theorem p153 (l : List Trial) (x : Trial) (hl : l.length ≤ 1000000) : FnA Try.prog 153 [.isl (l.map Trial.av), .agg x.av] (fun r => ∃ n : Int, r = .int .i64 n ∧ (0 ≤ n ↔ x ∈ l)) := by
  have hL : (l.map Trial.av).length = l.length := by simp
  refine fnA 1 ok153 (by simp) ?_
  (conv => whnf); (repeat' ((first | refine bT ?_ | refine bF ?_ | refine bN ?_ | ((first | refine bD ?_ ?_ | refine bEq ?_ ?_ | refine bNe ?_ ?_) <;> intro hh <;> try (exfalso; omega)) | refine wIn (by omega) ?_ | refine nI (by omega) ?_) <;> conv => whnf))
  refine loop_i (α := Nat) (fun k => [(8, .int .i64 k), (7, .int .i64 ↑(l.map Trial.av).length), (3, .own 0 0), (0, .isl (l.map Trial.av))]) (fun k => [.box false x.av]) (fun k => k ≤ l.length ∧ ∀ b ∈ l.take k, trEq x b = false) (fun k => l.length - k) 0 (meets_id (by (repeat' apply And.intro) <;> first | rfl | exact True.intro | (intro hh; cases hh))) ⟨by omega, by simp⟩ ?_
  rintro k ⟨h1, h2⟩
  conv => whnf
  refine bD (fun h3 => ?_) (fun h3 => ?_)
  · have hk : k < l.length := by omega
    conv => whnf
    refine iaI (by omega) (by omega) (getM Trial.av l k hk) ?_
    conv => whnf
    refine bS (fun hx => ?_) (fun hx => ?_)
    · have hx : trEq x l[k] = true := hx
      (conv => whnf); (repeat' ((first | refine bT ?_ | refine bF ?_ | refine bN ?_ | ((first | refine bD ?_ ?_ | refine bEq ?_ ?_ | refine bNe ?_ ?_) <;> intro hh <;> try (exfalso; omega)) | refine wIn (by omega) ?_ | refine nI (by omega) ?_) <;> conv => whnf))
      all_goals exact ⟨k, rfl, fun _ => by rw [trEq_iff.1 hx]; exact List.getElem_mem hk, fun _ => by omega⟩
    · have hx : trEq x l[k] = false := hx
      (conv => whnf); (repeat' ((first | refine bT ?_ | refine bF ?_ | refine bN ?_ | ((first | refine bD ?_ ?_ | refine bEq ?_ ?_ | refine bNe ?_ ?_) <;> intro hh <;> try (exfalso; omega)) | refine wIn (by omega) ?_ | refine nI (by omega) ?_) <;> conv => whnf))
      exact ⟨k + 1, (meets_id (by (repeat' apply And.intro) <;> first | rfl | exact True.intro | (intro hh; cases hh))), ⟨by omega, take_none hk h2 hx⟩, by omega⟩
  · have : k = l.length := by omega
    subst this
    rw [List.take_length] at h2
    (conv => whnf); (repeat' ((first | refine bT ?_ | refine bF ?_ | refine bN ?_ | ((first | refine bD ?_ ?_ | refine bEq ?_ ?_ | refine bNe ?_ ?_) <;> intro hh <;> try (exfalso; omega)) | refine wIn (by omega) ?_ | refine nI (by omega) ?_) <;> conv => whnf))
    all_goals exact ⟨-1, rfl, fun h => by omega, fun h => by have := h2 x h; rw [trEq_iff.2 rfl] at this; cases this⟩
theorem p119 (l : List Trial) (x : Trial) (hl : l.length ≤ 1000000) : FnA Try.prog 119 [.isl (l.map Trial.av), .agg x.av] (· = .bool (decide (x ∈ l))) := by
  refine fnA 1 ok119 (by simp) ?_
  (conv => whnf); (repeat' ((first | refine bT ?_ | refine bF ?_ | refine bN ?_ | ((first | refine bD ?_ ?_ | refine bEq ?_ ?_ | refine bNe ?_ ?_) <;> intro hh <;> try (exfalso; omega)) | refine wIn (by omega) ?_ | refine nI (by omega) ?_) <;> conv => whnf))
  refine (p153 l x hl).callq rfl rfl (fun r hr => ?_); obtain ⟨n, rfl, hn⟩ := hr
  (conv => whnf); (repeat' ((first | refine bT ?_ | refine bF ?_ | refine bN ?_ | ((first | refine bD ?_ ?_ | refine bEq ?_ ?_ | refine bNe ?_ ?_) <;> intro hh <;> try (exfalso; omega)) | refine wIn (by omega) ?_ | refine nI (by omega) ?_) <;> conv => whnf))
  all_goals exact congrArg AV.bool (decide_eq_decide.2 hn)
def Trial.neg (t : Trial) : Trial := ⟨t.sp, t.mkr, t.sl, 1 - t.ft⟩
theorem p118 (l : List Trial) (x : Trial) (hl : l.length ≤ 1000000) (hf : 0 ≤ x.ft ∧ x.ft ≤ 1) : FnA Try.prog 118 [.agg x.av, .ipt [.isl (l.map Trial.av)]] (· = .bool (decide (x.neg ∈ l))) := by
  have e1 := p119 l x.neg hl
  refine fnA 1 ok118 (by simp) ?_
  (conv => whnf); (repeat' ((first | refine bT ?_ | refine bF ?_ | refine bN ?_ | ((first | refine bD ?_ ?_ | refine bEq ?_ ?_ | refine bNe ?_ ?_) <;> intro hh <;> try (exfalso; omega)) | (refine (e1).callq rfl rfl fun _ h => ?_; subst h) | refine wIn (by omega) ?_ | refine nI (by omega) ?_) <;> conv => whnf))
  all_goals rfl
theorem p152 (C : List AV) (p : Trial → Bool) (l : List Trial) (hl : l.length ≤ 1000000) (hg : ∀ x ∈ l, FnV Try.prog (.fn 118 [.ipt C]) [.agg x.av] (· = .bool (p x))) : FnA Try.prog 152 [.isl (l.map Trial.av), .fn 118 [.ipt C]] (fun r => ∃ n : Int, r = .int .i64 n ∧ (0 ≤ n ↔ l.any p = true)) := by
  have hL : (l.map Trial.av).length = l.length := by simp
  refine fnA 0 ok152 (by simp) ?_
  (conv => whnf); (repeat' ((first | refine bT ?_ | refine bF ?_ | refine bN ?_ | ((first | refine bD ?_ ?_ | refine bEq ?_ ?_ | refine bNe ?_ ?_) <;> intro hh <;> try (exfalso; omega)) | refine wIn (by omega) ?_ | refine nI (by omega) ?_) <;> conv => whnf))
  refine loop_i (α := Nat) (fun k => [(8, .int .i64 k), (7, .int .i64 ↑(l.map Trial.av).length), (1, .fn 118 [.ipt C]), (0, .isl (l.map Trial.av))]) (fun k => []) (fun k => k ≤ l.length ∧ ∀ b ∈ l.take k, p b = false) (fun k => l.length - k) 0 (meets_id (by (repeat' apply And.intro) <;> first | rfl | exact True.intro | (intro hh; cases hh))) ⟨by omega, by simp⟩ ?_
  rintro k ⟨h1, h2⟩
  conv => whnf
  refine bD (fun h3 => ?_) (fun h3 => ?_)
  · have hk : k < l.length := by omega
    have hv := hg l[k] (List.getElem_mem hk)
    cases hx : p l[k] with
    | true =>
      rw [hx] at hv
      conv => whnf
      refine iaI (by omega) (by omega) (getM Trial.av l k hk) ?_
      (conv => whnf); (repeat' ((first | refine bT ?_ | refine bF ?_ | refine bN ?_ | ((first | refine bD ?_ ?_ | refine bEq ?_ ?_ | refine bNe ?_ ?_) <;> intro hh <;> try (exfalso; omega)) | (refine hv.vcallq rfl rfl rfl rfl (fun r (hr : r = _) => ?_); subst hr) | refine wIn (by omega) ?_ | refine nI (by omega) ?_) <;> conv => whnf))
      all_goals exact ⟨k, rfl, fun _ => any_yes hk hx, fun _ => by omega⟩
    | false =>
      rw [hx] at hv
      conv => whnf
      refine iaI (by omega) (by omega) (getM Trial.av l k hk) ?_
      (conv => whnf); (repeat' ((first | refine bT ?_ | refine bF ?_ | refine bN ?_ | ((first | refine bD ?_ ?_ | refine bEq ?_ ?_ | refine bNe ?_ ?_) <;> intro hh <;> try (exfalso; omega)) | (refine hv.vcallq rfl rfl rfl rfl (fun r (hr : r = _) => ?_); subst hr) | refine wIn (by omega) ?_ | refine nI (by omega) ?_) <;> conv => whnf))
      exact ⟨k + 1, (meets_id (by (repeat' apply And.intro) <;> first | rfl | exact True.intro | (intro hh; cases hh))), ⟨by omega, take_none hk h2 hx⟩, by omega⟩
  · have : k = l.length := by omega
    subst this
    rw [List.take_length] at h2
    (conv => whnf); (repeat' ((first | refine bT ?_ | refine bF ?_ | refine bN ?_ | ((first | refine bD ?_ ?_ | refine bEq ?_ ?_ | refine bNe ?_ ?_) <;> intro hh <;> try (exfalso; omega)) | refine wIn (by omega) ?_ | refine nI (by omega) ?_) <;> conv => whnf))
    all_goals exact ⟨-1, rfl, fun h => by omega, fun h => by rw [any_no h2] at h; cases h⟩
def clash (l : List Trial) : Bool := l.any fun t => decide (t.neg ∈ l)
theorem p117 (l : List Trial) (hl : l.length ≤ 1000000) (hf : ∀ x ∈ l, 0 ≤ x.ft ∧ x.ft ≤ 1) : FnA Try.prog 117 [.isl (l.map Trial.av), .fn 118 [.ipt [.isl (l.map Trial.av)]]] (· = .bool (clash l)) := by
  unfold clash
  refine fnA 0 ok117 (by simp) ?_
  (conv => whnf); (repeat' ((first | refine bT ?_ | refine bF ?_ | refine bN ?_ | ((first | refine bD ?_ ?_ | refine bEq ?_ ?_ | refine bNe ?_ ?_) <;> intro hh <;> try (exfalso; omega)) | refine wIn (by omega) ?_ | refine nI (by omega) ?_) <;> conv => whnf))
  refine (p152 [.isl (l.map Trial.av)] (fun t => decide (t.neg ∈ l)) l hl (fun x hx => fnV_of bd118 (p118 l x hl (hf x hx)))).callq rfl rfl (fun r hr => ?_); obtain ⟨n, rfl, hn⟩ := hr
  (conv => whnf); (repeat' ((first | refine bT ?_ | refine bF ?_ | refine bN ?_ | ((first | refine bD ?_ ?_ | refine bEq ?_ ?_ | refine bNe ?_ ?_) <;> intro hh <;> try (exfalso; omega)) | refine wIn (by omega) ?_ | refine nI (by omega) ?_) <;> conv => whnf))
  all_goals (refine congrArg AV.bool ?_; cases hp : l.any (fun t => decide (t.neg ∈ l)) <;> simp [hp] at hn ⊢ <;> omega)
theorem p67 (l : List Trial) (hl : l.length ≤ 1000000) (hf : ∀ x ∈ l, 0 ≤ x.ft ∧ x.ft ≤ 1) : FnA Try.prog 67 [.isl (l.map Trial.av)] (· = .bool (clash l)) := by
  have e1 := p117 l hl hf
  refine fnA 1 ok67 (by simp) ?_
  (conv => whnf); (repeat' ((first | refine bT ?_ | refine bF ?_ | refine bN ?_ | ((first | refine bD ?_ ?_ | refine bEq ?_ ?_ | refine bNe ?_ ?_) <;> intro hh <;> try (exfalso; omega)) | (refine (e1).lendq rfl fun _ h => ?_; subst h; refine ⟨rfl, ?_⟩) | refine wIn (by omega) ?_ | refine nI (by omega) ?_) <;> conv => whnf))
  all_goals rfl
structure Ok (w : Shop) : Prop where
  s1 : w.sps.length ≤ 10
  s2 : ∀ x ∈ w.sps, (0 ≤ x.k ∧ x.k ≤ 9) ∧ (0 ≤ x.s ∧ x.s ≤ 9) ∧ 0 ≤ x.lo ∧ x.lo ≤ x.hi ∧ x.hi ≤ 999
  m1 : w.mks.length ≤ 6
  m2 : ∀ m ∈ w.mks, m.length ≤ 4 ∧ ∀ x ∈ m, (0 ≤ x.k ∧ x.k ≤ 9) ∧ x.ss.length ≤ 4 ∧ (∀ n ∈ x.ss, 0 ≤ n ∧ n ≤ 9) ∧ 0 ≤ x.lo ∧ x.lo ≤ x.hi ∧ x.hi ≤ 999
  c : 0 ≤ w.cut ∧ w.cut ≤ 99
  t1 : w.tb.length ≤ 30
  t2 : ∀ t ∈ w.tb, w.isSp t.sp = true ∧ w.isSl t.mkr t.sl = true ∧ 0 ≤ t.ft ∧ t.ft ≤ 1
theorem okW_ok {w : Shop} (h : okW w = true) : Ok w := by
  unfold okW at h
  simp only [Bool.and_eq_true, List.all_eq_true, decide_eq_true_eq] at h
  obtain ⟨⟨⟨⟨⟨⟨h1, h2⟩, h3⟩, h4⟩, h5⟩, h6⟩, h7⟩ := h
  refine ⟨h1, fun x hx => ?_, h3, fun m hm => ?_, h5, h6, fun t ht => ?_⟩
  · have := h2 x hx
    simp only [okSp, Bool.and_eq_true, decide_eq_true_eq] at this
    exact ⟨this.1.1, this.1.2, okLen_iff.1 this.2⟩
  · have := h4 m hm
    simp only [okMk, Bool.and_eq_true, decide_eq_true_eq, List.all_eq_true] at this
    refine ⟨this.1, fun x hx => ?_⟩
    have := this.2 x hx
    simp only [okSl, Bool.and_eq_true, decide_eq_true_eq, List.all_eq_true] at this
    obtain ⟨⟨⟨⟨a, b⟩, c⟩, d⟩, e⟩ := this
    exact ⟨a, b, c, okLen_iff.1 e⟩
  · have := h7 t ht
    simp only [okTr, Bool.and_eq_true, decide_eq_true_eq] at this
    exact ⟨this.1.1, this.1.2, this.2⟩
def Shop.chk (w : Shop) : Int := if okW w = true then (if clash w.tb = true then 71 else 0) else 70
theorem p17 (w : Shop) : FnA Try.prog 17 [.agg w.cells] (· = .int .i64 w.chk) := by
  have e1 := p66 w
  unfold Shop.chk
  cases h : okW w with
  | false =>
    rw [h] at e1
    refine fnA 1 ok17 (by simp) ?_
    (conv => whnf); (repeat' ((first | refine bT ?_ | refine bF ?_ | refine bN ?_ | ((first | refine bD ?_ ?_ | refine bEq ?_ ?_ | refine bNe ?_ ?_) <;> intro hh <;> try (exfalso; omega)) | (refine (e1).callq rfl rfl fun _ h => ?_; subst h) | refine wIn (by omega) ?_ | refine nI (by omega) ?_) <;> conv => whnf))
    all_goals rfl
  | true =>
    rw [h] at e1
    have hk := okW_ok h
    have e2 := p67 w.tb (by have := hk.t1; omega) (fun x hx => (hk.t2 x hx).2.2)
    cases h2 : clash w.tb with
    | false =>
      rw [h2] at e2
      refine fnA 1 ok17 (by simp) ?_
      (conv => whnf); (repeat' ((first | refine bT ?_ | refine bF ?_ | refine bN ?_ | ((first | refine bD ?_ ?_ | refine bEq ?_ ?_ | refine bNe ?_ ?_) <;> intro hh <;> try (exfalso; omega)) | (refine (e1).callq rfl rfl fun _ h => ?_; subst h) | (refine (e2).callq rfl rfl fun _ h => ?_; subst h) | refine wIn (by omega) ?_ | refine nI (by omega) ?_) <;> conv => whnf))
      all_goals rfl
    | true =>
      rw [h2] at e2
      refine fnA 1 ok17 (by simp) ?_
      (conv => whnf); (repeat' ((first | refine bT ?_ | refine bF ?_ | refine bN ?_ | ((first | refine bD ?_ ?_ | refine bEq ?_ ?_ | refine bNe ?_ ?_) <;> intro hh <;> try (exfalso; omega)) | (refine (e1).callq rfl rfl fun _ h => ?_; subst h) | (refine (e2).callq rfl rfl fun _ h => ?_; subst h) | refine wIn (by omega) ?_ | refine nI (by omega) ?_) <;> conv => whnf))
      all_goals rfl
/-- a row that comes back, told under a new name -/
theorem FnW.second {P : Program} {f : FuncId} {args : List AV} {i0 : Res} {el : TypeId} {sz : Nat} {es : List (List AV)} (h : FnW P f args [i0] (fun r outs => r = .row 0 ∧ outs = [.row false el sz es])) : FnW P f args [i0] (fun r outs => r = .row 1 ∧ outs = [.dead, .row false el sz es]) := by
  unfold FnW at h ⊢
  intro imm T w os vs h1 h2 h3 h4
  refine (h imm T w os vs h1 h2 h3 h4).mono fun e w' hh => ?_
  obtain ⟨v, r, outs, imm', T', os', q1, ⟨rfl, rfl⟩, q3, q4, q5, q6, q7, q8, q9, q10⟩ := hh
  have hn : ∀ j, os' (j + 1) = none := fun j => by
    have := q4.sg (j + 1)
    simpa [ResOk] using this
  have h0 := q4.sg 0
  refine ⟨v, .row 1, _, imm', T', fun i => if i = 0 then os' 0 else if i = 1 then os' 0 else none, q1, ⟨rfl, rfl⟩, ?_, ⟨fun i => ?_, fun i j b hi hj => ?_⟩, fun i o ho => ?_, q6, q7, q8, q9, q10⟩
  · simp only [RV] at q3 ⊢
    obtain ⟨o, k1, k2⟩ := q3
    exact ⟨o, by simpa using k1, k2⟩
  · match i with
    | 0 =>
      simp only [List.getD_cons_zero, ResOk, if_true] at h0 ⊢
      intro x hx
      obtain ⟨b, v', xs, k1, k2, _⟩ := h0
      rw [k1] at hx; cases hx
      rcases k2.2 with ⟨rfl, _⟩ | ⟨_, _, _, rfl, _⟩ <;> rfl
    | 1 =>
      simp only [List.getD_cons_zero, ResOk] at h0
      simp only [List.getD_cons_succ, List.getD_cons_zero, ResOk]
      simpa using h0
    | j + 2 => simp [ResOk]
  · match i, j with
    | 0, _ => simp [Res.blk] at hi
    | _, 0 => simp [Res.blk] at hj
    | 1, 1 => rfl
    | i + 2, _ => simp [Res.blk] at hi
    | _, j + 2 => simp [Res.blk] at hj
  · match i with
    | 0 => simpa using q5 0 o ho
    | j + 1 =>
      have := q5 (j + 1) o ho
      rw [hn j] at this; cases this
def spAV (p : Int × Int) : List AV := [.int .i64 p.1, .int .i64 p.2]
def addSp (L : List (Int × Int)) (p : Int × Int) : List (Int × Int) := if p.2 < p.1 then L else L ++ [p]
theorem addSp_len (L : List (Int × Int)) (p : Int × Int) : (addSp L p).length ≤ L.length + 1 := by
  unfold addSp; split <;> simp
theorem w154 (lo hi : Int) (L : List (Int × Int)) (hl : L.length ≤ 1000000) : FnW Try.prog 154 [.row 0, .agg [.int .i64 lo, .int .i64 hi]] [.row false 35 2 (L.map spAV)] (fun r outs => r = .row 1 ∧ outs = [.dead, .row false 35 2 ((addSp L (lo, hi)).map spAV)]) := by
  have hL : (L.map spAV).length = L.length := by simp
  by_cases h : hi < lo
  · refine FnW.second ?_
    have e : addSp L (lo, hi) = L := by unfold addSp; exact if_pos h
    rw [e]
    refine fnW 3 [] ok154 (by simp) rfl rfl ?_
    (conv => whnf); (repeat' ((first | refine bT ?_ | refine bF ?_ | refine bN ?_ | ((first | refine bD ?_ ?_ | refine bEq ?_ ?_ | refine bNe ?_ ?_) <;> intro hh <;> try (exfalso; omega)) | refine wIn (by omega) ?_ | refine nI (by omega) ?_) <;> conv => whnf))
    all_goals exact ⟨rfl, rfl⟩
  · have e : (addSp L (lo, hi)).map spAV = L.map spAV ++ [[.int .i64 lo, .int .i64 hi]] := by unfold addSp; rw [if_neg h]; simp [spAV]
    rw [e]
    refine fnW 3 [2] ok154 (by simp) rfl rfl ?_
    (conv => whnf); (repeat' ((first | refine bT ?_ | refine bF ?_ | refine bN ?_ | ((first | refine bD ?_ ?_ | refine bEq ?_ ?_ | refine bNe ?_ ?_) <;> intro hh <;> try (exfalso; omega)) | (refine apI (by simp [AV.one]) (by simp; omega) ?_) | refine wIn (by omega) ?_ | refine nI (by omega) ?_) <;> conv => whnf))
    all_goals exact ⟨rfl, rfl⟩
/-- the parts of lengths that are in a span, and those that are not -/
def inS (by_ : Int × Int) (L : List (Int × Int)) (p : Int × Int) : List (Int × Int) := addSp L (max p.1 by_.1, min p.2 by_.2)
def outS (by_ : Int × Int) (L : List (Int × Int)) (p : Int × Int) : List (Int × Int) := addSp (addSp L (p.1, min p.2 (by_.1 - 1))) (max p.1 (by_.2 + 1), p.2)
def splI (by_ : Int × Int) (L : List (Int × Int)) : List (Int × Int) := L.foldl (inS by_) []
def splO (by_ : Int × Int) (L : List (Int × Int)) : List (Int × Int) := L.foldl (outS by_) []
theorem splI_succ {by_ : Int × Int} {L : List (Int × Int)} {k : Nat} (hk : k < L.length) : splI by_ (L.take (k + 1)) = inS by_ (splI by_ (L.take k)) L[k] := by
  unfold splI; rw [List.take_succ_eq_append_getElem hk, List.foldl_append]; rfl
theorem splO_succ {by_ : Int × Int} {L : List (Int × Int)} {k : Nat} (hk : k < L.length) : splO by_ (L.take (k + 1)) = outS by_ (splO by_ (L.take k)) L[k] := by
  unfold splO; rw [List.take_succ_eq_append_getElem hk, List.foldl_append]; rfl
theorem splI_len {by_ : Int × Int} : ∀ {L : List (Int × Int)} {k : Nat}, k ≤ L.length → (splI by_ (L.take k)).length ≤ k
  | L, 0, _ => by simp [splI]
  | L, k + 1, h => by
    rw [splI_succ h]
    have := splI_len (by_ := by_) (L := L) (k := k) (by omega)
    have := addSp_len (splI by_ (L.take k)) (max (L[k]).1 by_.1, min (L[k]).2 by_.2)
    unfold inS; omega
theorem splO_len {by_ : Int × Int} : ∀ {L : List (Int × Int)} {k : Nat}, k ≤ L.length → (splO by_ (L.take k)).length ≤ 2 * k
  | L, 0, _ => by simp [splO]
  | L, k + 1, h => by
    rw [splO_succ h]
    have := splO_len (by_ := by_) (L := L) (k := k) (by omega)
    have h1 := addSp_len (splO by_ (L.take k)) ((L[k]).1, min (L[k]).2 (by_.1 - 1))
    have h2 := addSp_len (addSp (splO by_ (L.take k)) ((L[k]).1, min (L[k]).2 (by_.1 - 1))) (max (L[k]).1 (by_.2 + 1), (L[k]).2)
    unfold outS; omega
theorem p123 (L : List (Int × Int)) (b : Int × Int) (hl : L.length ≤ 100000) (hb : -1000000 ≤ b.1 ∧ b.1 ≤ 1000000 ∧ -1000000 ≤ b.2 ∧ b.2 ≤ 1000000) : FnA Try.prog 123 [.isl (L.map spAV), .agg [.int .i64 b.1, .int .i64 b.2]] (· = .tup [.isl ((splI b L).map spAV), .isl ((splO b L).map spAV)]) := by
  have hL : (L.map spAV).length = L.length := by simp
  refine fnA 7 ok123 (by simp) ?_
  (conv => whnf); (repeat' ((first | refine bT ?_ | refine bF ?_ | refine bN ?_ | ((first | refine bD ?_ ?_ | refine bEq ?_ ?_ | refine bNe ?_ ?_) <;> intro hh <;> try (exfalso; omega)) | refine wIn (by omega) ?_ | refine nI (by omega) ?_) <;> conv => whnf))
  refine loop_i (α := Nat) (fun k => [(10, .int .i64 k), (9, .int .i64 ↑(L.map spAV).length), (8, .isl (L.map spAV)), (5, .row 6), (4, .row 5), (3, .own 0 0)]) (fun k => [.box false [.int .i64 b.1, .int .i64 b.2], .fresh, .fresh, .fresh, .fresh, .row false 35 2 ((splI b (L.take k)).map spAV), .row false 35 2 ((splO b (L.take k)).map spAV)]) (fun k => k ≤ L.length) (fun k => L.length - k) 0 (meets_as [(5, none), (6, none)] (by (repeat' apply And.intro) <;> first | rfl | exact True.intro | (intro hh; cases hh))) (by omega) ?_
  intro k hk0
  conv => whnf
  refine bD (fun h3 => ?_) (fun h3 => ?_)
  · have hk : k < L.length := by omega
    have l1 := splI_len (by_ := b) (L := L) (k := k) (by omega)
    have l2 := splO_len (by_ := b) (L := L) (k := k) (by omega)
    have l3 := addSp_len (splO b (L.take k)) ((L[k]).1, min (L[k]).2 (b.1 - 1))
    have e1 := w154 (max (L[k]).1 b.1) (min (L[k]).2 b.2) (splI b (L.take k)) (by omega)
    have e2 := w154 (L[k]).1 (min (L[k]).2 (b.1 - 1)) (splO b (L.take k)) (by omega)
    have e3 := w154 (max (L[k]).1 (b.2 + 1)) (L[k]).2 (addSp (splO b (L.take k)) ((L[k]).1, min (L[k]).2 (b.1 - 1))) (by omega)
    conv => whnf
    refine iaI (by omega) (by omega) (getM spAV L k hk) ?_
    (conv => whnf); (repeat' ((first | refine bT ?_ | refine bF ?_ | refine bN ?_ | ((first | refine bD ?_ ?_ | refine bEq ?_ ?_ | refine bNe ?_ ?_) <;> intro hh <;> try (exfalso; omega)) | refine wIn (by omega) ?_ | refine nI (by omega) ?_) <;> conv => whnf))
    refine e1.callwq [5] rfl rfl ⟨rfl, trivial⟩ rfl rfl rfl rfl (fun r outs hr => ?_)
    obtain ⟨hr1, ho⟩ := hr; subst hr1; subst ho; refine ⟨⟨rfl, rfl, rfl, rfl⟩, ?_⟩
    (conv => whnf); (repeat' ((first | refine bT ?_ | refine bF ?_ | refine bN ?_ | ((first | refine bD ?_ ?_ | refine bEq ?_ ?_ | refine bNe ?_ ?_) <;> intro hh <;> try (exfalso; omega)) | refine wIn (by omega) ?_ | refine nI (by omega) ?_) <;> conv => whnf))
    refine e2.callwq [6] rfl rfl ⟨rfl, trivial⟩ rfl rfl rfl rfl (fun r outs hr => ?_)
    obtain ⟨hr1, ho⟩ := hr; subst hr1; subst ho; refine ⟨⟨rfl, rfl, rfl, rfl⟩, ?_⟩
    (conv => whnf); (repeat' ((first | refine bT ?_ | refine bF ?_ | refine bN ?_ | ((first | refine bD ?_ ?_ | refine bEq ?_ ?_ | refine bNe ?_ ?_) <;> intro hh <;> try (exfalso; omega)) | refine wIn (by omega) ?_ | refine nI (by omega) ?_) <;> conv => whnf))
    refine e3.callwq [3] rfl rfl ⟨rfl, trivial⟩ rfl rfl rfl rfl (fun r outs hr => ?_)
    obtain ⟨hr1, ho⟩ := hr; subst hr1; subst ho; refine ⟨⟨rfl, rfl, rfl, rfl⟩, ?_⟩
    (conv => whnf); (repeat' ((first | refine bT ?_ | refine bF ?_ | refine bN ?_ | ((first | refine bD ?_ ?_ | refine bEq ?_ ?_ | refine bNe ?_ ?_) <;> intro hh <;> try (exfalso; omega)) | refine wIn (by omega) ?_ | refine nI (by omega) ?_) <;> conv => whnf))
    refine ⟨k + 1, ?_, by omega, by omega⟩
    rw [splI_succ hk, splO_succ hk]
    exact (meets_as [(5, some 2), (6, some 4)] (by (repeat' apply And.intro) <;> first | rfl | exact True.intro | (intro hh; cases hh)))
  · have : k = L.length := by omega
    subst this
    rw [List.take_length]
    (conv => whnf); (repeat' ((first | refine bT ?_ | refine bF ?_ | refine bN ?_ | ((first | refine bD ?_ ?_ | refine bEq ?_ ?_ | refine bNe ?_ ?_) <;> intro hh <;> try (exfalso; omega)) | refine wIn (by omega) ?_ | refine nI (by omega) ?_) <;> conv => whnf))
    all_goals rfl
theorem p123o (L : List (Int × Int)) (b : Int × Int) (hl : L.length ≤ 100000) (hb : -1000000 ≤ b.1 ∧ b.1 ≤ 1000000 ∧ -1000000 ≤ b.2 ∧ b.2 ≤ 1000000) : FnO Try.prog 123 [.isl (L.map spAV), .agg [.int .i64 b.1, .int .i64 b.2]] (fun r rows => r = .tup [.row 5, .row 6] ∧ rows = [(5, .row false 35 2 ((splI b L).map spAV)), (6, .row false 35 2 ((splO b L).map spAV))]) := by
  have hL : (L.map spAV).length = L.length := by simp
  refine fnO 7 ok123 (by simp) ?_
  (conv => whnf); (repeat' ((first | refine bT ?_ | refine bF ?_ | refine bN ?_ | ((first | refine bD ?_ ?_ | refine bEq ?_ ?_ | refine bNe ?_ ?_) <;> intro hh <;> try (exfalso; omega)) | refine wIn (by omega) ?_ | refine nI (by omega) ?_) <;> conv => whnf))
  refine loop_i (α := Nat) (fun k => [(10, .int .i64 k), (9, .int .i64 ↑(L.map spAV).length), (8, .isl (L.map spAV)), (5, .row 6), (4, .row 5), (3, .own 0 0)]) (fun k => [.box false [.int .i64 b.1, .int .i64 b.2], .fresh, .fresh, .fresh, .fresh, .row false 35 2 ((splI b (L.take k)).map spAV), .row false 35 2 ((splO b (L.take k)).map spAV)]) (fun k => k ≤ L.length) (fun k => L.length - k) 0 (meets_as [(5, none), (6, none)] (by (repeat' apply And.intro) <;> first | rfl | exact True.intro | (intro hh; cases hh))) (by omega) ?_
  intro k hk0
  conv => whnf
  refine bD (fun h3 => ?_) (fun h3 => ?_)
  · have hk : k < L.length := by omega
    have l1 := splI_len (by_ := b) (L := L) (k := k) (by omega)
    have l2 := splO_len (by_ := b) (L := L) (k := k) (by omega)
    have l3 := addSp_len (splO b (L.take k)) ((L[k]).1, min (L[k]).2 (b.1 - 1))
    have e1 := w154 (max (L[k]).1 b.1) (min (L[k]).2 b.2) (splI b (L.take k)) (by omega)
    have e2 := w154 (L[k]).1 (min (L[k]).2 (b.1 - 1)) (splO b (L.take k)) (by omega)
    have e3 := w154 (max (L[k]).1 (b.2 + 1)) (L[k]).2 (addSp (splO b (L.take k)) ((L[k]).1, min (L[k]).2 (b.1 - 1))) (by omega)
    conv => whnf
    refine iaI (by omega) (by omega) (getM spAV L k hk) ?_
    (conv => whnf); (repeat' ((first | refine bT ?_ | refine bF ?_ | refine bN ?_ | ((first | refine bD ?_ ?_ | refine bEq ?_ ?_ | refine bNe ?_ ?_) <;> intro hh <;> try (exfalso; omega)) | refine wIn (by omega) ?_ | refine nI (by omega) ?_) <;> conv => whnf))
    refine e1.callwq [5] rfl rfl ⟨rfl, trivial⟩ rfl rfl rfl rfl (fun r outs hr => ?_)
    obtain ⟨hr1, ho⟩ := hr; subst hr1; subst ho; refine ⟨⟨rfl, rfl, rfl, rfl⟩, ?_⟩
    (conv => whnf); (repeat' ((first | refine bT ?_ | refine bF ?_ | refine bN ?_ | ((first | refine bD ?_ ?_ | refine bEq ?_ ?_ | refine bNe ?_ ?_) <;> intro hh <;> try (exfalso; omega)) | refine wIn (by omega) ?_ | refine nI (by omega) ?_) <;> conv => whnf))
    refine e2.callwq [6] rfl rfl ⟨rfl, trivial⟩ rfl rfl rfl rfl (fun r outs hr => ?_)
    obtain ⟨hr1, ho⟩ := hr; subst hr1; subst ho; refine ⟨⟨rfl, rfl, rfl, rfl⟩, ?_⟩
    (conv => whnf); (repeat' ((first | refine bT ?_ | refine bF ?_ | refine bN ?_ | ((first | refine bD ?_ ?_ | refine bEq ?_ ?_ | refine bNe ?_ ?_) <;> intro hh <;> try (exfalso; omega)) | refine wIn (by omega) ?_ | refine nI (by omega) ?_) <;> conv => whnf))
    refine e3.callwq [3] rfl rfl ⟨rfl, trivial⟩ rfl rfl rfl rfl (fun r outs hr => ?_)
    obtain ⟨hr1, ho⟩ := hr; subst hr1; subst ho; refine ⟨⟨rfl, rfl, rfl, rfl⟩, ?_⟩
    (conv => whnf); (repeat' ((first | refine bT ?_ | refine bF ?_ | refine bN ?_ | ((first | refine bD ?_ ?_ | refine bEq ?_ ?_ | refine bNe ?_ ?_) <;> intro hh <;> try (exfalso; omega)) | refine wIn (by omega) ?_ | refine nI (by omega) ?_) <;> conv => whnf))
    refine ⟨k + 1, ?_, by omega, by omega⟩
    rw [splI_succ hk, splO_succ hk]
    exact (meets_as [(5, some 2), (6, some 4)] (by (repeat' apply And.intro) <;> first | rfl | exact True.intro | (intro hh; cases hh)))
  · have : k = L.length := by omega
    subst this
    rw [List.take_length]
    (conv => whnf); (repeat' ((first | refine bT ?_ | refine bF ?_ | refine bN ?_ | ((first | refine bD ?_ ?_ | refine bEq ?_ ?_ | refine bNe ?_ ?_) <;> intro hh <;> try (exfalso; omega)) | refine wIn (by omega) ?_ | refine nI (by omega) ?_) <;> conv => whnf))
    all_goals exact ⟨rfl, rfl⟩
def Shop.sc (w : Shop) (x : AV) : List AV := [.isl (w.sps.map Spare.av), .isl (w.mks.map mkAV), .int .i64 w.cut, .isl (w.tb.map Trial.av), x]
def Shop.sp (w : Shop) (i : Int) : Spare := w.sps.getD i.toNat ⟨0, 0, 0, 0⟩
def Shop.slot (w : Shop) (m k : Int) : Slot := (w.slots m).getD k.toNat ⟨0, [], 0, 0⟩
theorem isSp_iff {w : Shop} {i : Int} : w.isSp i = true ↔ 0 ≤ i ∧ i < w.sps.length := by unfold Shop.isSp; exact decide_eq_true_iff
theorem isSl_iff {w : Shop} {m k : Int} : w.isSl m k = true ↔ w.isMk m = true ∧ 0 ≤ k ∧ k < (w.slots m).length := by
  unfold Shop.isSl; rw [Bool.and_eq_true, decide_eq_true_iff]
theorem spget {w : Shop} {i : Int} (h : w.isSp i = true) : (w.sps.map Spare.av).getD i.toNat [] = (w.sp i).av := by
  have h := isSp_iff.1 h
  have : i.toNat < w.sps.length := by omega
  rw [getM Spare.av w.sps _ this]
  unfold Shop.sp; simp [List.getD_eq_getElem?_getD, this]
theorem slget {w : Shop} {m k : Int} (h : w.isSl m k = true) : ((w.slots m).map Slot.av).getD k.toNat [] = (w.slot m k).av := by
  have h := isSl_iff.1 h
  have : k.toNat < (w.slots m).length := by omega
  rw [getM Slot.av _ _ this]
  unfold Shop.slot; simp [List.getD_eq_getElem?_getD, this]
theorem Ok.sp {w : Shop} (h : Ok w) {i : Int} (hi : w.isSp i = true) : (0 ≤ (w.sp i).k ∧ (w.sp i).k ≤ 9) ∧ (0 ≤ (w.sp i).s ∧ (w.sp i).s ≤ 9) ∧ 0 ≤ (w.sp i).lo ∧ (w.sp i).lo ≤ (w.sp i).hi ∧ (w.sp i).hi ≤ 999 := by
  have hi := isSp_iff.1 hi
  have hl : i.toNat < w.sps.length := by omega
  have e : w.sp i = w.sps[i.toNat] := by unfold Shop.sp; simp [List.getD_eq_getElem?_getD, hl]
  rw [e]; exact h.s2 _ (List.getElem_mem hl)
theorem slots_mem {w : Shop} {m : Int} (hm : w.isMk m = true) : w.slots m ∈ w.mks := by
  have hm := isMk_iff.1 hm
  have hl : m.toNat < w.mks.length := by omega
  have e : w.slots m = w.mks[m.toNat] := by unfold Shop.slots; simp [List.getD_eq_getElem?_getD, hl]
  rw [e]; exact List.getElem_mem hl
theorem Ok.slots {w : Shop} (h : Ok w) {m : Int} (hm : w.isMk m = true) : (w.slots m).length ≤ 4 := (h.m2 _ (slots_mem hm)).1
theorem Ok.slot {w : Shop} (h : Ok w) {m k : Int} (hm : w.isSl m k = true) : (0 ≤ (w.slot m k).k ∧ (w.slot m k).k ≤ 9) ∧ (w.slot m k).ss.length ≤ 4 ∧ (∀ n ∈ (w.slot m k).ss, 0 ≤ n ∧ n ≤ 9) ∧ 0 ≤ (w.slot m k).lo ∧ (w.slot m k).lo ≤ (w.slot m k).hi ∧ (w.slot m k).hi ≤ 999 := by
  obtain ⟨h1, h2⟩ := isSl_iff.1 hm
  have hl : k.toNat < (w.slots m).length := by omega
  have e : w.slot m k = (w.slots m)[k.toNat] := by unfold Shop.slot; simp [List.getD_eq_getElem?_getD, hl]
  rw [e]; exact (h.m2 _ (slots_mem h1)).2 _ (List.getElem_mem hl)
/-- a spare of the kind and the section of a slot -/
def Shop.kin (w : Shop) (i m k : Int) : Bool := decide ((w.sp i).k = (w.slot m k).k) && decide ((w.sp i).s ∈ (w.slot m k).ss)
def Shop.room (w : Shop) (i m k : Int) : Int × Int := if w.kin i m k = true then ((w.slot m k).lo, (w.slot m k).hi + w.cut) else (0, -1)
theorem p124 (w : Shop) (hk : Ok w) (x : AV) (hx : x.one = true) (hx2 : ∃ es, x = .isl es) (i m k : Int) (hi : w.isSp i = true) (hm : w.isSl m k = true) : FnA Try.prog 124 [.agg (w.sc x), .int .i64 i, .int .i64 m, .int .i64 k] (· = .agg [.int .i64 (w.room i m k).1, .int .i64 (w.room i m k).2]) := by
  obtain ⟨es, rfl⟩ := hx2
  have l1 : (w.sps.map Spare.av).length = w.sps.length := by simp
  have l2 : (w.mks.map mkAV).length = w.mks.length := by simp
  have l3 : ((w.slots m).map Slot.av).length = (w.slots m).length := by simp
  have h1 := isSp_iff.1 hi
  obtain ⟨h2, h3⟩ := isSl_iff.1 hm
  have h2' := isMk_iff.1 h2
  have hs := hk.slot hm
  have hc := hk.c
  have g1 := spget hi
  have g2 := mkget h2
  have g3 := slget hm
  have e1 := p89 (w.slot m k).ss (w.sp i).s (by omega)
  unfold Shop.room Shop.kin
  refine fnA 4 ok124 (by simp) ?_
  by_cases ha : (w.sp i).k = (w.slot m k).k
  · by_cases hb : (w.sp i).s ∈ (w.slot m k).ss
    · rw [decide_eq_true hb] at e1
      rw [decide_eq_true ha, decide_eq_true hb]
      (conv => whnf); (repeat' ((first | refine bT ?_ | refine bF ?_ | refine bN ?_ | ((first | refine bD ?_ ?_ | refine bEq ?_ ?_ | refine bNe ?_ ?_) <;> intro hh <;> try (exfalso; omega)) | (refine iaI (by omega) (by omega) g1 ?_) | (refine iaI (by omega) (by omega) g2 ?_) | (refine iaI (by omega) (by omega) g3 ?_) | (refine (e1).callq rfl rfl fun _ h => ?_; subst h) | refine wIn (by omega) ?_ | refine nI (by omega) ?_) <;> conv => whnf))
      all_goals rfl
    · rw [decide_eq_false hb] at e1
      rw [decide_eq_true ha, decide_eq_false hb]
      (conv => whnf); (repeat' ((first | refine bT ?_ | refine bF ?_ | refine bN ?_ | ((first | refine bD ?_ ?_ | refine bEq ?_ ?_ | refine bNe ?_ ?_) <;> intro hh <;> try (exfalso; omega)) | (refine iaI (by omega) (by omega) g1 ?_) | (refine iaI (by omega) (by omega) g2 ?_) | (refine iaI (by omega) (by omega) g3 ?_) | (refine (e1).callq rfl rfl fun _ h => ?_; subst h) | refine wIn (by omega) ?_ | refine nI (by omega) ?_) <;> conv => whnf))
      all_goals rfl
  · rw [decide_eq_false ha]
    (conv => whnf); (repeat' ((first | refine bT ?_ | refine bF ?_ | refine bN ?_ | ((first | refine bD ?_ ?_ | refine bEq ?_ ?_ | refine bNe ?_ ?_) <;> intro hh <;> try (exfalso; omega)) | (refine iaI (by omega) (by omega) g1 ?_) | (refine iaI (by omega) (by omega) g2 ?_) | (refine iaI (by omega) (by omega) g3 ?_) | refine wIn (by omega) ?_ | refine nI (by omega) ?_) <;> conv => whnf))
    all_goals rfl
theorem room_bd {w : Shop} (hk : Ok w) {i m k : Int} (hm : w.isSl m k = true) : -1000000 ≤ (w.room i m k).1 ∧ (w.room i m k).1 ≤ 1000000 ∧ -1000000 ≤ (w.room i m k).2 ∧ (w.room i m k).2 ≤ 1000000 := by
  have := hk.slot hm
  have := hk.c
  unfold Shop.room
  split
  · dsimp only; omega
  · dsimp only; omega
/-- the lengths of a spare after some trials -/
def Shop.stepT (w : Shop) (i : Int) (L : List (Int × Int)) (t : Trial) : List (Int × Int) := if t.sp = i then (if t.ft = 1 then splI (w.room i t.mkr t.sl) L else splO (w.room i t.mkr t.sl) L) else L
def Shop.spans (w : Shop) (i : Int) : List (Int × Int) := w.tb.foldl (w.stepT i) [((w.sp i).lo, (w.sp i).hi)]
def Shop.spansK (w : Shop) (i : Int) (k : Nat) : List (Int × Int) := (w.tb.take k).foldl (w.stepT i) [((w.sp i).lo, (w.sp i).hi)]
theorem spansK_succ {w : Shop} {i : Int} {k : Nat} (hk : k < w.tb.length) : w.spansK i (k + 1) = w.stepT i (w.spansK i k) w.tb[k] := by
  unfold Shop.spansK; rw [List.take_succ_eq_append_getElem hk, List.foldl_append]; rfl
def inL (L : List (Int × Int)) (n : Int) : Prop := ∃ p ∈ L, p.1 ≤ n ∧ n ≤ p.2
structure Asc (L : List (Int × Int)) : Prop where
  ne : ∀ p ∈ L, p.1 ≤ p.2
  pw : L.Pairwise fun p q => p.2 < q.1
def one (p : Int × Int) : List (Int × Int) := if p.2 < p.1 then [] else [p]
theorem addSp_one (L : List (Int × Int)) (p : Int × Int) : addSp L p = L ++ one p := by
  unfold addSp one; split <;> simp
theorem foldl_app {α β : Type} (g : α → List β) : ∀ (l : List α) (acc : List β), l.foldl (fun a p => a ++ g p) acc = acc ++ l.flatMap g
  | [], acc => by simp
  | a :: l, acc => by rw [List.foldl_cons, foldl_app g l]; simp
def inP (b : Int × Int) (p : Int × Int) : List (Int × Int) := one (max p.1 b.1, min p.2 b.2)
def outP (b : Int × Int) (p : Int × Int) : List (Int × Int) := one (p.1, min p.2 (b.1 - 1)) ++ one (max p.1 (b.2 + 1), p.2)
theorem splI_flat (b : Int × Int) (L : List (Int × Int)) : splI b L = L.flatMap (inP b) := by
  have : inS b = fun a p => a ++ inP b p := by funext a p; exact addSp_one _ _
  unfold splI; rw [this, foldl_app]; simp
theorem splO_flat (b : Int × Int) (L : List (Int × Int)) : splO b L = L.flatMap (outP b) := by
  have : outS b = fun a p => a ++ outP b p := by
    funext a p
    show addSp (addSp a _) _ = _
    rw [addSp_one, addSp_one, List.append_assoc]; rfl
  unfold splO; rw [this, foldl_app]; simp
theorem mem_one {p q : Int × Int} : q ∈ one p ↔ q = p ∧ p.1 ≤ p.2 := by
  unfold one; split <;> simp <;> omega
theorem in_splI {b : Int × Int} {L : List (Int × Int)} {n : Int} : inL (splI b L) n ↔ inL L n ∧ b.1 ≤ n ∧ n ≤ b.2 := by
  rw [splI_flat]
  unfold inL
  simp only [List.mem_flatMap, inP, mem_one]
  constructor
  · rintro ⟨q, ⟨p, hp, rfl, h1⟩, h2⟩
    exact ⟨⟨p, hp, by omega⟩, by omega⟩
  · rintro ⟨⟨p, hp, h1⟩, h2⟩
    exact ⟨_, ⟨p, hp, rfl, by omega⟩, by dsimp only; omega⟩
theorem in_splO {b : Int × Int} {L : List (Int × Int)} {n : Int} : inL (splO b L) n ↔ inL L n ∧ ¬ (b.1 ≤ n ∧ n ≤ b.2) := by
  rw [splO_flat]
  unfold inL
  simp only [List.mem_flatMap, outP, List.mem_append, mem_one]
  constructor
  · rintro ⟨q, ⟨p, hp, ⟨rfl, h1⟩ | ⟨rfl, h1⟩⟩, h2⟩
    · exact ⟨⟨p, hp, by omega⟩, by omega⟩
    · exact ⟨⟨p, hp, by omega⟩, by omega⟩
  · rintro ⟨⟨p, hp, h1⟩, h2⟩
    by_cases h : n < b.1
    · exact ⟨_, ⟨p, hp, .inl ⟨rfl, by omega⟩⟩, by dsimp only; omega⟩
    · exact ⟨_, ⟨p, hp, .inr ⟨rfl, by omega⟩⟩, by dsimp only; omega⟩
theorem asc_flat {L : List (Int × Int)} (h : Asc L) (g : Int × Int → List (Int × Int)) (h1 : ∀ p, Asc (g p)) (h2 : ∀ p, ∀ q ∈ g p, p.1 ≤ q.1 ∧ q.2 ≤ p.2) : Asc (L.flatMap g) := by
  refine ⟨fun q hq => ?_, ?_⟩
  · obtain ⟨p, _, hp⟩ := List.mem_flatMap.1 hq
    exact (h1 p).ne q hp
  · rw [List.pairwise_flatMap]
    refine ⟨fun p _ => (h1 p).pw, h.pw.imp fun {p q} hpq x hx y hy => ?_⟩
    have := h2 p x hx
    have := h2 q y hy
    omega
theorem asc_one (p : Int × Int) : Asc (one p) := by
  unfold one; split
  · exact ⟨by simp, List.Pairwise.nil⟩
  · exact ⟨by simp; omega, by simp⟩
theorem asc_splI {b : Int × Int} {L : List (Int × Int)} (h : Asc L) : Asc (splI b L) := by
  rw [splI_flat]
  refine asc_flat h _ (fun p => asc_one _) fun p q hq => ?_
  obtain ⟨rfl, _⟩ := mem_one.1 hq
  dsimp only; omega
theorem asc_splO {b : Int × Int} {L : List (Int × Int)} (hb : b.1 ≤ b.2 + 1) (h : Asc L) : Asc (splO b L) := by
  rw [splO_flat]
  refine asc_flat h _ (fun p => ⟨fun q hq => ?_, ?_⟩) fun p q hq => ?_
  · rcases List.mem_append.1 hq with hq | hq
    · exact (asc_one _).ne q hq
    · exact (asc_one _).ne q hq
  · unfold outP
    rw [List.pairwise_append]
    refine ⟨(asc_one _).pw, (asc_one _).pw, fun x hx y hy => ?_⟩
    obtain ⟨rfl, _⟩ := mem_one.1 hx
    obtain ⟨rfl, _⟩ := mem_one.1 hy
    dsimp only; omega
  · rcases List.mem_append.1 hq with hq | hq <;> obtain ⟨rfl, _⟩ := mem_one.1 hq <;> dsimp only <;> omega
theorem asc_len : ∀ {L : List (Int × Int)} {a b : Int}, Asc L → (∀ p ∈ L, a ≤ p.1 ∧ p.2 ≤ b) → a ≤ b + 1 → (L.length : Int) ≤ b + 1 - a
  | [], a, b, _, _, h => by simp; omega
  | p :: L, a, b, h, h2, h3 => by
    obtain ⟨k1, k2⟩ := List.pairwise_cons.1 h.pw
    have q1 := h.ne p (by simp)
    have q2 := h2 p (by simp)
    have := asc_len (L := L) (a := p.2 + 1) (b := b) ⟨fun q hq => h.ne q (by simp [hq]), k2⟩ (fun q hq => ⟨by have := k1 q hq; omega, (h2 q (by simp [hq])).2⟩) (by omega)
    rw [List.length_cons]; omega
theorem asc_head {L : List (Int × Int)} (h : Asc L) (h0 : L ≠ []) : inL L (L.getD 0 (0, 0)).1 ∧ ∀ n, inL L n → (L.getD 0 (0, 0)).1 ≤ n := by
  cases L with
  | nil => exact absurd rfl h0
  | cons p L =>
    refine ⟨⟨p, by simp, by simp; exact h.ne p (by simp)⟩, fun n hn => ?_⟩
    obtain ⟨q, hq, h1⟩ := hn
    rcases List.mem_cons.1 hq with rfl | hq
    · simpa using h1.1
    · have := (List.pairwise_cons.1 h.pw).1 q hq
      have := h.ne p (by simp)
      simp; omega
theorem inL_nil {n : Int} : ¬ inL [] n := by rintro ⟨p, hp, _⟩; cases hp
theorem asc_nil {L : List (Int × Int)} (h : Asc L) : L = [] ↔ ∀ n, ¬ inL L n := by
  constructor
  · rintro rfl n; exact inL_nil
  · intro h2
    cases L with
    | nil => rfl
    | cons p L => exact absurd ⟨p, by simp, by omega, h.ne p (by simp)⟩ (h2 p.1)
/-- a spare of a length fits a slot -/
def Shop.fit (w : Shop) (i n m k : Int) : Bool := w.kin i m k && decide ((w.slot m k).lo ≤ n ∧ n ≤ (w.slot m k).hi + w.cut)
theorem fit_room {w : Shop} {i n m k : Int} : w.fit i n m k = true ↔ (w.room i m k).1 ≤ n ∧ n ≤ (w.room i m k).2 := by
  unfold Shop.fit Shop.room
  cases w.kin i m k with
  | true => simp
  | false => simp; omega
theorem room_ok {w : Shop} (hk : Ok w) {i m k : Int} (hm : w.isSl m k = true) : (w.room i m k).1 ≤ (w.room i m k).2 + 1 := by
  have := hk.slot hm
  have := hk.c
  unfold Shop.room
  split
  · dsimp only; omega
  · dsimp only; omega
/-- a spare can have a length -/
def okT (w : Shop) (i n : Int) (t : Trial) : Bool := decide (t.sp = i → w.fit i n t.mkr t.sl = decide (t.ft = 1))
def Shop.can (w : Shop) (i n : Int) : Bool := decide ((w.sp i).lo ≤ n ∧ n ≤ (w.sp i).hi) && w.tb.all (okT w i n)
theorem spansK_ok {w : Shop} (hk : Ok w) {i : Int} (hi : w.isSp i = true) : ∀ k, k ≤ w.tb.length → Asc (w.spansK i k) ∧ ∀ n, inL (w.spansK i k) n ↔ ((w.sp i).lo ≤ n ∧ n ≤ (w.sp i).hi) ∧ ∀ t ∈ w.tb.take k, okT w i n t = true
  | 0, _ => by
    have := hk.sp hi
    refine ⟨⟨by simp [Shop.spansK]; omega, by simp [Shop.spansK]⟩, fun n => by simp [Shop.spansK, inL]⟩
  | k + 1, h => by
    obtain ⟨h1, h2⟩ := spansK_ok hk hi k (by omega)
    have ht := hk.t2 w.tb[k] (List.getElem_mem (by omega))
    rw [spansK_succ (by omega)]
    have hall : ∀ n, (∀ t ∈ w.tb.take (k + 1), okT w i n t = true) ↔ (∀ t ∈ w.tb.take k, okT w i n t = true) ∧ okT w i n w.tb[k] = true := fun n => by
      rw [List.take_succ_eq_append_getElem (by omega)]
      simp only [List.mem_append, List.mem_singleton]
      exact ⟨fun h => ⟨fun t ht => h t (.inl ht), h _ (.inr rfl)⟩, fun h t ht => ht.elim (h.1 t) fun e => e ▸ h.2⟩
    unfold Shop.stepT
    split
    · rename_i e1
      split
      · rename_i e2
        refine ⟨asc_splI h1, fun n => ?_⟩
        rw [in_splI, h2, hall, ← fit_room]
        have : okT w i n w.tb[k] = true ↔ w.fit i n w.tb[k].mkr w.tb[k].sl = true := by
          unfold okT; simp [e1, e2]
        rw [this, and_assoc]
      · rename_i e2
        refine ⟨asc_splO (room_ok hk ht.2.1) h1, fun n => ?_⟩
        rw [in_splO, h2, hall, ← fit_room]
        have : okT w i n w.tb[k] = true ↔ ¬ w.fit i n w.tb[k].mkr w.tb[k].sl = true := by
          unfold okT; simp [e1, e2]
        rw [this, and_assoc]
    · rename_i e1
      refine ⟨h1, fun n => ?_⟩
      have : okT w i n w.tb[k] = true := by unfold okT; simp [e1]
      rw [h2, hall]; simp [this]
theorem spans_ok {w : Shop} (hk : Ok w) {i : Int} (hi : w.isSp i = true) : Asc (w.spans i) ∧ ∀ n, inL (w.spans i) n ↔ w.can i n = true := by
  have := spansK_ok hk hi w.tb.length (Nat.le_refl _)
  unfold Shop.spansK at this
  rw [List.take_length] at this
  refine ⟨this.1, fun n => ?_⟩
  have h2 := this.2 n
  unfold Shop.can
  rw [Bool.and_eq_true, decide_eq_true_iff, List.all_eq_true]
  exact h2
theorem spansK_len {w : Shop} (hk : Ok w) {i : Int} (hi : w.isSp i = true) {k : Nat} (h : k ≤ w.tb.length) : (w.spansK i k).length ≤ 1000 := by
  obtain ⟨h1, h2⟩ := spansK_ok hk hi k h
  have hs := hk.sp hi
  have := asc_len h1 (a := 0) (b := 999) (fun p hp => by
    have a := (h2 p.1).1 ⟨p, hp, by omega, h1.ne p hp⟩
    have b := (h2 p.2).1 ⟨p, hp, h1.ne p hp, by omega⟩
    omega) (by omega)
  omega
theorem can_bd {w : Shop} {i n : Int} (h : w.can i n = true) : (w.sp i).lo ≤ n ∧ n ≤ (w.sp i).hi := by
  unfold Shop.can at h; rw [Bool.and_eq_true] at h; exact of_decide_eq_true h.1
theorem sp_flat : ∀ l : List (Int × Int), AV.flatL ((l.map spAV).flatten) = true
  | [] => rfl
  | p :: l => by simp only [List.map_cons, List.flatten_cons, spAV, List.cons_append, List.nil_append, AV.flatL, AV.flat, Bool.true_and]; exact sp_flat l
theorem p122 (w : Shop) (hk : Ok w) (es : List (List AV)) (i : Int) (hi : w.isSp i = true) : FnO Try.prog 122 [.agg (w.sc (.isl es)), .int .i64 i] (fun r rows => r = .row 6 ∧ rows = [(6, .row false 35 2 ((w.spans i).map spAV))]) := by
  have l1 : (w.sps.map Spare.av).length = w.sps.length := by simp
  have l4 : (w.tb.map Trial.av).length = w.tb.length := by simp
  have h1 := isSp_iff.1 hi
  have ht1 := hk.t1
  have g1 := spget hi
  refine fnO 7 ok122 (by simp) ?_
  (conv => whnf); (repeat' ((first | refine bT ?_ | refine bF ?_ | refine bN ?_ | ((first | refine bD ?_ ?_ | refine bEq ?_ ?_ | refine bNe ?_ ?_) <;> intro hh <;> try (exfalso; omega)) | (refine iaI (by omega) (by omega) g1 ?_) | refine wIn (by omega) ?_ | refine nI (by omega) ?_) <;> conv => whnf))
  refine loop_i (α := Nat) (fun k => [(22, .int .i64 k), (21, .int .i64 ↑(w.tb.map Trial.av).length), (20, .isl (w.tb.map Trial.av)), (5, .row 6), (2, .own 0 0), (1, .int .i64 i)]) (fun k => [.box false (w.sc (.isl es)), .fresh, .fresh, .fresh, .fresh, .fresh, .row false 35 2 ((w.spansK i k).map spAV)]) (fun k => k ≤ w.tb.length) (fun k => w.tb.length - k) 0 (meets_as [(6, some 1)] (by (repeat' apply And.intro) <;> first | rfl | exact True.intro | (intro hh; cases hh))) (by omega) ?_
  intro k hk0
  conv => whnf
  refine bD (fun h3 => ?_) (fun h3 => ?_)
  · have hkl : k < w.tb.length := by omega
    have ht := hk.t2 w.tb[k] (List.getElem_mem hkl)
    have g2 := getM Trial.av w.tb k hkl
    have hlen := spansK_len hk hi (k := k) (by omega)
    have hbd := room_bd hk (i := i) ht.2.1
    by_cases hs : w.tb[k].sp = i
    · have e1 := p124 w hk (.isl es) rfl ⟨_, rfl⟩ i w.tb[k].mkr w.tb[k].sl hi ht.2.1
      have e2 := p123o (w.spansK i k) (w.room i w.tb[k].mkr w.tb[k].sl) (by omega) hbd
      (conv => whnf); (repeat' ((first | refine bT ?_ | refine bF ?_ | refine bN ?_ | ((first | refine bD ?_ ?_ | refine bEq ?_ ?_ | refine bNe ?_ ?_) <;> intro hh <;> try (exfalso; omega)) | (refine iaI (by omega) (by omega) g2 ?_) | (refine (e1).callq rfl rfl fun _ h => ?_; subst h) | refine wIn (by omega) ?_ | refine nI (by omega) ?_) <;> conv => whnf))
      refine e2.calllq rfl rfl (fun r rows hr => ?_)
      obtain ⟨hr1, hr2⟩ := hr; subst hr1; subst hr2; refine ⟨rfl, ?_, rfl, ?_⟩
      · simp [flatRB, sp_flat]
      by_cases hf : w.tb[k].ft = 1
      · (conv => whnf); (repeat' ((first | refine bT ?_ | refine bF ?_ | refine bN ?_ | ((first | refine bD ?_ ?_ | refine bEq ?_ ?_ | refine bNe ?_ ?_) <;> intro hh <;> try (exfalso; omega)) | refine wIn (by omega) ?_ | refine nI (by omega) ?_) <;> conv => whnf))
        refine ⟨k + 1, ?_, by omega, by omega⟩
        rw [spansK_succ hkl]
        unfold Shop.stepT
        rw [if_pos hs, if_pos hf]
        exact (meets_as [(6, some 3)] (by (repeat' apply And.intro) <;> first | rfl | exact True.intro | (intro hh; cases hh)))
      · (conv => whnf); (repeat' ((first | refine bT ?_ | refine bF ?_ | refine bN ?_ | ((first | refine bD ?_ ?_ | refine bEq ?_ ?_ | refine bNe ?_ ?_) <;> intro hh <;> try (exfalso; omega)) | refine wIn (by omega) ?_ | refine nI (by omega) ?_) <;> conv => whnf))
        refine ⟨k + 1, ?_, by omega, by omega⟩
        rw [spansK_succ hkl]
        unfold Shop.stepT
        rw [if_pos hs, if_neg hf]
        exact (meets_as [(6, some 4)] (by (repeat' apply And.intro) <;> first | rfl | exact True.intro | (intro hh; cases hh)))
    · (conv => whnf); (repeat' ((first | refine bT ?_ | refine bF ?_ | refine bN ?_ | ((first | refine bD ?_ ?_ | refine bEq ?_ ?_ | refine bNe ?_ ?_) <;> intro hh <;> try (exfalso; omega)) | (refine iaI (by omega) (by omega) g2 ?_) | refine wIn (by omega) ?_ | refine nI (by omega) ?_) <;> conv => whnf))
      refine ⟨k + 1, ?_, by omega, by omega⟩
      rw [spansK_succ hkl]
      unfold Shop.stepT
      rw [if_neg hs]
      exact (meets_id (by (repeat' apply And.intro) <;> first | rfl | exact True.intro | (intro hh; cases hh)))
  · have : k = w.tb.length := by omega
    subst this
    have e : w.spansK i w.tb.length = w.spans i := by unfold Shop.spansK Shop.spans; rw [List.take_length]
    rw [e]
    (conv => whnf); (repeat' ((first | refine bT ?_ | refine bF ?_ | refine bN ?_ | ((first | refine bD ?_ ?_ | refine bEq ?_ ?_ | refine bNe ?_ ?_) <;> intro hh <;> try (exfalso; omega)) | refine wIn (by omega) ?_ | refine nI (by omega) ?_) <;> conv => whnf))
    all_goals exact ⟨rfl, rfl⟩
theorem chk_ok {w : Shop} (h : w.chk = 0) : Ok w := by
  unfold Shop.chk at h
  split at h
  · rename_i h1; exact okW_ok h1
  · cases h
def lenAV (L : List (Int × Int)) : List AV := [.isl (L.map spAV)]
def Shop.lensK (w : Shop) (k : Nat) : List (List (Int × Int)) := (List.range k).map fun j => w.spans (j : Nat)
def Shop.lens (w : Shop) : List (List (Int × Int)) := w.lensK w.sps.length
/-- some spare can have no length -/
def Shop.noT (w : Shop) : Bool := w.lens.any (·.isEmpty)
def Shop.eO (w : Shop) (v : Bool) : Int := if w.chk ≠ 0 then w.chk else if v = true then (if w.noT = true then 3 else 0) else 1
def zSc : List AV := [.isl [], .isl [], .int .i64 0, .isl [], .isl []]
def Shop.scL (w : Shop) : List AV := w.sc (.isl (w.lens.map lenAV))
theorem eO_0 {w : Shop} {v : Bool} (h : w.eO v = 0) : w.chk = 0 ∧ v = true ∧ w.noT = false := by
  unfold Shop.eO at h
  split at h
  · rename_i h1; exact absurd h h1
  · rename_i h1
    split at h
    · rename_i h2
      split at h
      · cases h
      · rename_i h3; exact ⟨by omega, h2, by simpa using h3⟩
    · cases h
theorem p69 (w : Shop) (v : Bool) (h : w.eO v = 0) : FnA Try.prog 69 [.agg w.cells, .bool v] (· = .tup [.agg w.scL, .int .i64 0]) := by
  obtain ⟨hc, rfl, hn⟩ := eO_0 h
  have hk := chk_ok hc
  have hs1 := hk.s1
  have l1 : (w.sps.map Spare.av).length = w.sps.length := by simp
  have e1 := p17 w
  rw [hc] at e1
  refine fnA 8 ok69 (by simp) ?_
  (conv => whnf); (repeat' ((first | refine bT ?_ | refine bF ?_ | refine bN ?_ | ((first | refine bD ?_ ?_ | refine bEq ?_ ?_ | refine bNe ?_ ?_) <;> intro hh <;> try (exfalso; omega)) | (refine (e1).callq rfl rfl fun _ h => ?_; subst h) | refine wIn (by omega) ?_ | refine nI (by omega) ?_) <;> conv => whnf))
  refine loop_i (α := Nat) (fun k => [(24, .int .i64 k), (23, .int .i64 ↑(w.sps.map Spare.av).length), (7, .own 2 0), (4, .own 1 0), (2, .own 0 0)]) (fun k => [.box false w.cells, .box false [.nils, .nils, .int .i64 0, .nils, .nils], .box false (w.sc (.row 6)), .fresh, .fresh, .fresh, .row false 115 1 ((w.lensK k).map lenAV), .fresh]) (fun k => k ≤ w.sps.length) (fun k => w.sps.length - k) 0 (meets_as [(6, none)] (by (repeat' apply And.intro) <;> first | rfl | exact True.intro | (intro hh; cases hh))) (by omega) ?_
  intro k hk0
  conv => whnf
  refine bD (fun h3 => ?_) (fun h3 => ?_)
  · have hkl : k < w.sps.length := by omega
    have hi : w.isSp (k : Nat) = true := isSp_iff.2 (by omega)
    have e2 := p122 w hk ((w.lensK k).map lenAV) k hi
    have hL : (w.lensK k).length = k := by simp [Shop.lensK]
    have hL2 : ((w.lensK k).map lenAV).length = k := by simp [hL]
    have hsuc : w.lensK (k + 1) = w.lensK k ++ [w.spans (k : Nat)] := by unfold Shop.lensK; rw [List.range_succ, List.map_append]; rfl
    have hne : (w.spans (k : Nat)).isEmpty = false := by
      have : (w.spans (k : Nat)) ∈ w.lens := by
        unfold Shop.lens Shop.lensK; exact List.mem_map.2 ⟨k, List.mem_range.2 hkl, rfl⟩
      rw [Bool.eq_false_iff]; intro h4
      unfold Shop.noT at hn
      rw [List.any_eq_true.2 ⟨_, this, h4⟩] at hn; cases hn
    have hne2 : ¬ ((w.spans (k : Nat)).map spAV).length = 0 := by
      cases hh : w.spans (k : Nat) with
      | nil => rw [hh] at hne; cases hne
      | cons a l => simp
    (conv => whnf); (repeat' ((first | refine bT ?_ | refine bF ?_ | refine bN ?_ | ((first | refine bD ?_ ?_ | refine bEq ?_ ?_ | refine bNe ?_ ?_) <;> intro hh <;> try (exfalso; omega)) | refine wIn (by omega) ?_ | refine nI (by omega) ?_) <;> conv => whnf))
    refine e2.calllq rfl rfl (fun r rows hr => ?_)
    obtain ⟨hr1, hr2⟩ := hr; subst hr1; subst hr2; refine ⟨rfl, ?_, rfl, ?_⟩
    · simp [flatRB, sp_flat]
    (conv => whnf); (repeat' ((first | refine bT ?_ | refine bF ?_ | refine bN ?_ | ((first | refine bD ?_ ?_ | refine bEq ?_ ?_ | refine bNe ?_ ?_) <;> intro hh <;> try (exfalso; omega)) | (refine apI (by simp [AV.one]) (by simp; omega) ?_) | refine wIn (by omega) ?_ | refine nI (by omega) ?_) <;> conv => whnf))
    refine ⟨k + 1, ?_, by omega, by omega⟩
    rw [hsuc, List.map_append]
    exact (meets_as [(6, some 5)] (by (repeat' apply And.intro) <;> first | rfl | exact True.intro | (intro hh; cases hh)))
  · have : k = w.sps.length := by omega
    subst this
    have e : w.lensK w.sps.length = w.lens := rfl
    rw [e]
    (conv => whnf); (repeat' ((first | refine bT ?_ | refine bF ?_ | refine bN ?_ | ((first | refine bD ?_ ?_ | refine bEq ?_ ?_ | refine bNe ?_ ?_) <;> intro hh <;> try (exfalso; omega)) | refine wIn (by omega) ?_ | refine nI (by omega) ?_) <;> conv => whnf))
    all_goals rfl
theorem p69e (w : Shop) (v : Bool) (h : w.eO v ≠ 0) : FnA Try.prog 69 [.agg w.cells, .bool v] (· = .tup [.agg zSc, .int .i64 (w.eO v)]) := by
  have e1 := p17 w
  by_cases hc : w.chk = 0
  case neg =>
    have e : w.eO v = w.chk := by unfold Shop.eO; rw [if_pos hc]
    rw [e]
    refine fnA 8 ok69 (by simp) ?_
    (conv => whnf); (repeat' ((first | refine bT ?_ | refine bF ?_ | refine bN ?_ | ((first | refine bD ?_ ?_ | refine bEq ?_ ?_ | refine bNe ?_ ?_) <;> intro hh <;> try (exfalso; omega)) | (refine (e1).callq rfl rfl fun _ h => ?_; subst h) | refine wIn (by omega) ?_ | refine nI (by omega) ?_) <;> conv => whnf))
    all_goals rfl
  rw [hc] at e1
  cases v with
  | false =>
    have e : w.eO false = 1 := by unfold Shop.eO; rw [if_neg (by simpa using hc)]; rfl
    rw [e]
    refine fnA 8 ok69 (by simp) ?_
    (conv => whnf); (repeat' ((first | refine bT ?_ | refine bF ?_ | refine bN ?_ | ((first | refine bD ?_ ?_ | refine bEq ?_ ?_ | refine bNe ?_ ?_) <;> intro hh <;> try (exfalso; omega)) | (refine (e1).callq rfl rfl fun _ h => ?_; subst h) | refine wIn (by omega) ?_ | refine nI (by omega) ?_) <;> conv => whnf))
    all_goals rfl
  | true =>
  have hn : w.noT = true := by
    cases hn : w.noT with
    | true => rfl
    | false => exact absurd (by unfold Shop.eO; rw [if_neg (by simpa using hc), hn]; rfl) h
  have he : w.eO true = 3 := by unfold Shop.eO; rw [if_neg (by simpa using hc), hn]; rfl
  rw [he]
  have hk := chk_ok hc
  have hs1 := hk.s1
  have l1 : (w.sps.map Spare.av).length = w.sps.length := by simp
  refine fnA 8 ok69 (by simp) ?_
  (conv => whnf); (repeat' ((first | refine bT ?_ | refine bF ?_ | refine bN ?_ | ((first | refine bD ?_ ?_ | refine bEq ?_ ?_ | refine bNe ?_ ?_) <;> intro hh <;> try (exfalso; omega)) | (refine (e1).callq rfl rfl fun _ h => ?_; subst h) | refine wIn (by omega) ?_ | refine nI (by omega) ?_) <;> conv => whnf))
  refine loop_i (α := Nat) (fun k => [(24, .int .i64 k), (23, .int .i64 ↑(w.sps.map Spare.av).length), (7, .own 2 0), (4, .own 1 0), (2, .own 0 0)]) (fun k => [.box false w.cells, .box false [.nils, .nils, .int .i64 0, .nils, .nils], .box false (w.sc (.row 6)), .fresh, .fresh, .fresh, .row false 115 1 ((w.lensK k).map lenAV), .fresh]) (fun k => k ≤ w.sps.length ∧ ∀ j, j < k → (w.spans (j : Nat)).isEmpty = false) (fun k => w.sps.length - k) 0 (meets_as [(6, none)] (by (repeat' apply And.intro) <;> first | rfl | exact True.intro | (intro hh; cases hh))) ⟨by omega, fun j hj => by omega⟩ ?_
  rintro k ⟨hk0, hall⟩
  conv => whnf
  refine bD (fun h3 => ?_) (fun h3 => ?_)
  · have hkl : k < w.sps.length := by omega
    have hi : w.isSp (k : Nat) = true := isSp_iff.2 (by omega)
    have e2 := p122 w hk ((w.lensK k).map lenAV) k hi
    have hL : (w.lensK k).length = k := by simp [Shop.lensK]
    have hL2 : ((w.lensK k).map lenAV).length = k := by simp [hL]
    have hsuc : w.lensK (k + 1) = w.lensK k ++ [w.spans (k : Nat)] := by unfold Shop.lensK; rw [List.range_succ, List.map_append]; rfl
    cases hne : (w.spans (k : Nat)).isEmpty with
    | true =>
      have hne2 : ((w.spans (k : Nat)).map spAV).length = 0 := by
        rw [List.isEmpty_iff.1 hne]; rfl
      (conv => whnf); (repeat' ((first | refine bT ?_ | refine bF ?_ | refine bN ?_ | ((first | refine bD ?_ ?_ | refine bEq ?_ ?_ | refine bNe ?_ ?_) <;> intro hh <;> try (exfalso; omega)) | refine wIn (by omega) ?_ | refine nI (by omega) ?_) <;> conv => whnf))
      refine e2.calllq rfl rfl (fun r rows hr => ?_)
      obtain ⟨hr1, hr2⟩ := hr; subst hr1; subst hr2; refine ⟨rfl, ?_, rfl, ?_⟩
      · simp [flatRB, sp_flat]
      (conv => whnf); (repeat' ((first | refine bT ?_ | refine bF ?_ | refine bN ?_ | ((first | refine bD ?_ ?_ | refine bEq ?_ ?_ | refine bNe ?_ ?_) <;> intro hh <;> try (exfalso; omega)) | refine wIn (by omega) ?_ | refine nI (by omega) ?_) <;> conv => whnf))
      all_goals rfl
    | false =>
      have hne2 : ¬ ((w.spans (k : Nat)).map spAV).length = 0 := by
        cases hh : w.spans (k : Nat) with
        | nil => rw [hh] at hne; cases hne
        | cons a l => simp
      (conv => whnf); (repeat' ((first | refine bT ?_ | refine bF ?_ | refine bN ?_ | ((first | refine bD ?_ ?_ | refine bEq ?_ ?_ | refine bNe ?_ ?_) <;> intro hh <;> try (exfalso; omega)) | refine wIn (by omega) ?_ | refine nI (by omega) ?_) <;> conv => whnf))
      refine e2.calllq rfl rfl (fun r rows hr => ?_)
      obtain ⟨hr1, hr2⟩ := hr; subst hr1; subst hr2; refine ⟨rfl, ?_, rfl, ?_⟩
      · simp [flatRB, sp_flat]
      (conv => whnf); (repeat' ((first | refine bT ?_ | refine bF ?_ | refine bN ?_ | ((first | refine bD ?_ ?_ | refine bEq ?_ ?_ | refine bNe ?_ ?_) <;> intro hh <;> try (exfalso; omega)) | (refine apI (by simp [AV.one]) (by simp; omega) ?_) | refine wIn (by omega) ?_ | refine nI (by omega) ?_) <;> conv => whnf))
      refine ⟨k + 1, ?_, ⟨by omega, fun j hj => ?_⟩, by omega⟩
      · rw [hsuc, List.map_append]
        exact (meets_as [(6, some 5)] (by (repeat' apply And.intro) <;> first | rfl | exact True.intro | (intro hh; cases hh)))
      · by_cases e : j = k
        · rw [e]; exact hne
        · exact hall j (by omega)
  · exfalso
    unfold Shop.noT Shop.lens Shop.lensK at hn
    obtain ⟨x, hx, h5⟩ := List.any_eq_true.1 hn
    obtain ⟨j, hj, rfl⟩ := List.mem_map.1 hx
    have := hall j (by have := List.mem_range.1 hj; omega)
    rw [this] at h5; cases h5
def Shop.fitsV (w : Shop) (i m k : Int) : Int := if (splI (w.room i m k) (w.spans i)).isEmpty = true then 2 else if (splO (w.room i m k) (w.spans i)).isEmpty = true then 1 else 3
theorem lensget {w : Shop} {i : Int} (hi : w.isSp i = true) : (w.lens.map lenAV).getD i.toNat [] = lenAV (w.spans i) := by
  have h := isSp_iff.1 hi
  have hl : i.toNat < w.lens.length := by simp [Shop.lens, Shop.lensK]; omega
  rw [getM lenAV w.lens _ hl]
  congr 1
  simp only [Shop.lens, Shop.lensK, List.getElem_map, List.getElem_range]
  congr 1; omega
theorem spans_len {w : Shop} (hk : Ok w) {i : Int} (hi : w.isSp i = true) : (w.spans i).length ≤ 1000 := by
  have := spansK_len hk hi (k := w.tb.length) (Nat.le_refl _)
  unfold Shop.spansK at this
  rwa [List.take_length] at this
theorem isEmpty_len {l : List (Int × Int)} : ((l.map spAV).length : Int) = 0 ↔ l.isEmpty = true := by
  cases l <;> simp; omega
theorem p74 (w : Shop) (hk : Ok w) (i m k : Int) (hi : w.isSp i = true) (hm : w.isSl m k = true) : FnA Try.prog 74 [.agg w.scL, .int .i64 i, .int .i64 m, .int .i64 k] (· = .int .i64 (w.fitsV i m k)) := by
  have h1 := isSp_iff.1 hi
  have hs1 := hk.s1
  have l1 : (w.lens.map lenAV).length = w.sps.length := by simp [Shop.lens, Shop.lensK]
  have hlen := spans_len hk hi
  have e1 := p124 w hk (.isl (w.lens.map lenAV)) rfl ⟨_, rfl⟩ i m k hi hm
  have e2 := p123 (w.spans i) (w.room i m k) (by omega) (room_bd hk hm)
  have g1 := lensget hi
  unfold Shop.fitsV
  refine fnA 3 ok74 (by simp) ?_
  cases ha : (splI (w.room i m k) (w.spans i)).isEmpty with
  | true =>
    have ha' := isEmpty_len.2 ha
    (conv => whnf); (repeat' ((first | refine bT ?_ | refine bF ?_ | refine bN ?_ | ((first | refine bD ?_ ?_ | refine bEq ?_ ?_ | refine bNe ?_ ?_) <;> intro hh <;> try (exfalso; omega)) | (refine iaI (by omega) (by omega) g1 ?_) | (refine (e1).lendq rfl fun _ h => ?_; subst h; refine ⟨rfl, ?_⟩) | (refine (e2).callzq rfl rfl fun _ h => ?_; subst h) | refine wIn (by omega) ?_ | refine nI (by omega) ?_) <;> conv => whnf))
    all_goals rfl
  | false =>
    have ha' : ¬ ((splI (w.room i m k) (w.spans i)).map spAV).length = (0 : Int) := fun e => by rw [isEmpty_len.1 e] at ha; cases ha
    cases hb : (splO (w.room i m k) (w.spans i)).isEmpty with
    | true =>
      have hb' := isEmpty_len.2 hb
      (conv => whnf); (repeat' ((first | refine bT ?_ | refine bF ?_ | refine bN ?_ | ((first | refine bD ?_ ?_ | refine bEq ?_ ?_ | refine bNe ?_ ?_) <;> intro hh <;> try (exfalso; omega)) | (refine iaI (by omega) (by omega) g1 ?_) | (refine (e1).lendq rfl fun _ h => ?_; subst h; refine ⟨rfl, ?_⟩) | (refine (e2).callzq rfl rfl fun _ h => ?_; subst h) | refine wIn (by omega) ?_ | refine nI (by omega) ?_) <;> conv => whnf))
      all_goals rfl
    | false =>
      have hb' : ¬ ((splO (w.room i m k) (w.spans i)).map spAV).length = (0 : Int) := fun e => by rw [isEmpty_len.1 e] at hb; cases hb
      (conv => whnf); (repeat' ((first | refine bT ?_ | refine bF ?_ | refine bN ?_ | ((first | refine bD ?_ ?_ | refine bEq ?_ ?_ | refine bNe ?_ ?_) <;> intro hh <;> try (exfalso; omega)) | (refine iaI (by omega) (by omega) g1 ?_) | (refine (e1).lendq rfl fun _ h => ?_; subst h; refine ⟨rfl, ?_⟩) | (refine (e2).callzq rfl rfl fun _ h => ?_; subst h) | refine wIn (by omega) ?_ | refine nI (by omega) ?_) <;> conv => whnf))
      all_goals rfl
/-- a spare surely fits a slot, or never does -/
theorem fits_1 {w : Shop} (hk : Ok w) {i m k : Int} (hi : w.isSp i = true) (hm : w.isSl m k = true) (h0 : ∃ n, w.can i n = true) : w.fitsV i m k = 1 ↔ ∀ n, w.can i n = true → w.fit i n m k = true := by
  obtain ⟨ha, hin⟩ := spans_ok hk hi
  have hI := asc_nil (asc_splI (b := w.room i m k) ha)
  have hO := asc_nil (asc_splO (b := w.room i m k) (room_ok hk hm) ha)
  simp only [in_splI, in_splO, hin, ← fit_room] at hI hO
  unfold Shop.fitsV
  simp only [List.isEmpty_iff]
  constructor
  · intro h n hn
    split at h
    · cases h
    · split at h
      · rename_i h2
        exact Classical.byContradiction fun h3 => (hO.1 h2) n ⟨hn, h3⟩
      · cases h
  · intro h
    obtain ⟨n, hn⟩ := h0
    rw [if_neg fun e => hI.1 e n ⟨hn, h n hn⟩, if_pos (hO.2 fun n hh => hh.2 (h n hh.1))]
/-- each spare of a shop that has a truth has a length -/
theorem can_ex {w : Shop} {v : Bool} (h : w.eO v = 0) {i : Int} (hi : w.isSp i = true) : ∃ n, w.can i n = true := by
  obtain ⟨hc, _, hn⟩ := eO_0 h
  have hk := chk_ok hc
  obtain ⟨ha, hin⟩ := spans_ok hk hi
  have hi' := isSp_iff.1 hi
  have hm : w.spans i ∈ w.lens := by
    unfold Shop.lens Shop.lensK
    exact List.mem_map.2 ⟨i.toNat, List.mem_range.2 (by omega), by congr 1; omega⟩
  have hne : (w.spans i).isEmpty = false := by
    rw [Bool.eq_false_iff]; intro h4
    unfold Shop.noT at hn
    rw [List.any_eq_true.2 ⟨_, hm, h4⟩] at hn; cases hn
  have : w.spans i ≠ [] := fun e => by rw [e] at hne; cases hne
  exact ⟨_, (hin _).1 (asc_head ha this).1⟩
/-- the least and the greatest length -/
def Shop.loN (w : Shop) (i : Int) : Int := ((w.spans i).getD 0 (0, 0)).1
def Shop.hiN (w : Shop) (i : Int) : Int := ((w.spans i).getD ((w.spans i).length - 1) (0, 0)).2
theorem spans_ne {w : Shop} (hk : Ok w) {i : Int} (hi : w.isSp i = true) (h : ∃ n, w.can i n = true) : w.spans i ≠ [] := by
  obtain ⟨n, hn⟩ := h
  obtain ⟨ha, hin⟩ := spans_ok hk hi
  intro e
  have := (hin n).2 hn
  rw [e] at this; exact inL_nil this
theorem spAVget {L : List (Int × Int)} {j : Nat} (h : j < L.length) : (L.map spAV).getD j [] = spAV (L.getD j (0, 0)) := by
  rw [getM spAV L j h]; simp [List.getD_eq_getElem?_getD, h]
theorem chk_0 {w : Shop} {v : Bool} (h : w.eO v = 0) : w.chk = 0 := (eO_0 h).1
theorem eO_v {w : Shop} {v : Bool} (h : w.eO v = 0) : v = true := (eO_0 h).2.1
/-- Length -/
theorem p19 (w : Shop) (i : Int) (hs : w.sps.length ≤ 1000000) (h : w.eO (w.isSp i) = 0) : FnA Try.prog 19 [.agg w.cells, .int .i64 i] (· = .tup [.agg [.int .i64 (w.loN i), .int .i64 (w.hiN i)], .int .i64 0]) := by
  have hi := eO_v h
  have hk := chk_ok (chk_0 h)
  have hne := spans_ne hk hi (can_ex h hi)
  have hlen := spans_len hk hi
  have h1 := isSp_iff.1 hi
  have hs1 := hk.s1
  have l1 : (w.lens.map lenAV).length = w.sps.length := by simp [Shop.lens, Shop.lensK]
  have l2 : ((w.spans i).map spAV).length = (w.spans i).length := by simp
  have hpos := List.length_pos_iff.2 hne
  have e1 := p70 w i hs
  have e2 := p69 w (w.isSp i) h
  have g1 := lensget hi
  have g2 := spAVget (L := w.spans i) (j := 0) hpos
  have g3 : ((w.spans i).map spAV).getD (↑((w.spans i).map spAV).length - 1 : Int).toNat [] = spAV ((w.spans i).getD ((w.spans i).length - 1) (0, 0)) := by
    rw [show (↑((w.spans i).map spAV).length - 1 : Int).toNat = (w.spans i).length - 1 by omega]; exact spAVget (by omega)
  refine fnA 7 ok19 (by simp) ?_
  (conv => whnf); (repeat' ((first | refine bT ?_ | refine bF ?_ | refine bN ?_ | ((first | refine bD ?_ ?_ | refine bEq ?_ ?_ | refine bNe ?_ ?_) <;> intro hh <;> try (exfalso; omega)) | (refine (e1).callq rfl rfl fun _ h => ?_; subst h) | (refine (e2).callzq rfl rfl fun _ h => ?_; subst h) | (refine iaI (by omega) (by omega) g1 ?_) | (refine iaI (by omega) (by omega) g2 ?_) | (refine iaI (by omega) (by omega) g3 ?_) | refine wIn (by omega) ?_ | refine nI (by omega) ?_) <;> conv => whnf))
  all_goals rfl
def numF (n : Nat) (p : Int → Bool) : List Int := ((List.range n).map fun j : Nat => (j : Int)).filter p
theorem numF_yes {n : Nat} {p : Int → Bool} (h : p (n : Nat) = true) : numF (n + 1) p = numF n p ++ [(n : Int)] := by
  unfold numF; rw [List.range_succ, List.map_append, List.filter_append]; simp [h]
theorem numF_no {n : Nat} {p : Int → Bool} (h : p (n : Nat) = false) : numF (n + 1) p = numF n p := by
  unfold numF; rw [List.range_succ, List.map_append, List.filter_append]; simp [h]
theorem numF_len (n : Nat) (p : Int → Bool) : (numF n p).length ≤ n := by
  unfold numF
  have := List.length_filter_le p ((List.range n).map fun j : Nat => (j : Int))
  simpa using this
theorem mem_numF {n : Nat} {p : Int → Bool} {x : Int} : x ∈ numF n p ↔ (0 ≤ x ∧ x < n) ∧ p x = true := by
  unfold numF
  simp only [List.mem_filter, List.mem_map, List.mem_range]
  constructor
  · rintro ⟨⟨j, hj, rfl⟩, hp⟩; exact ⟨by omega, hp⟩
  · rintro ⟨h, hp⟩; exact ⟨⟨x.toNat, by omega, by omega⟩, hp⟩
theorem numF_congr {n : Nat} {p q : Int → Bool} (h : ∀ x, 0 ≤ x → x < n → p x = q x) : numF n p = numF n q := by
  unfold numF
  refine List.filter_congr fun x hx => ?_
  obtain ⟨j, hj, rfl⟩ := List.mem_map.1 hx
  exact h _ (by omega) (by have := List.mem_range.1 hj; omega)
theorem p85f {C C1 C2 : List AV} (n : Nat) (hn : n ≤ 1000000) (p : Int → Bool) (hg : ∀ j : Nat, j < n → FnV Try.prog (.fn 170 [.ipt C, .ipt C1, .ipt C2]) [.int .i64 (j : Nat)] (· = .bool (p (j : Nat)))) : FnA Try.prog 85 [.int .i64 (n : Nat), (.fn 170 [.ipt C, .ipt C1, .ipt C2])] (· = .isl ((numF n p).map jAV)) := by
  refine fnA 3 ok85 (by simp) ?_
  (conv => whnf); (repeat' ((first | refine bT ?_ | refine bF ?_ | refine bN ?_ | ((first | refine bD ?_ ?_ | refine bEq ?_ ?_ | refine bNe ?_ ?_) <;> intro hh <;> try (exfalso; omega)) | refine wIn (by omega) ?_ | refine nI (by omega) ?_) <;> conv => whnf))
  refine loop_i (α := Nat) (fun k => [(8, .int .i64 k), (7, .int .i64 n), (5, .row 2), (1, (.fn 170 [.ipt C, .ipt C1, .ipt C2]))]) (fun k => [.fresh, .fresh, .row false 3 1 ((numF k p).map jAV)]) (fun k => k ≤ n) (fun k => n - k) 0 (meets_as [(2, none)] (by (repeat' apply And.intro) <;> first | rfl | exact True.intro | (intro hh; cases hh))) (by omega) ?_
  intro k hk0
  conv => whnf
  refine bD (fun h3 => ?_) (fun h3 => ?_)
  · have hk : k < n := by omega
    have hv := hg k hk
    have hlen := numF_len k p
    cases hx : p (k : Nat) with
    | true =>
      rw [hx] at hv
      (conv => whnf); (repeat' ((first | refine bT ?_ | refine bF ?_ | refine bN ?_ | ((first | refine bD ?_ ?_ | refine bEq ?_ ?_ | refine bNe ?_ ?_) <;> intro hh <;> try (exfalso; omega)) | (refine hv.vcallq rfl rfl rfl rfl (fun r (hr : r = _) => ?_); subst hr) | (refine apI (by simp [AV.one]) (by simp; omega) ?_) | refine wIn (by omega) ?_ | refine nI (by omega) ?_) <;> conv => whnf))
      refine ⟨k + 1, ?_, by omega, by omega⟩
      rw [numF_yes hx, List.map_append]
      exact (meets_as [(2, some 1)] (by (repeat' apply And.intro) <;> first | rfl | exact True.intro | (intro hh; cases hh)))
    | false =>
      rw [hx] at hv
      (conv => whnf); (repeat' ((first | refine bT ?_ | refine bF ?_ | refine bN ?_ | ((first | refine bD ?_ ?_ | refine bEq ?_ ?_ | refine bNe ?_ ?_) <;> intro hh <;> try (exfalso; omega)) | (refine hv.vcallq rfl rfl rfl rfl (fun r (hr : r = _) => ?_); subst hr) | refine wIn (by omega) ?_ | refine nI (by omega) ?_) <;> conv => whnf))
      refine ⟨k + 1, ?_, by omega, by omega⟩
      rw [numF_no hx]
      exact (meets_id (by (repeat' apply And.intro) <;> first | rfl | exact True.intro | (intro hh; cases hh)))
  · have : k = n := by omega
    subst this
    (conv => whnf); (repeat' ((first | refine bT ?_ | refine bF ?_ | refine bN ?_ | ((first | refine bD ?_ ?_ | refine bEq ?_ ?_ | refine bNe ?_ ?_) <;> intro hh <;> try (exfalso; omega)) | refine wIn (by omega) ?_ | refine nI (by omega) ?_) <;> conv => whnf))
    all_goals rfl
theorem p85m {C C1 C2 : List AV} (n : Nat) (hn : n ≤ 1000000) (p : Int → Bool) (hg : ∀ j : Nat, j < n → FnV Try.prog (.fn 167 [.ipt C]) [.int .i64 (j : Nat)] (· = .bool (p (j : Nat)))) : FnA Try.prog 85 [.int .i64 (n : Nat), (.fn 167 [.ipt C])] (· = .isl ((numF n p).map jAV)) := by
  refine fnA 3 ok85 (by simp) ?_
  (conv => whnf); (repeat' ((first | refine bT ?_ | refine bF ?_ | refine bN ?_ | ((first | refine bD ?_ ?_ | refine bEq ?_ ?_ | refine bNe ?_ ?_) <;> intro hh <;> try (exfalso; omega)) | refine wIn (by omega) ?_ | refine nI (by omega) ?_) <;> conv => whnf))
  refine loop_i (α := Nat) (fun k => [(8, .int .i64 k), (7, .int .i64 n), (5, .row 2), (1, (.fn 167 [.ipt C]))]) (fun k => [.fresh, .fresh, .row false 3 1 ((numF k p).map jAV)]) (fun k => k ≤ n) (fun k => n - k) 0 (meets_as [(2, none)] (by (repeat' apply And.intro) <;> first | rfl | exact True.intro | (intro hh; cases hh))) (by omega) ?_
  intro k hk0
  conv => whnf
  refine bD (fun h3 => ?_) (fun h3 => ?_)
  · have hk : k < n := by omega
    have hv := hg k hk
    have hlen := numF_len k p
    cases hx : p (k : Nat) with
    | true =>
      rw [hx] at hv
      (conv => whnf); (repeat' ((first | refine bT ?_ | refine bF ?_ | refine bN ?_ | ((first | refine bD ?_ ?_ | refine bEq ?_ ?_ | refine bNe ?_ ?_) <;> intro hh <;> try (exfalso; omega)) | (refine hv.vcallq rfl rfl rfl rfl (fun r (hr : r = _) => ?_); subst hr) | (refine apI (by simp [AV.one]) (by simp; omega) ?_) | refine wIn (by omega) ?_ | refine nI (by omega) ?_) <;> conv => whnf))
      refine ⟨k + 1, ?_, by omega, by omega⟩
      rw [numF_yes hx, List.map_append]
      exact (meets_as [(2, some 1)] (by (repeat' apply And.intro) <;> first | rfl | exact True.intro | (intro hh; cases hh)))
    | false =>
      rw [hx] at hv
      (conv => whnf); (repeat' ((first | refine bT ?_ | refine bF ?_ | refine bN ?_ | ((first | refine bD ?_ ?_ | refine bEq ?_ ?_ | refine bNe ?_ ?_) <;> intro hh <;> try (exfalso; omega)) | (refine hv.vcallq rfl rfl rfl rfl (fun r (hr : r = _) => ?_); subst hr) | refine wIn (by omega) ?_ | refine nI (by omega) ?_) <;> conv => whnf))
      refine ⟨k + 1, ?_, by omega, by omega⟩
      rw [numF_no hx]
      exact (meets_id (by (repeat' apply And.intro) <;> first | rfl | exact True.intro | (intro hh; cases hh)))
  · have : k = n := by omega
    subst this
    (conv => whnf); (repeat' ((first | refine bT ?_ | refine bF ?_ | refine bN ?_ | ((first | refine bD ?_ ?_ | refine bEq ?_ ?_ | refine bNe ?_ ?_) <;> intro hh <;> try (exfalso; omega)) | refine wIn (by omega) ?_ | refine nI (by omega) ?_) <;> conv => whnf))
    all_goals rfl
theorem p85n {C C1 C2 : List AV} (n : Nat) (hn : n ≤ 1000000) (p : Int → Bool) (hg : ∀ j : Nat, j < n → FnV Try.prog (.fn 86 [.ipt C]) [.int .i64 (j : Nat)] (· = .bool (p (j : Nat)))) : FnA Try.prog 85 [.int .i64 (n : Nat), (.fn 86 [.ipt C])] (· = .isl ((numF n p).map jAV)) := by
  refine fnA 3 ok85 (by simp) ?_
  (conv => whnf); (repeat' ((first | refine bT ?_ | refine bF ?_ | refine bN ?_ | ((first | refine bD ?_ ?_ | refine bEq ?_ ?_ | refine bNe ?_ ?_) <;> intro hh <;> try (exfalso; omega)) | refine wIn (by omega) ?_ | refine nI (by omega) ?_) <;> conv => whnf))
  refine loop_i (α := Nat) (fun k => [(8, .int .i64 k), (7, .int .i64 n), (5, .row 2), (1, (.fn 86 [.ipt C]))]) (fun k => [.fresh, .fresh, .row false 3 1 ((numF k p).map jAV)]) (fun k => k ≤ n) (fun k => n - k) 0 (meets_as [(2, none)] (by (repeat' apply And.intro) <;> first | rfl | exact True.intro | (intro hh; cases hh))) (by omega) ?_
  intro k hk0
  conv => whnf
  refine bD (fun h3 => ?_) (fun h3 => ?_)
  · have hk : k < n := by omega
    have hv := hg k hk
    have hlen := numF_len k p
    cases hx : p (k : Nat) with
    | true =>
      rw [hx] at hv
      (conv => whnf); (repeat' ((first | refine bT ?_ | refine bF ?_ | refine bN ?_ | ((first | refine bD ?_ ?_ | refine bEq ?_ ?_ | refine bNe ?_ ?_) <;> intro hh <;> try (exfalso; omega)) | (refine hv.vcallq rfl rfl rfl rfl (fun r (hr : r = _) => ?_); subst hr) | (refine apI (by simp [AV.one]) (by simp; omega) ?_) | refine wIn (by omega) ?_ | refine nI (by omega) ?_) <;> conv => whnf))
      refine ⟨k + 1, ?_, by omega, by omega⟩
      rw [numF_yes hx, List.map_append]
      exact (meets_as [(2, some 1)] (by (repeat' apply And.intro) <;> first | rfl | exact True.intro | (intro hh; cases hh)))
    | false =>
      rw [hx] at hv
      (conv => whnf); (repeat' ((first | refine bT ?_ | refine bF ?_ | refine bN ?_ | ((first | refine bD ?_ ?_ | refine bEq ?_ ?_ | refine bNe ?_ ?_) <;> intro hh <;> try (exfalso; omega)) | (refine hv.vcallq rfl rfl rfl rfl (fun r (hr : r = _) => ?_); subst hr) | refine wIn (by omega) ?_ | refine nI (by omega) ?_) <;> conv => whnf))
      refine ⟨k + 1, ?_, by omega, by omega⟩
      rw [numF_no hx]
      exact (meets_id (by (repeat' apply And.intro) <;> first | rfl | exact True.intro | (intro hh; cases hh)))
  · have : k = n := by omega
    subst this
    (conv => whnf); (repeat' ((first | refine bT ?_ | refine bF ?_ | refine bN ?_ | ((first | refine bD ?_ ?_ | refine bEq ?_ ?_ | refine bNe ?_ ?_) <;> intro hh <;> try (exfalso; omega)) | refine wIn (by omega) ?_ | refine nI (by omega) ?_) <;> conv => whnf))
    all_goals rfl
def Shop.sure (w : Shop) (i m k : Int) : Bool := w.fitsV i m k == 1
/-- the spares that surely fit a slot -/
def Shop.sures (w : Shop) (m k : Int) : List Int := numF w.sps.length fun i => w.sure i m k
theorem p170 (w : Shop) (hk : Ok w) (i m k : Int) (hi : w.isSp i = true) (hm : w.isSl m k = true) : FnA Try.prog 170 [.int .i64 i, .ipt w.scL, .ipt [.int .i64 m], .ipt [.int .i64 k]] (· = .bool (w.sure i m k)) := by
  have e1 := p74 w hk i m k hi hm
  unfold Shop.sure
  refine fnA 0 ok170 (by simp) ?_
  (conv => whnf); (repeat' ((first | refine bT ?_ | refine bF ?_ | refine bN ?_ | ((first | refine bD ?_ ?_ | refine bEq ?_ ?_ | refine bNe ?_ ?_) <;> intro hh <;> try (exfalso; omega)) | (refine (e1).callq rfl rfl fun _ h => ?_; subst h) | refine wIn (by omega) ?_ | refine nI (by omega) ?_) <;> conv => whnf))
  all_goals rfl
theorem p161 (w : Shop) (hk : Ok w) (m k : Int) (hm : w.isSl m k = true) : FnA Try.prog 161 [.agg w.scL, .int .i64 m, .int .i64 k] (· = .isl ((w.sures m k).map jAV)) := by
  have hs1 := hk.s1
  have l1 : (w.sps.map Spare.av).length = w.sps.length := by simp
  have e1 := p85f (C := w.scL) (C1 := [.int .i64 m]) (C2 := [.int .i64 k]) w.sps.length (by omega) (fun i => w.sure i m k) (fun j hj => fnV_of bd170 (p170 w hk j m k (isSp_iff.2 (by omega)) hm))
  rw [← l1] at e1
  unfold Shop.sures
  rw [← l1]
  refine fnA 4 ok161 (by simp) ?_
  (conv => whnf); (repeat' ((first | refine bT ?_ | refine bF ?_ | refine bN ?_ | ((first | refine bD ?_ ?_ | refine bEq ?_ ?_ | refine bNe ?_ ?_) <;> intro hh <;> try (exfalso; omega)) | (refine (e1).callzq rfl rfl fun _ h => ?_; subst h) | refine wIn (by omega) ?_ | refine nI (by omega) ?_) <;> conv => whnf))
  all_goals rfl
theorem p171 (C : List AV) (p : Int → Bool) (l : List Int) (hl : l.length ≤ 1000000) (hg : ∀ x ∈ l, FnV Try.prog (.fn 169 [.ipt C]) [.int .i64 x] (· = .bool (p x))) : FnA Try.prog 171 [.isl (l.map jAV), .fn 169 [.ipt C]] (fun r => ∃ n : Int, r = .int .i64 n ∧ (0 ≤ n ↔ l.any p = true)) := by
  have hL : (l.map jAV).length = l.length := by simp
  refine fnA 0 ok171 (by simp) ?_
  (conv => whnf); (repeat' ((first | refine bT ?_ | refine bF ?_ | refine bN ?_ | ((first | refine bD ?_ ?_ | refine bEq ?_ ?_ | refine bNe ?_ ?_) <;> intro hh <;> try (exfalso; omega)) | refine wIn (by omega) ?_ | refine nI (by omega) ?_) <;> conv => whnf))
  refine loop_i (α := Nat) (fun k => [(8, .int .i64 k), (7, .int .i64 ↑(l.map jAV).length), (1, .fn 169 [.ipt C]), (0, .isl (l.map jAV))]) (fun k => []) (fun k => k ≤ l.length ∧ ∀ b ∈ l.take k, p b = false) (fun k => l.length - k) 0 (meets_id (by (repeat' apply And.intro) <;> first | rfl | exact True.intro | (intro hh; cases hh))) ⟨by omega, by simp⟩ ?_
  rintro k ⟨h1, h2⟩
  conv => whnf
  refine bD (fun h3 => ?_) (fun h3 => ?_)
  · have hk : k < l.length := by omega
    have hv := hg l[k] (List.getElem_mem hk)
    cases hx : p l[k] with
    | true =>
      rw [hx] at hv
      conv => whnf
      refine iaI (by omega) (by omega) (getM jAV l k hk) ?_
      (conv => whnf); (repeat' ((first | refine bT ?_ | refine bF ?_ | refine bN ?_ | ((first | refine bD ?_ ?_ | refine bEq ?_ ?_ | refine bNe ?_ ?_) <;> intro hh <;> try (exfalso; omega)) | (refine hv.vcallq rfl rfl rfl rfl (fun r (hr : r = _) => ?_); subst hr) | refine wIn (by omega) ?_ | refine nI (by omega) ?_) <;> conv => whnf))
      all_goals exact ⟨k, rfl, fun _ => any_yes hk hx, fun _ => by omega⟩
    | false =>
      rw [hx] at hv
      conv => whnf
      refine iaI (by omega) (by omega) (getM jAV l k hk) ?_
      (conv => whnf); (repeat' ((first | refine bT ?_ | refine bF ?_ | refine bN ?_ | ((first | refine bD ?_ ?_ | refine bEq ?_ ?_ | refine bNe ?_ ?_) <;> intro hh <;> try (exfalso; omega)) | (refine hv.vcallq rfl rfl rfl rfl (fun r (hr : r = _) => ?_); subst hr) | refine wIn (by omega) ?_ | refine nI (by omega) ?_) <;> conv => whnf))
      exact ⟨k + 1, (meets_id (by (repeat' apply And.intro) <;> first | rfl | exact True.intro | (intro hh; cases hh))), ⟨by omega, take_none hk h2 hx⟩, by omega⟩
  · have : k = l.length := by omega
    subst this
    rw [List.take_length] at h2
    (conv => whnf); (repeat' ((first | refine bT ?_ | refine bF ?_ | refine bN ?_ | ((first | refine bD ?_ ?_ | refine bEq ?_ ?_ | refine bNe ?_ ?_) <;> intro hh <;> try (exfalso; omega)) | refine wIn (by omega) ?_ | refine nI (by omega) ?_) <;> conv => whnf))
    all_goals exact ⟨-1, rfl, fun h => by omega, fun h => by rw [any_no h2] at h; cases h⟩
theorem p169 (f : List Int) (x : Int) (hl : f.length ≤ 1000000) : FnA Try.prog 169 [.int .i64 x, .ipt [.isl (f.map jAV)]] (· = .bool (decide (x ∈ f))) := by
  have e1 := p89 f x hl
  refine fnA 0 ok169 (by simp) ?_
  (conv => whnf); (repeat' ((first | refine bT ?_ | refine bF ?_ | refine bN ?_ | ((first | refine bD ?_ ?_ | refine bEq ?_ ?_ | refine bNe ?_ ?_) <;> intro hh <;> try (exfalso; omega)) | (refine (e1).callq rfl rfl fun _ h => ?_; subst h) | refine wIn (by omega) ?_ | refine nI (by omega) ?_) <;> conv => whnf))
  all_goals rfl
theorem p168 (f l : List Int) (hf : f.length ≤ 1000000) (hl : l.length ≤ 1000000) : FnA Try.prog 168 [.isl (l.map jAV), .fn 169 [.ipt [.isl (f.map jAV)]]] (· = .bool (l.any fun x => decide (x ∈ f))) := by
  refine fnA 0 ok168 (by simp) ?_
  (conv => whnf); (repeat' ((first | refine bT ?_ | refine bF ?_ | refine bN ?_ | ((first | refine bD ?_ ?_ | refine bEq ?_ ?_ | refine bNe ?_ ?_) <;> intro hh <;> try (exfalso; omega)) | refine wIn (by omega) ?_ | refine nI (by omega) ?_) <;> conv => whnf))
  refine (p171 [.isl (f.map jAV)] (fun x => decide (x ∈ f)) l hl (fun x _ => fnV_of bd169 (p169 f x hf))).callq rfl rfl (fun r hr => ?_); obtain ⟨n, rfl, hn⟩ := hr
  (conv => whnf); (repeat' ((first | refine bT ?_ | refine bF ?_ | refine bN ?_ | ((first | refine bD ?_ ?_ | refine bEq ?_ ?_ | refine bNe ?_ ?_) <;> intro hh <;> try (exfalso; omega)) | refine wIn (by omega) ?_ | refine nI (by omega) ?_) <;> conv => whnf))
  all_goals (refine congrArg AV.bool ?_; cases hp : l.any (fun x => decide (x ∈ f)) <;> simp [hp] at hn ⊢ <;> omega)
theorem and1 (n : Nat) (h : n < 2 ^ 62) : bitI .and .i64 (n : Int) 1 = ((n % 2 : Nat) : Int) := by
  unfold bitI
  have h1 : (BitVec.ofInt IntKind.i64.bits (n : Int) &&& BitVec.ofInt IntKind.i64.bits 1).toNat = n % 2 := by
    rw [BitVec.toNat_and]
    have e1 : (BitVec.ofInt IntKind.i64.bits (n : Int)).toNat = n := by
      show (BitVec.ofInt 64 (n : Int)).toNat = n
      rw [BitVec.toNat_ofInt]
      have : ((n : Int) % ((2 ^ 64 : Nat) : Int)) = n := Int.emod_eq_of_lt (by omega) (by omega)
      rw [this]; simp
    have e2 : (BitVec.ofInt IntKind.i64.bits 1).toNat = 1 := by decide
    rw [e1, e2]
    exact Nat.and_one_is_mod n
  simp only [h1]
  show IntKind.i64.wrap _ = _
  rcases Nat.mod_two_eq_zero_or_one n with h | h <;> rw [h] <;> decide
/-- the bit with a number -/
def bitB (b : Nat) (i : Int) : Bool := b / 2 ^ i.toNat % 2 == 1
theorem shr_nat (b : Nat) (i : Int) (hi : 0 ≤ i ∧ i < 60) : (b : Int).fdiv (2 ^ min i.toNat IntKind.i64.bits) = ((b / 2 ^ i.toNat : Nat) : Int) := by
  have : min i.toNat IntKind.i64.bits = i.toNat := by
    have : IntKind.i64.bits = 64 := rfl
    omega
  rw [this, Int.fdiv_eq_ediv_of_nonneg _ (Int.le_of_lt (Int.pow_pos (by omega))), Int.natCast_ediv]
  simp
theorem p167 (b : Nat) (hb : b < 2 ^ 60) (i : Int) (hi : 0 ≤ i ∧ i < 60) : FnA Try.prog 167 [.int .i64 i, .ipt [.int .i64 (b : Nat)]] (· = .bool (bitB b i)) := by
  have h1 : b / 2 ^ i.toNat < 2 ^ 62 := Nat.lt_of_le_of_lt (Nat.div_le_self _ _) (by omega)
  have e : bitB b i = (bitI .and .i64 ((b : Int).fdiv (2 ^ min i.toNat IntKind.i64.bits)) 1 == 1) := by
    rw [shr_nat b i hi, and1 _ h1]
    unfold bitB
    rcases Nat.mod_two_eq_zero_or_one (b / 2 ^ i.toNat) with h | h <;> rw [h] <;> rfl
  rw [e]
  refine fnA 0 ok167 (by simp) ?_
  (conv => whnf); (repeat' ((first | refine bT ?_ | refine bF ?_ | refine bN ?_ | ((first | refine bD ?_ ?_ | refine bEq ?_ ?_ | refine bNe ?_ ?_) <;> intro hh <;> try (exfalso; omega)) | refine wIn (by omega) ?_ | refine nI (by omega) ?_) <;> conv => whnf))
  all_goals rfl
def fAV (f : List Int) : List AV := [.isl (f.map jAV)]
def Shop.sl (w : Shop) (m : Nat) : List Slot := w.slots (m : Nat)
/-- for each slot of a make the spares that surely fit it -/
def Shop.needM (w : Shop) (m k : Nat) : List (List Int) := (List.range k).map fun j => w.sures (m : Nat) (j : Nat)
def Shop.needK : (w : Shop) → Nat → List (List Int)
  | _, 0 => []
  | w, m + 1 => w.needK m ++ w.needM m (w.sl m).length
def Shop.needs (w : Shop) : List (List Int) := w.needK w.mks.length
theorem sl_len {w : Shop} (hk : Ok w) (m : Nat) : (w.sl m).length ≤ 4 := by
  unfold Shop.sl
  by_cases h : m < w.mks.length
  · exact hk.slots (isMk_iff.2 (by omega))
  · unfold Shop.slots
    have : ((m : Int).toNat) = m := by omega
    rw [this]; simp [List.getD_eq_getElem?_getD, show w.mks[m]? = none from List.getElem?_eq_none (by omega)]
theorem needK_len {w : Shop} (hk : Ok w) : ∀ m, (w.needK m).length ≤ 4 * m
  | 0 => by simp [Shop.needK]
  | m + 1 => by
    have := needK_len hk m
    have := sl_len hk m
    simp only [Shop.needK, List.length_append, Shop.needM, List.length_map, List.length_range]
    omega
def Shop.sub (w : Shop) (b : Nat) : List Int := numF w.sps.length (bitB b)
/-- a list with a spare for each slot that surely fits it -/
def Shop.good (w : Shop) (l : List Int) : Bool := w.needs.all fun f => l.any fun x => decide (x ∈ f)
def Shop.goodK (w : Shop) (b : Nat) : List (List Int) := ((List.range b).map w.sub).filter w.good
def Shop.goods (w : Shop) : List (List Int) := w.goodK (2 ^ w.sps.length)
theorem goodK_yes {w : Shop} {b : Nat} (h : w.good (w.sub b) = true) : w.goodK (b + 1) = w.goodK b ++ [w.sub b] := by
  unfold Shop.goodK; rw [List.range_succ, List.map_append, List.filter_append]; simp [h]
theorem goodK_no {w : Shop} {b : Nat} (h : w.good (w.sub b) = false) : w.goodK (b + 1) = w.goodK b := by
  unfold Shop.goodK; rw [List.range_succ, List.map_append, List.filter_append]; simp [h]
theorem goodK_pre (w : Shop) (b : Nat) : ∀ n, b ≤ n → ∃ r, w.goodK n = w.goodK b ++ r
  | 0, h => ⟨[], by rw [show b = 0 by omega]; simp⟩
  | n + 1, h => by
    by_cases e : b = n + 1
    · exact ⟨[], by rw [e]; simp⟩
    · obtain ⟨r, hr⟩ := goodK_pre w b n (by omega)
      cases hT : w.good (w.sub n) with
      | true => exact ⟨r ++ [w.sub n], by rw [goodK_yes hT, hr, List.append_assoc]⟩
      | false => exact ⟨r, by rw [goodK_no hT, hr]⟩
theorem goodK_get {w : Shop} {b n : Nat} (hb : b < n) (h : w.good (w.sub b) = true) : (w.goodK n)[(w.goodK b).length]? = some (w.sub b) := by
  obtain ⟨r, hr⟩ := goodK_pre w (b + 1) n hb
  rw [hr, goodK_yes h, List.append_assoc, List.getElem?_append_right (Nat.le_refl _)]
  simp
theorem sures_len (w : Shop) (m k : Int) : (w.sures m k).length ≤ w.sps.length := numF_len _ _
theorem need_len {w : Shop} : ∀ {m : Nat} {f : List Int}, f ∈ w.needK m → f.length ≤ w.sps.length
  | 0, f, h => by cases h
  | m + 1, f, h => by
    simp only [Shop.needK, List.mem_append] at h
    rcases h with h | h
    · exact need_len h
    · obtain ⟨j, _, rfl⟩ := List.mem_map.1 h; exact sures_len _ _ _
theorem i156 (w : Shop) (hk : Ok w) : ItM Try.prog 156 [.agg w.scL] (w.goods.map fAV) := by
  have hs1 := hk.s1
  have hm1 := hk.m1
  have l1 : (w.sps.map Spare.av).length = w.sps.length := by simp
  have l2 : (w.mks.map mkAV).length = w.mks.length := by simp
  have hpow : IntKind.i64.wrap (1 * 2 ^ min (↑(w.sps.map Spare.av).length : Int).toNat IntKind.i64.bits) = ((2 ^ w.sps.length : Nat) : Int) := by
    rw [l1]
    have : ∀ n, n ≤ 10 → IntKind.i64.wrap (1 * 2 ^ min ((n : Nat) : Int).toNat IntKind.i64.bits) = ((2 ^ n : Nat) : Int) := by decide
    exact this _ hs1
  have hp10 : 2 ^ w.sps.length ≤ 1024 := by
    have : ∀ n, n ≤ 10 → 2 ^ n ≤ 1024 := by decide
    exact this _ hs1
  refine itM 9 ok156 (by simp) ?_
  (conv => whnf); (repeat' ((first | refine bT ?_ | refine bF ?_ | refine bN ?_ | ((first | refine bD ?_ ?_ | refine bEq ?_ ?_ | refine bNe ?_ ?_) <;> intro hh <;> try (exfalso; omega)) | refine wIn (by omega) ?_ | refine nI (by omega) ?_) <;> conv => whnf))
  refine loop_y (α := Nat) (fun m => [(16, .int .i64 m), (15, .int .i64 ↑(w.mks.map mkAV).length), (14, .isl (w.mks.map mkAV)), (4, .row 8), (2, .own 0 0), (1, .yld)]) (fun m => [.box false w.scL, .fresh, .fresh, .fresh, .fresh, .fresh, .fresh, .fresh, .row false 42 1 ((w.needK m).map fAV)]) (fun m => ⟨[], 0, false⟩) (fun m => m ≤ w.mks.length) (fun m => w.mks.length - m) 0 (meets_as [(8, none)] (by (repeat' apply And.intro) <;> first | rfl | exact True.intro | (intro hh; cases hh))) (by omega) ?_
  intro m hm0
  conv => whnf
  refine bD (fun h3 => ?_) (fun h3 => ?_)
  · have hm : m < w.mks.length := by omega
    have hmk : w.isMk (m : Nat) = true := isMk_iff.2 (by omega)
    have g1 : (w.mks.map mkAV).getD (m : Int).toNat [] = [.isl ((w.sl m).map Slot.av)] := mkget hmk
    have l3 : ((w.sl m).map Slot.av).length = (w.sl m).length := by simp
    have l4 := sl_len hk m
    have l5 := needK_len hk m
    (conv => whnf); (repeat' ((first | refine bT ?_ | refine bF ?_ | refine bN ?_ | ((first | refine bD ?_ ?_ | refine bEq ?_ ?_ | refine bNe ?_ ?_) <;> intro hh <;> try (exfalso; omega)) | (refine iaI (by omega) (by omega) g1 ?_) | refine wIn (by omega) ?_ | refine nI (by omega) ?_) <;> conv => whnf))
    refine loop_y (α := Nat) (fun k => [(24, .int .i64 k), (23, .int .i64 ↑((w.sl m).map Slot.av).length), (16, .int .i64 m), (15, .int .i64 ↑(w.mks.map mkAV).length), (14, .isl (w.mks.map mkAV)), (5, .int .i64 m), (4, .row 8), (2, .own 0 0), (1, .yld)]) (fun k => [.box false w.scL, .fresh, .fresh, .fresh, .fresh, .fresh, .fresh, .fresh, .row false 42 1 ((w.needK m ++ w.needM m k).map fAV)]) (fun k => ⟨[], 0, false⟩) (fun k => k ≤ (w.sl m).length) (fun k => (w.sl m).length - k) 0 ?_ (by omega) ?_
    · have : w.needK m ++ w.needM m 0 = w.needK m := by simp [Shop.needM]
      rw [this]; exact (meets_id (by (repeat' apply And.intro) <;> first | rfl | exact True.intro | (intro hh; cases hh)))
    intro k hk0
    conv => whnf
    refine bD (fun h4 => ?_) (fun h4 => ?_)
    · have hkl : k < (w.sl m).length := by omega
      have hsl : w.isSl (m : Nat) (k : Nat) = true := isSl_iff.2 ⟨hmk, by omega, by unfold Shop.sl at hkl; omega⟩
      have e1 := p161 w hk m k hsl
      have hsuc : w.needM m (k + 1) = w.needM m k ++ [w.sures (m : Nat) (k : Nat)] := by unfold Shop.needM; rw [List.range_succ, List.map_append]; rfl
      have hmap : (w.needK m ++ w.needM m (k + 1)).map fAV = (w.needK m ++ w.needM m k).map fAV ++ [fAV (w.sures (m : Nat) (k : Nat))] := by rw [hsuc]; simp
      have l6 : (w.needM m k).length = k := by simp [Shop.needM]
      have l7 : ((w.needK m ++ w.needM m k).map fAV).length = (w.needK m).length + k := by simp [l6]
      (conv => whnf); (repeat' ((first | refine bT ?_ | refine bF ?_ | refine bN ?_ | ((first | refine bD ?_ ?_ | refine bEq ?_ ?_ | refine bNe ?_ ?_) <;> intro hh <;> try (exfalso; omega)) | (refine (e1).callzq rfl rfl fun _ h => ?_; subst h) | (refine apI (by simp [AV.one]) (by simp only [l7]; simp; omega) ?_) | refine wIn (by omega) ?_ | refine nI (by omega) ?_) <;> conv => whnf))
      refine ⟨k + 1, ?_, by omega, by omega⟩
      rw [hmap]
      exact (meets_as [(8, some 4)] (by (repeat' apply And.intro) <;> first | rfl | exact True.intro | (intro hh; cases hh)))
    · have : k = (w.sl m).length := by omega
      subst this
      (conv => whnf); (repeat' ((first | refine bT ?_ | refine bF ?_ | refine bN ?_ | ((first | refine bD ?_ ?_ | refine bEq ?_ ?_ | refine bNe ?_ ?_) <;> intro hh <;> try (exfalso; omega)) | refine wIn (by omega) ?_ | refine nI (by omega) ?_) <;> conv => whnf))
      refine ⟨m + 1, ?_, by omega, by omega⟩
      exact (meets_id (by (repeat' apply And.intro) <;> first | rfl | exact True.intro | (intro hh; cases hh)))
  · have : m = w.mks.length := by omega
    subst this
    have l5 := needK_len hk w.mks.length
    have e : w.needK w.mks.length = w.needs := rfl
    rw [e] at l5 ⊢
    have l6 : (w.needs.map fAV).length = w.needs.length := by simp
    (conv => whnf); (repeat' ((first | refine bT ?_ | refine bF ?_ | refine bN ?_ | ((first | refine bD ?_ ?_ | refine bEq ?_ ?_ | refine bNe ?_ ?_) <;> intro hh <;> try (exfalso; omega)) | refine wIn (by omega) ?_ | refine nI (by omega) ?_) <;> conv => whnf))
    refine loop_y (α := Nat) (fun b => [(41, .int .i64 b), (40, .int .i64 (IntKind.i64.wrap (1 * 2 ^ min (↑(w.sps.map Spare.av).length : Int).toNat IntKind.i64.bits))), (4, .row 8), (2, .own 0 0), (1, .yld)]) (fun b => [.box false w.scL, .fresh, .fresh, .fresh, .fresh, .fresh, .fresh, .fresh, .row false 42 1 (w.needs.map fAV)]) (fun b => ⟨[], (w.goodK b).length, false⟩) (fun b => b ≤ 2 ^ w.sps.length) (fun b => 2 ^ w.sps.length - b) 0 (meets_id (by (repeat' apply And.intro) <;> first | rfl | exact True.intro | (intro hh; cases hh))) (Nat.zero_le _) ?_
    intro b hb0
    conv => whnf
    refine bD (fun h4 => ?_) (fun h4 => ?_)
    · have hb : b < 2 ^ w.sps.length := by rw [hpow] at h4; omega
      have e1 := p85m (C := [.int .i64 (b : Nat)]) (C1 := []) (C2 := []) w.sps.length (by omega) (bitB b) (fun j hj => fnV_of bd167 (p167 b (by omega) j (by omega)))
      rw [← l1] at e1
      have hsub : numF (w.sps.map Spare.av).length (bitB b) = w.sub b := by rw [l1]; rfl
      rw [hsub] at e1
      have hsl : (w.sub b).length ≤ w.sps.length := numF_len _ _
      (conv => whnf); (repeat' ((first | refine bT ?_ | refine bF ?_ | refine bN ?_ | ((first | refine bD ?_ ?_ | refine bEq ?_ ?_ | refine bNe ?_ ?_) <;> intro hh <;> try (exfalso; omega)) | (refine (e1).callzq rfl rfl fun _ h => ?_; subst h) | refine wIn (by omega) ?_ | refine nI (by omega) ?_) <;> conv => whnf))
      refine loop_y (α := Nat) (fun j => [(52, .int .i64 j), (51, .int .i64 ↑(w.needs.map fAV).length), (50, .row 8), (41, .int .i64 b), (40, .int .i64 (IntKind.i64.wrap (1 * 2 ^ min (↑(w.sps.map Spare.av).length : Int).toNat IntKind.i64.bits))), (9, .isl ((w.sub b).map jAV)), (4, .row 8), (2, .own 0 0), (1, .yld)]) (fun j => [.box false w.scL, .fresh, .fresh, .fresh, .fresh, .fresh, .fresh, .fresh, .row false 42 1 (w.needs.map fAV)]) (fun j => ⟨[], (w.goodK b).length, false⟩) (fun j => j ≤ w.needs.length ∧ ∀ f ∈ w.needs.take j, (w.sub b).any (fun x => decide (x ∈ f)) = true) (fun j => w.needs.length - j) 0 (meets_id (by (repeat' apply And.intro) <;> first | rfl | exact True.intro | (intro hh; cases hh))) ⟨by omega, by simp⟩ ?_
      rintro j ⟨hj0, hj1⟩
      conv => whnf
      refine bD (fun h5 => ?_) (fun h5 => ?_)
      · have hj : j < w.needs.length := by omega
        have g1 := getM fAV w.needs j hj
        have hfl := need_len (List.getElem_mem hj : w.needs[j] ∈ w.needK w.mks.length)
        have e2 := p168 w.needs[j] (w.sub b) (by omega) (by omega)
        cases hx : (w.sub b).any (fun x => decide (x ∈ w.needs[j])) with
        | true =>
          rw [hx] at e2
          (conv => whnf); (repeat' ((first | refine bT ?_ | refine bF ?_ | refine bN ?_ | ((first | refine bD ?_ ?_ | refine bEq ?_ ?_ | refine bNe ?_ ?_) <;> intro hh <;> try (exfalso; omega)) | (refine iaI (by omega) (by omega) g1 ?_) | (refine (e2).lendq rfl fun _ h => ?_; subst h; refine ⟨rfl, ?_⟩) | refine wIn (by omega) ?_ | refine nI (by omega) ?_) <;> conv => whnf))
          exact ⟨j + 1, (meets_id (by (repeat' apply And.intro) <;> first | rfl | exact True.intro | (intro hh; cases hh))), ⟨by omega, take_all (p := fun f => (w.sub b).any fun x => decide (x ∈ f)) hj hj1 hx⟩, by omega⟩
        | false =>
          rw [hx] at e2
          have hg : w.good (w.sub b) = false := all_not (p := fun f => (w.sub b).any fun x => decide (x ∈ f)) hj hx
          (conv => whnf); (repeat' ((first | refine bT ?_ | refine bF ?_ | refine bN ?_ | ((first | refine bD ?_ ?_ | refine bEq ?_ ?_ | refine bNe ?_ ?_) <;> intro hh <;> try (exfalso; omega)) | (refine iaI (by omega) (by omega) g1 ?_) | (refine (e2).lendq rfl fun _ h => ?_; subst h; refine ⟨rfl, ?_⟩) | refine wIn (by omega) ?_ | refine nI (by omega) ?_) <;> conv => whnf))
          refine ⟨b + 1, ?_, by omega, by omega⟩
          rw [goodK_no hg]
          exact (meets_id (by (repeat' apply And.intro) <;> first | rfl | exact True.intro | (intro hh; cases hh)))
      · have : j = w.needs.length := by omega
        subst this
        rw [List.take_length] at hj1
        have hg : w.good (w.sub b) = true := all_yes (p := fun f => (w.sub b).any fun x => decide (x ∈ f)) hj1
        have hget : (w.goods.map fAV)[(w.goodK b).length]? = some (fAV (w.sub b)) := by
          rw [List.getElem?_map]; unfold Shop.goods; rw [goodK_get hb hg]; rfl
        have hlen : (w.goodK (b + 1)).length = (w.goodK b).length + 1 := by rw [goodK_yes hg]; simp
        (conv => whnf); (repeat' ((first | refine bT ?_ | refine bF ?_ | refine bN ?_ | ((first | refine bD ?_ ?_ | refine bEq ?_ ?_ | refine bNe ?_ ?_) <;> intro hh <;> try (exfalso; omega)) | refine wIn (by omega) ?_ | refine nI (by omega) ?_) <;> conv => whnf))
        refine yZ rfl rfl rfl hget ?_ ?_
        · (conv => whnf); (repeat' ((first | refine bT ?_ | refine bF ?_ | refine bN ?_ | ((first | refine bD ?_ ?_ | refine bEq ?_ ?_ | refine bNe ?_ ?_) <;> intro hh <;> try (exfalso; omega)) | refine wIn (by omega) ?_ | refine nI (by omega) ?_) <;> conv => whnf))
          refine ⟨b + 1, ?_, by omega, by omega⟩
          rw [hlen]
          exact (meets_id (by (repeat' apply And.intro) <;> first | rfl | exact True.intro | (intro hh; cases hh)))
        · (conv => whnf); (repeat' ((first | refine bT ?_ | refine bF ?_ | refine bN ?_ | ((first | refine bD ?_ ?_ | refine bEq ?_ ?_ | refine bNe ?_ ?_) <;> intro hh <;> try (exfalso; omega)) | refine wIn (by omega) ?_ | refine nI (by omega) ?_) <;> conv => whnf))
          all_goals exact .inl rfl
    · have : b = 2 ^ w.sps.length := by rw [hpow] at h4; omega
      conv => whnf
      right
      subst this
      simp [Shop.goods]
end Go.Proofs
