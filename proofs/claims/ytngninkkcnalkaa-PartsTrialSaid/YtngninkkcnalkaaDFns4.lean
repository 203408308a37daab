/- What each function of this program answers, proved by walking its body: the contracts that the law rests on, part 4. -/
import Derived.Test.YtngninkkcnalkaaDFns3
set_option linter.unusedSimpArgs false
set_option linter.unusedVariables false
set_option linter.unusedSectionVars false
namespace Go.Proofs
open Go.Eng
attribute [local irreducible] Go.Eng.brB Go.Eng.need Go.Eng.wrE Go.Eng.iaE Go.Eng.slE Go.Eng.apE Go.Eng.CallZ Go.Eng.CallE Go.Eng.VCallE Go.Eng.YldE Go.Eng.GoC Go.Eng.MeetsE Go.Eng.FnA Go.Eng.FnV Go.Eng.ItA Go.Eng.ItM
set_option maxRecDepth 100000
theorem p43 (w : Shop) (hB : Big w) (i m k : Int) : FnA Try.prog 43 [.agg w.cells, .agg [.int .i64 i, .int .i64 m, .int .i64 k]] (· = .bool (w.isSp i && w.isSl m k)) := by
  have e1 := p47 w i hB.s
  have e2 := p53 w m k hB.m (fun x hx => (hB.sl x hx).1)
  refine fnA 2 ok43 (by simp) ?_
  cases hi : w.isSp i with
  | false =>
    rw [hi] at e1
    (conv => whnf); (repeat' ((first | refine bT ?_ | refine bF ?_ | refine bN ?_ | ((first | refine bD ?_ ?_ | refine bEq ?_ ?_ | refine bNe ?_ ?_) <;> intro hh <;> try (exfalso; omega)) | (refine (e1).callq rfl rfl fun _ h => ?_; subst h) | refine wIn (by omega) ?_ | refine nI (by omega) ?_) <;> conv => whnf))
    all_goals rfl
  | true =>
    rw [hi] at e1
    (conv => whnf); (repeat' ((first | refine bT ?_ | refine bF ?_ | refine bN ?_ | ((first | refine bD ?_ ?_ | refine bEq ?_ ?_ | refine bNe ?_ ?_) <;> intro hh <;> try (exfalso; omega)) | (refine (e1).callq rfl rfl fun _ h => ?_; subst h) | (refine (e2).callq rfl rfl fun _ h => ?_; subst h) | refine wIn (by omega) ?_ | refine nI (by omega) ?_) <;> conv => whnf))
    all_goals rfl
theorem mem_needK {w : Shop} {f : List Int} : ∀ {n : Nat}, f ∈ w.needK n ↔ ∃ m, m < n ∧ ∃ s, s < (w.slots (m : Nat)).length ∧ w.sures (m : Nat) (s : Nat) = f
  | 0 => by simp [Shop.needK]
  | n + 1 => by
    simp only [Shop.needK, List.mem_append, mem_needK (n := n), Shop.needM, List.mem_map, List.mem_range, Shop.sl]
    constructor
    · rintro (⟨m, a, b⟩ | ⟨s, a, b⟩)
      · exact ⟨m, by omega, b⟩
      · exact ⟨n, by omega, s, a, b⟩
    · rintro ⟨m, a, s, b, c⟩
      by_cases e : m = n
      · subst e; exact .inr ⟨s, b, c⟩
      · exact .inl ⟨m, by omega, s, b, c⟩
theorem sub_sp {w : Shop} {b : Nat} : ∀ x ∈ w.sub b, w.isSp x = true := fun x hx => isSp_iff.2 (by have := (mem_numF.1 hx).1; omega)
theorem numF_asc (n : Nat) (p : Int → Bool) : ascB (numF n p) = true := by
  have hp : (numF n p).Pairwise (· < ·) := by
    unfold numF
    refine List.Pairwise.sublist List.filter_sublist ?_
    rw [List.pairwise_map]
    exact List.Pairwise.imp (fun h => by omega) (List.pairwise_lt_range (n := n))
  rw [ascB_iff]
  intro i hi
  have := List.pairwise_iff_getElem.1 hp i (i + 1) (by omega) hi (by omega)
  have e1 : (numF n p).getD i 0 = (numF n p)[i] := by simp [List.getD_eq_getElem?_getD, show i < (numF n p).length by omega]
  have e2 : (numF n p).getD (i + 1) 0 = (numF n p)[i + 1] := by simp [List.getD_eq_getElem?_getD, hi]
  rw [e1, e2]; exact this
theorem goods_ok {w : Shop} {l : List Int} (h : l ∈ w.goods) : w.good l = true ∧ w.isLi l = true ∧ ∀ x ∈ l, w.isSp x = true := by
  unfold Shop.goods Shop.goodK at h
  obtain ⟨h1, h2⟩ := List.mem_filter.1 h
  obtain ⟨b, _, rfl⟩ := List.mem_map.1 h1
  refine ⟨h2, ?_, sub_sp⟩
  unfold Shop.isLi
  rw [show ascB (w.sub b) = true from numF_asc _ _, Bool.true_and, List.all_eq_true]
  exact sub_sp
theorem keep_mem {w : Shop} (h : w.eF = 0) : w.keep ∈ w.mins := by
  have := (eF_0 h).2
  unfold Shop.keep
  rw [List.getD_eq_getElem?_getD, List.getElem?_eq_getElem this]; exact List.getElem_mem this
/-- the number whose bits say what holds -/
def bOf (p : Int → Bool) : Nat → Nat
  | 0 => 0
  | k + 1 => (if p (k : Nat) then 2 ^ k else 0) + bOf p k
theorem bOf_lt (p : Int → Bool) : ∀ k, bOf p k < 2 ^ k
  | 0 => by simp [bOf]
  | k + 1 => by
    have := bOf_lt p k
    unfold bOf
    rw [Nat.pow_succ]
    split <;> omega
theorem bOf_bit (p : Int → Bool) : ∀ K s : Nat, (bOf p K).testBit s = (decide (s < K) && p (s : Nat))
  | 0, s => by simp [bOf]
  | K + 1, s => by
    have ih := bOf_bit p K s
    unfold bOf
    cases hf : p (K : Nat) with
    | true =>
      rw [if_pos rfl, Nat.add_comm, ← or_pow (bOf_lt p K), Nat.testBit_or, ih, Nat.testBit_two_pow]
      by_cases h : s = K
      · subst h; simp [hf]
      · have h1 : decide (K = s) = false := decide_eq_false (fun e => h e.symm)
        have h2 : decide (s < K + 1) = decide (s < K) := decide_eq_decide.2 (by omega)
        rw [h1, h2, Bool.or_false]
    | false =>
      simp only [Bool.false_eq_true, if_false, Nat.zero_add]
      rw [ih]
      by_cases h : s = K
      · subst h; simp [hf]
      · have h2 : decide (s < K + 1) = decide (s < K) := decide_eq_decide.2 (by omega)
        rw [h2]
theorem bitB_test (b s : Nat) : bitB b (s : Nat) = b.testBit s := by
  unfold bitB
  rw [Nat.testBit_eq_decide_div_mod_eq]
  rfl
theorem sub_of {w : Shop} (p : Int → Bool) : ∃ b, b < 2 ^ w.sps.length ∧ w.sub b = numF w.sps.length p := by
  refine ⟨bOf p w.sps.length, bOf_lt _ _, ?_⟩
  unfold Shop.sub
  apply numF_congr
  intro x h1 h2
  show bitB _ ((x : Nat) : Int) = p ((x : Nat) : Int)
  rw [bitB_test, bOf_bit, decide_eq_true (by omega), Bool.true_and]
theorem asc_pw {l : List Int} (h : ascB l = true) : l.Pairwise (· < ·) := by
  rw [ascB_iff] at h
  induction l with
  | nil => exact List.Pairwise.nil
  | cons a l ih =>
    have h' : ∀ i, i + 1 < l.length → l.getD i 0 < l.getD (i + 1) 0 := fun i hi => by simpa using h (i + 1) (by simpa using hi)
    have ihh := ih h'
    refine List.Pairwise.cons (fun x hx => ?_) ihh
    cases l with
    | nil => cases hx
    | cons b r =>
      have hab : a < b := by simpa using h 0 (by simp)
      rcases List.mem_cons.1 hx with rfl | hx
      · exact hab
      · exact Int.lt_trans hab ((List.pairwise_cons.1 ihh).1 x hx)
theorem pw_ext : ∀ {a b : List Int}, a.Pairwise (· < ·) → b.Pairwise (· < ·) → (∀ x, x ∈ a ↔ x ∈ b) → a = b
  | [], [], _, _, _ => rfl
  | [], y :: b, _, _, h => absurd ((h y).2 (by simp)) (by simp)
  | x :: a, [], _, _, h => absurd ((h x).1 (by simp)) (by simp)
  | x :: a, y :: b, ha, hb, h => by
    have ha' := List.pairwise_cons.1 ha
    have hb' := List.pairwise_cons.1 hb
    have hxy : x = y := by
      have h1 := (h x).1 (by simp)
      have h2 := (h y).2 (by simp)
      rcases List.mem_cons.1 h1 with e | e
      · exact e
      · rcases List.mem_cons.1 h2 with e2 | e2
        · exact e2.symm
        · have := hb'.1 x e; have := ha'.1 y e2; omega
    subst hxy
    congr 1
    refine pw_ext ha'.2 hb'.2 fun z => ?_
    constructor
    · intro hz
      rcases List.mem_cons.1 ((h z).1 (by simp [hz])) with e | e
      · have := ha'.1 z hz; omega
      · exact e
    · intro hz
      rcases List.mem_cons.1 ((h z).2 (by simp [hz])) with e | e
      · have := hb'.1 z hz; omega
      · exact e
theorem isLi_sub {w : Shop} {l : List Int} (h : w.isLi l = true) : ∃ b, b < 2 ^ w.sps.length ∧ w.sub b = l := by
  unfold Shop.isLi at h
  rw [Bool.and_eq_true, List.all_eq_true] at h
  obtain ⟨b, hb, e⟩ := sub_of (w := w) fun x => decide (x ∈ l)
  refine ⟨b, hb, ?_⟩
  rw [e]
  refine pw_ext (asc_pw (numF_asc _ _)) (asc_pw h.1) fun x => ?_
  rw [mem_numF, decide_eq_true_iff]
  constructor
  · exact fun h => h.2
  · intro hx
    have := isSp_iff.1 (h.2 x hx)
    exact ⟨by omega, hx⟩
theorem mem_goods {w : Shop} {l : List Int} (h : w.isLi l = true) (hg : w.good l = true) : l ∈ w.goods := by
  obtain ⟨b, hb, rfl⟩ := isLi_sub h
  unfold Shop.goods Shop.goodK
  exact List.mem_filter.2 ⟨List.mem_map.2 ⟨b, List.mem_range.2 hb, rfl⟩, hg⟩
theorem bestL_inv {ys : List (List Int)} : ∀ {k : Nat}, k ≤ ys.length → (0 < k → 0 < (bestL (ys.take k)).length) ∧ (∀ y ∈ ys.take k, ((bestL (ys.take k)).getD 0 []).length ≤ y.length ∧ (y.length = ((bestL (ys.take k)).getD 0 []).length → y ∈ bestL (ys.take k))) ∧ ∀ a ∈ bestL (ys.take k), a.length = ((bestL (ys.take k)).getD 0 []).length
  | 0, _ => by simp [bestL]
  | k + 1, hk => by
    obtain ⟨h1, h2, h3⟩ := bestL_inv (ys := ys) (k := k) (by omega)
    rw [bestL_succ (by omega : k < ys.length), List.take_succ_eq_append_getElem (by omega : k < ys.length)]
    have hk0 : k = 0 → bestL (ys.take k) = [] := by rintro rfl; rfl
    generalize bestL (ys.take k) = acc at *
    generalize ys[k] = q at *
    unfold stepB
    split
    · rename_i h
      refine ⟨fun _ => h.1, ?_, h3⟩
      intro y hy
      rcases List.mem_append.1 hy with hy | hy
      · exact h2 y hy
      · rw [List.mem_singleton.1 hy]; exact ⟨by omega, fun e => by omega⟩
    · rename_i hn
      split
      · rename_i h
        refine ⟨fun _ => by simp, ?_, by simp⟩
        intro y hy
        rcases List.mem_append.1 hy with hy | hy
        · have := (h2 y hy).1
          exact ⟨by simp; omega, fun e => by simp at e; omega⟩
        · rw [List.mem_singleton.1 hy]; exact ⟨by simp, fun _ => by simp⟩
      · rename_i hn2
        by_cases h0 : acc.length = 0
        · have : k = 0 := by
            apply Classical.byContradiction; intro hne
            have := h1 (by omega); omega
          have ha : acc = [] := hk0 this
          subst ha
          subst this
          refine ⟨fun _ => by simp, ?_, by simp⟩
          intro y hy
          have : y = q := by simpa using hy
          subst this; simp
        · have hg : (acc ++ [q]).getD 0 [] = acc.getD 0 [] := by
            rw [List.getD_eq_getElem?_getD, List.getD_eq_getElem?_getD, List.getElem?_append_left (by omega)]
          have hq : q.length = (acc.getD 0 []).length := by
            apply Classical.byContradiction; intro hne
            rcases Nat.lt_or_gt_of_ne hne with h | h
            · exact hn2 ⟨by omega, h⟩
            · exact hn ⟨by omega, h⟩
          rw [hg]
          refine ⟨fun _ => by simp, ?_, ?_⟩
          · intro y hy
            rcases List.mem_append.1 hy with hy | hy
            · exact ⟨(h2 y hy).1, fun e => List.mem_append.2 (.inl ((h2 y hy).2 e))⟩
            · rw [List.mem_singleton.1 hy]; exact ⟨by omega, fun _ => by simp⟩
          · intro a ha
            rcases List.mem_append.1 ha with ha | ha
            · exact h3 a ha
            · rw [List.mem_singleton.1 ha]; exact hq
theorem mins_inv {w : Shop} {l : List Int} (h : l ∈ w.goods) : 0 < w.mins.length ∧ w.keep.length ≤ l.length ∧ (l.length = w.keep.length → l ∈ w.mins) := by
  have h1 := bestL_inv (ys := w.goods) (k := w.goods.length) (Nat.le_refl _)
  rw [List.take_length] at h1
  obtain ⟨a, b, c⟩ := h1
  exact ⟨a (List.length_pos_of_mem h), (b l h).1, (b l h).2⟩
theorem needed_sub {w : Shop} {l : List Int} (h : l ∈ w.mins) : ∀ x ∈ w.needed, x ∈ l := fun x hx => by
  have := (mem_numF.1 hx).2
  unfold Shop.needB at this
  exact of_decide_eq_true (List.all_eq_true.1 this l h)
/-- one trial more -/
def Shop.add (w : Shop) (t : Trial) : Shop := { w with tb := w.tb ++ [t] }
theorem add_can {w : Shop} {t : Trial} {i n : Int} (h : (w.add t).can i n = true) : w.can i n = true := by
  unfold Shop.can Shop.add at h
  rw [Bool.and_eq_true, List.all_append, Bool.and_eq_true] at h
  unfold Shop.can
  rw [Bool.and_eq_true]
  exact ⟨h.1, h.2.1⟩
theorem add_cov (w : Shop) (t : Trial) (i n m : Int) : ∀ K, (w.add t).cov i n m K = w.cov i n m K
  | 0 => rfl
  | K + 1 => by
    simp only [Shop.cov, add_cov w t i n m K]
    rfl
theorem add_rch {w : Shop} {t : Trial} {m : Int} {K : Nat} {l : List Int} : ∀ {k b : Nat}, (w.add t).rch m K l k b → w.rch m K l k b
  | 0, _, h => h
  | k + 1, b, h => by
    obtain ⟨s, n, a, c, d⟩ := h
    exact ⟨s, n, add_rch a, add_can c, by rw [d, add_cov]⟩
theorem add_slots (w : Shop) (t : Trial) (m : Int) : (w.add t).slots m = w.slots m := rfl
theorem add_mends {w : Shop} {t : Trial} {m : Int} {l : List Int} (hne : ∃ b, (w.add t).rch m (w.slots m).length l l.length b) (h : w.mendsV l m ≠ 3) : (w.add t).mendsV l m = w.mendsV l m := by
  by_cases h1 : w.rch m (w.slots m).length l l.length (2 ^ (w.slots m).length - 1)
  · by_cases h2 : ∀ b, w.rch m (w.slots m).length l l.length b → b = 2 ^ (w.slots m).length - 1
    · obtain ⟨b, hb⟩ := hne
      have hbe := h2 b (add_rch hb)
      rw [hbe] at hb
      have e1 : w.mendsV l m = 1 := by unfold Shop.mendsV; rw [if_neg (not_not_intro h1), if_pos h2]
      have e2 : (w.add t).mendsV l m = 1 := by unfold Shop.mendsV; rw [add_slots, if_neg (not_not_intro hb), if_pos (fun b hb => h2 b (add_rch hb))]
      rw [e1, e2]
    · have e1 : w.mendsV l m = 3 := by unfold Shop.mendsV; rw [if_neg (not_not_intro h1), if_neg h2]
      exact absurd e1 h
  · have e1 : w.mendsV l m = 2 := by unfold Shop.mendsV; rw [if_pos h1]
    have e2 : (w.add t).mendsV l m = 2 := by unfold Shop.mendsV; rw [add_slots, if_pos (fun hh => h1 (add_rch hh))]
    rw [e1, e2]
theorem rch_ex {w : Shop} {m : Int} {K : Nat} {l : List Int} (hc : ∀ x ∈ l, ∃ n, w.can x n = true) : ∀ {k : Nat}, k ≤ l.length → ∃ b, w.rch m K l k b
  | 0, _ => ⟨0, rfl⟩
  | k + 1, h => by
    obtain ⟨b, hb⟩ := rch_ex hc (k := k) (by omega)
    obtain ⟨n, hn⟩ := hc _ (getD_memI (l := l) (j := k) (by omega))
    exact ⟨_, b, n, hb, hn, rfl⟩
theorem add_fits {w : Shop} {t : Trial} (hk : Ok w) (hk' : Ok (w.add t)) {i m k : Int} (hi : w.isSp i = true) (hm : w.isSl m k = true) (hc : ∃ n, (w.add t).can i n = true) (h : w.fitsV i m k ≠ 3) : (w.add t).fitsV i m k = w.fitsV i m k := by
  have hc' : ∃ n, w.can i n = true := by obtain ⟨n, hn⟩ := hc; exact ⟨n, add_can hn⟩
  rcases fits_3 w i m k with h1 | h1 | h1
  · rw [h1]
    exact (fits_1 (w := w.add t) hk' hi hm hc).2 fun n hn => (fits_1 hk hi hm hc').1 h1 n (add_can hn)
  · rw [h1]
    exact (fits_2 (w := w.add t) hk' hi).2 fun n hn => (fits_2 hk hi).1 h1 n (add_can hn)
  · exact absurd h1 h
theorem good_sure {w : Shop} {l : List Int} (hsp : ∀ x ∈ l, w.isSp x = true) : w.good l = true ↔ ∀ m, m < w.mks.length → ∀ s, s < (w.slots (m : Nat)).length → ∃ x ∈ l, w.sure x (m : Nat) (s : Nat) = true := by
  unfold Shop.good Shop.needs
  simp only [List.all_eq_true, List.any_eq_true, decide_eq_true_eq]
  constructor
  · intro h m hm s hs
    obtain ⟨x, hx, h2⟩ := h _ (mem_needK.2 ⟨m, hm, s, hs, rfl⟩)
    exact ⟨x, hx, (mem_numF.1 h2).2⟩
  · intro h f hf
    obtain ⟨m, hm, s, hs, rfl⟩ := mem_needK.1 hf
    obtain ⟨x, hx, h2⟩ := h m hm s hs
    have := isSp_iff.1 (hsp x hx)
    exact ⟨x, hx, mem_numF.2 ⟨by omega, h2⟩⟩
theorem add_good {w : Shop} {t : Trial} (hk : Ok w) (hk' : Ok (w.add t)) (hc : ∀ x, w.isSp x = true → ∃ n, (w.add t).can x n = true) {l : List Int} (hsp : ∀ x ∈ l, w.isSp x = true) (h : w.good l = true) : (w.add t).good l = true := by
  rw [good_sure (w := w.add t) hsp]
  rw [good_sure hsp] at h
  intro m hm s hs
  obtain ⟨x, hx, h2⟩ := h m hm s hs
  refine ⟨x, hx, ?_⟩
  have hmk : w.isMk (m : Nat) = true := isMk_iff.2 (by have : m < w.mks.length := hm; omega)
  have hsl : w.isSl (m : Nat) (s : Nat) = true := isSl_iff.2 ⟨hmk, by omega, by have : s < (w.slots (m : Nat)).length := hs; omega⟩
  unfold Shop.sure at h2 ⊢
  have h3 : w.fitsV x (m : Nat) (s : Nat) = 1 := by simpa using h2
  rw [add_fits hk hk' (hsp x hx) hsl (hc x (hsp x hx)) (by omega), h3]; rfl
theorem keep_le {w w' : Shop} (h : w.eF = 0) (h0' : w'.eO true = 0) (hg : ∀ l, w.isLi l = true → (∀ x ∈ l, w.isSp x = true) → w.good l = true → w'.isLi l = true ∧ w'.good l = true) : w'.eF = 0 ∧ w'.keep.length ≤ w.keep.length := by
  obtain ⟨q1, q2, q3⟩ := goods_ok (mins_goods (keep_mem h))
  obtain ⟨a, b⟩ := hg _ q2 q3 q1
  obtain ⟨c, d, _⟩ := mins_inv (mem_goods a b)
  refine ⟨?_, d⟩
  unfold Shop.eF
  rw [if_neg (by simpa using h0'), if_neg (by omega)]
theorem eF_3 {w : Shop} (h0 : w.eO true = 0) : w.eF = 0 ∨ w.eF = 3 := by
  unfold Shop.eF
  rw [if_neg (by simpa using h0)]
  split
  · exact .inr rfl
  · exact .inl rfl
theorem eO_f {w : Shop} (h0 : w.eO true = 0) : w.eO false = 1 := by
  unfold Shop.eO; rw [if_neg (by simpa using chk_0 h0)]; rfl
theorem few (w : Shop) (h0 : w.eO true = 0) : ∃ c k : Int, FnA Try.prog 26 [.agg w.cells] (· = .tup [.int .i64 c, .int .i64 k]) ∧ ((w.eF = 0 ∧ k = 0 ∧ c = w.keep.length) ∨ (w.eF = 3 ∧ k = 3)) := by
  rcases eF_3 h0 with h | h
  · exact ⟨_, _, p26 w h, .inl ⟨h, rfl, rfl⟩⟩
  · have := p26e w (by omega)
    rw [h] at this
    exact ⟨_, _, this, .inr ⟨h, rfl⟩⟩
/-- what is asked of the answers for a shop, and the same with one trial more -/
theorem k8_ok {w : Shop} {t : Trial} (h0 : w.eO true = 0) (h0' : (w.add t).eO true = 0) {i m k : Int} (hi : w.isSp i = true) (hm : w.isSl m k = true) :
    (w.loN i ≤ (w.add t).loN i ∧ (w.add t).hiN i ≤ w.hiN i) ∧ (w.fitsV i m k ≠ 3 → (w.add t).fitsV i m k = w.fitsV i m k) := by
  have hk := chk_ok (chk_0 h0)
  have hk' := chk_ok (chk_0 h0')
  have hc : ∃ n, (w.add t).can i n = true := can_ex h0' hi
  obtain ⟨a, b⟩ := loN_ok hk hi (can_ex h0 hi)
  obtain ⟨c, d⟩ := hiN_ok hk hi (can_ex h0 hi)
  obtain ⟨a', b'⟩ := loN_ok (w := w.add t) hk' hi hc
  obtain ⟨c', d'⟩ := hiN_ok (w := w.add t) hk' hi hc
  exact ⟨⟨b _ (add_can a'), d _ (add_can c')⟩, add_fits hk hk' hi hm hc⟩
/-- PartsTrial -/
theorem k8 (w : Shop) (t : Trial) (l : List Int) (i m k : Int) : FnA Try.prog 8 [.agg w.cells, .agg (t.av ++ [.isl (l.map jAV)]), .agg [.int .i64 i, .int .i64 m, .int .i64 k]] (· = .bool true) := by
  have e1 := p41 w
  have ll : (l.map jAV).length = l.length := by simp
  have lt : (w.tb.map Trial.av).length = w.tb.length := by simp
  cases hr : w.ready with
  | false =>
    rw [hr] at e1
    refine fnA 11 ok8 (by simp) ?_
    (conv => whnf); (repeat' ((first | refine bT ?_ | refine bF ?_ | refine bN ?_ | ((first | refine bD ?_ ?_ | refine bEq ?_ ?_ | refine bNe ?_ ?_) <;> intro hh <;> try (exfalso; omega)) | (refine (e1).callq rfl rfl fun _ h => ?_; subst h) | (refine (p15).callq rfl rfl fun _ h => ?_; subst h) | refine wIn (by omega) ?_ | refine nI (by omega) ?_) <;> conv => whnf))
    all_goals rfl
  | true =>
  rw [hr] at e1
  obtain ⟨hf, h0, hk⟩ := ready_ok hr
  have hB := hk.big
  have e3 := p43 w hB i m k
  cases ha : (w.isSp i && w.isSl m k) with
  | false =>
    rw [ha] at e3
    refine fnA 11 ok8 (by simp) ?_
    (conv => whnf); (repeat' ((first | refine bT ?_ | refine bF ?_ | refine bN ?_ | ((first | refine bD ?_ ?_ | refine bEq ?_ ?_ | refine bNe ?_ ?_) <;> intro hh <;> try (exfalso; omega)) | (refine (e1).callq rfl rfl fun _ h => ?_; subst h) | (refine (e3).callq rfl rfl fun _ h => ?_; subst h) | (refine (p15).callq rfl rfl fun _ h => ?_; subst h) | refine wIn (by omega) ?_ | refine nI (by omega) ?_) <;> conv => whnf))
    all_goals rfl
  | true =>
  rw [ha] at e3
  by_cases hlt : w.tb.length ≤ 9
  case neg =>
    refine fnA 11 ok8 (by simp) ?_
    (conv => whnf); (repeat' ((first | refine bT ?_ | refine bF ?_ | refine bN ?_ | ((first | refine bD ?_ ?_ | refine bEq ?_ ?_ | refine bNe ?_ ?_) <;> intro hh <;> try (exfalso; omega)) | (refine (e1).callq rfl rfl fun _ h => ?_; subst h) | (refine (e3).callq rfl rfl fun _ h => ?_; subst h) | (refine (p15).callq rfl rfl fun _ h => ?_; subst h) | refine wIn (by omega) ?_ | refine nI (by omega) ?_) <;> conv => whnf))
    all_goals rfl
  by_cases hl : l.length ≤ 20
  case neg =>
    refine fnA 11 ok8 (by simp) ?_
    (conv => whnf); (repeat' ((first | refine bT ?_ | refine bF ?_ | refine bN ?_ | ((first | refine bD ?_ ?_ | refine bEq ?_ ?_ | refine bNe ?_ ?_) <;> intro hh <;> try (exfalso; omega)) | (refine (e1).callq rfl rfl fun _ h => ?_; subst h) | (refine (e3).callq rfl rfl fun _ h => ?_; subst h) | (refine (p15).callq rfl rfl fun _ h => ?_; subst h) | refine wIn (by omega) ?_ | refine nI (by omega) ?_) <;> conv => whnf))
    all_goals rfl
  have e4 := p16o w hB
  have l1 : (w.sps.map Spare.av).length = w.sps.length := by simp
  have hcells : (w.add t).cells = [.isl (w.sps.map Spare.av), .isl (w.mks.map mkAV), .int .i64 w.cut, .isl (w.tb.map Trial.av ++ [[.int .i64 t.sp, .int .i64 t.mkr, .int .i64 t.sl, .int .i64 t.ft]])] := by
    simp [Shop.cells, Shop.add, Trial.av]
  have e5 := p41 (w.add t)
  rw [hcells] at e5
  have hi : w.isSp i = true := (Bool.and_eq_true _ _ ▸ ha : _ ∧ _).1
  have hm : w.isSl m k = true := (Bool.and_eq_true _ _ ▸ ha : _ ∧ _).2
  cases hr' : (w.add t).ready with
  | false =>
    rw [hr'] at e5
    refine fnA 11 ok8 (by simp) ?_
    (conv => whnf); (repeat' ((first | refine bT ?_ | refine bF ?_ | refine bN ?_ | ((first | refine bD ?_ ?_ | refine bEq ?_ ?_ | refine bNe ?_ ?_) <;> intro hh <;> try (exfalso; omega)) | (refine (e1).callq rfl rfl fun _ h => ?_; subst h) | (refine (e3).callq rfl rfl fun _ h => ?_; subst h) | refine wIn (by omega) ?_ | refine nI (by omega) ?_) <;> conv => whnf))
    refine e4.callzq rfl rfl (fun r rows hr => ?_)
    obtain ⟨rfl, rfl⟩ := hr
    refine ⟨rfl, ?_⟩
    (conv => whnf); (repeat' ((first | refine bT ?_ | refine bF ?_ | refine bN ?_ | ((first | refine bD ?_ ?_ | refine bEq ?_ ?_ | refine bNe ?_ ?_) <;> intro hh <;> try (exfalso; omega)) | (refine apI (by simp [AV.one]) (by simp only [lt]; simp; omega) ?_) | (refine (e5).lendq rfl fun _ h => ?_; subst h; refine ⟨rfl, ?_⟩) | (refine (p15).callq rfl rfl fun _ h => ?_; subst h) | refine wIn (by omega) ?_ | refine nI (by omega) ?_) <;> conv => whnf))
    all_goals rfl
  | true =>
  rw [hr'] at e5
  obtain ⟨_, h0', hk'⟩ := ready_ok hr'
  have hs : ∀ x ∈ w.mks, x.length ≤ 1000000 := fun x hx => (hB.sl x hx).1
  have q1 : w.eO (w.isSp i) = 0 := by rw [hi]; exact h0
  have q2 : w.eO (w.isSp i && w.isSl m k) = 0 := by rw [ha]; exact h0
  have q1' : (w.add t).eO ((w.add t).isSp i) = 0 := by show (w.add t).eO (w.isSp i) = 0; rw [hi]; exact h0'
  have q2' : (w.add t).eO ((w.add t).isSp i && (w.add t).isSl m k) = 0 := by show (w.add t).eO (w.isSp i && w.isSl m k) = 0; rw [ha]; exact h0'
  have a1 := p19 w i hB.s q1
  have b1 := p19 (w.add t) i hB.s q1'
  have a2 := p21 w i m k hB.s hB.m hs q2
  have b2 := p21 (w.add t) i m k hB.s hB.m hs q2'
  obtain ⟨c, kk, a4, hF⟩ := few w h0
  obtain ⟨d, ll2, b4, hF'⟩ := few (w.add t) h0'
  rw [hcells] at b1 b2 b4
  obtain ⟨⟨n1, n2⟩, n3⟩ := k8_ok h0 h0' hi hm
  have hmk := (isSl_iff.1 hm).1
  have hcx : ∀ x, w.isSp x = true → ∃ n, (w.add t).can x n = true := fun x hx => can_ex (w := w.add t) h0' hx
  have n5 : kk = 0 → ll2 = 0 ∧ d ≤ c := fun hz => by
    rcases hF with ⟨f1, f2, f3⟩ | ⟨f1, f2⟩
    · obtain ⟨g1, g2⟩ := keep_le (w' := w.add t) f1 h0' fun l hl hsp hg => ⟨hl, add_good hk hk' hcx hsp hg⟩
      rcases hF' with ⟨f1', f2', f3'⟩ | ⟨f1', f2'⟩
      · exact ⟨f2', by omega⟩
      · omega
    · omega
  have k3' : kk = 0 ∨ kk = 3 := by rcases hF with h | h <;> omega
  have l3' : ll2 = 0 ∨ ll2 = 3 := by rcases hF' with h | h <;> omega
  have hmd : ∃ p q e : Int, FnA Try.prog 24 [.agg w.cells, .isl (l.map jAV), .int .i64 m] (· = .tup [.int .i64 p, .int .i64 e]) ∧ FnA Try.prog 24 [.agg (w.add t).cells, .isl (l.map jAV), .int .i64 m] (· = .tup [.int .i64 q, .int .i64 e]) ∧ (p ≠ 3 → p = q) := by
    cases hli : w.isLi l with
    | true =>
      have hsp : ∀ x ∈ l, w.isSp x = true := by
        unfold Shop.isLi at hli
        rw [Bool.and_eq_true] at hli
        exact List.all_eq_true.1 hli.2
      refine ⟨_, _, _, p24 w l m hB.s hB.m (by omega) (by rw [hli, hmk]; exact h0), p24 (w.add t) l m hB.s hB.m (by omega) (by show (w.add t).eO (w.isLi l && w.isMk m) = 0; rw [hli, hmk]; exact h0'), fun hp => ?_⟩
      exact (add_mends (rch_ex (w := w.add t) (fun x hx => hcx x (hsp x hx)) (Nat.le_refl _)) hp).symm
    | false =>
      have u1 := p24e w l m hB.s hB.m (by omega) (by rw [hli, Bool.false_and, eO_f h0]; decide)
      have u2 := p24e (w.add t) l m hB.s hB.m (by omega) (by show (w.add t).eO (w.isLi l && w.isMk m) ≠ 0; rw [hli, Bool.false_and, eO_f h0']; decide)
      rw [hli, Bool.false_and, eO_f h0] at u1
      have v : (w.add t).eO ((w.add t).isLi l && (w.add t).isMk m) = 1 := by show (w.add t).eO (w.isLi l && w.isMk m) = 1; rw [hli, Bool.false_and, eO_f h0']
      rw [v] at u2
      exact ⟨_, _, _, u1, u2, fun _ => rfl⟩
  obtain ⟨p, q, ee, a3, b3, n4⟩ := hmd
  rw [hcells] at b3
  generalize w.loN i = lo at *
  generalize w.hiN i = hi2 at *
  generalize (w.add t).loN i = lo' at *
  generalize (w.add t).hiN i = hi2' at *
  generalize w.fitsV i m k = f at *
  generalize (w.add t).fitsV i m k = f' at *
  refine fnA 11 ok8 (by simp) ?_
  (conv => whnf); (repeat' ((first | refine bT ?_ | refine bF ?_ | refine bN ?_ | ((first | refine bD ?_ ?_ | refine bEq ?_ ?_ | refine bNe ?_ ?_) <;> intro hh <;> try (exfalso; omega)) | (refine (e1).callq rfl rfl fun _ h => ?_; subst h) | (refine (e3).callq rfl rfl fun _ h => ?_; subst h) | refine wIn (by omega) ?_ | refine nI (by omega) ?_) <;> conv => whnf))
  refine e4.callzq rfl rfl (fun r rows hr => ?_)
  obtain ⟨rfl, rfl⟩ := hr
  refine ⟨rfl, ?_⟩
  (conv => whnf); (repeat' ((first | refine bT ?_ | refine bF ?_ | refine bN ?_ | ((first | refine bD ?_ ?_ | refine bEq ?_ ?_ | refine bNe ?_ ?_) <;> intro hh <;> try (exfalso; omega)) | (refine apI (by simp [AV.one]) (by simp only [lt]; simp; omega) ?_) | (refine (e5).lendq rfl fun _ h => ?_; subst h; refine ⟨rfl, ?_⟩) | (refine (p15).callq rfl rfl fun _ h => ?_; subst h) | (refine (a1).callq rfl rfl fun _ h => ?_; subst h) | (refine (b1).lendq rfl fun _ h => ?_; subst h; refine ⟨rfl, ?_⟩) | (refine (a2).callq rfl rfl fun _ h => ?_; subst h) | (refine (b2).lendq rfl fun _ h => ?_; subst h; refine ⟨rfl, ?_⟩) | (refine (a3).callq rfl rfl fun _ h => ?_; subst h) | (refine (b3).lendq rfl fun _ h => ?_; subst h; refine ⟨rfl, ?_⟩) | (refine (a4).callq rfl rfl fun _ h => ?_; subst h) | (refine (b4).lendq rfl fun _ h => ?_; subst h; refine ⟨rfl, ?_⟩) | (refine bKT ?_ ?_; (focus (simp; done))) | refine wIn (by omega) ?_ | refine nI (by omega) ?_) <;> conv => whnf))
  all_goals rfl
/-- two shops that agree on the spares, makes and slots that both have -/
structure Agree (w v : Shop) : Prop where
  can : ∀ x, w.isSp x = true → v.isSp x = true → ∀ n, w.can x n = v.can x n
  fit : ∀ x, w.isSp x = true → v.isSp x = true → ∀ m s, w.isSl m s = true → v.isSl m s = true → ∀ n, w.fit x n m s = v.fit x n m s
theorem Agree.symm {w v : Shop} (h : Agree w v) : Agree v w := ⟨fun x a b n => (h.can x b a n).symm, fun x a b m s c d n => (h.fit x b a m s d c n).symm⟩
theorem Agree.sure {w v : Shop} (h : Agree w v) (h0 : w.eO true = 0) (h0' : v.eO true = 0) {x m s : Int} (a : w.isSp x = true) (b : v.isSp x = true) (c : w.isSl m s = true) (d : v.isSl m s = true) : w.sure x m s = v.sure x m s := by
  have hk := chk_ok (chk_0 h0)
  have hk' := chk_ok (chk_0 h0')
  unfold Shop.sure
  rw [Bool.eq_iff_iff, beq_iff_eq, beq_iff_eq, fits_1 hk a c (can_ex h0 a), fits_1 hk' b d (can_ex h0' b)]
  constructor
  · intro hh n hn
    rw [← h.can x a b] at hn
    rw [← h.fit x a b m s c d]; exact hh n hn
  · intro hh n hn
    rw [h.can x a b] at hn
    rw [h.fit x a b m s c d]; exact hh n hn
theorem Agree.good {w v : Shop} (h : Agree w v) (h0 : w.eO true = 0) (h0' : v.eO true = 0) (hm : ∀ m : Nat, m < v.mks.length → m < w.mks.length ∧ v.slots (m : Nat) = w.slots (m : Nat)) {l : List Int} (a : ∀ x ∈ l, w.isSp x = true) (b : ∀ x ∈ l, v.isSp x = true) (hg : w.good l = true) : v.good l = true := by
  rw [good_sure b]
  rw [good_sure a] at hg
  intro m hmv s hs
  obtain ⟨m1, m2⟩ := hm m hmv
  rw [m2] at hs
  obtain ⟨x, hx, hsu⟩ := hg m m1 s hs
  refine ⟨x, hx, ?_⟩
  have c : w.isSl (m : Nat) (s : Nat) = true := isSl_iff.2 ⟨isMk_iff.2 (by omega), by omega, by omega⟩
  have d : v.isSl (m : Nat) (s : Nat) = true := isSl_iff.2 ⟨isMk_iff.2 (by omega), by omega, by rw [m2]; omega⟩
  rw [← h.sure h0 h0' (a x hx) (b x hx) c d]; exact hsu
def Shop.more (w : Shop) (s : Spare) : Shop := { w with sps := w.sps ++ [s] }
def Shop.less (w : Shop) : Shop := { w with mks := w.mks.take (w.mks.length - 1) }
def Shop.wout (w : Shop) : Shop := { w with sps := w.sps.take (w.sps.length - 1) }
theorem agree_sp {w v : Shop} (hc : w.cut = v.cut) (hm : w.mks = v.mks) (ht : w.tb = v.tb) (hs : ∀ x, w.isSp x = true → v.isSp x = true → w.sp x = v.sp x) : Agree w v := by
  have hf : ∀ x, w.isSp x = true → v.isSp x = true → ∀ m s n, w.fit x n m s = v.fit x n m s := fun x a b m s n => by
    unfold Shop.fit Shop.kin Shop.slot Shop.slots
    rw [hs x a b, hm, hc]
  refine ⟨fun x a b n => ?_, fun x a b m s _ _ n => hf x a b m s n⟩
  unfold Shop.can
  rw [hs x a b, ht]
  congr 1
  apply List.all_congr rfl
  intro t
  unfold okT
  rw [hf x a b]
theorem more_agree (w : Shop) (s : Spare) : Agree w (w.more s) := agree_sp rfl rfl rfl fun x a _ => by
  have := isSp_iff.1 a
  unfold Shop.sp Shop.more
  rw [List.getD_eq_getElem?_getD, List.getD_eq_getElem?_getD, List.getElem?_append_left (by omega)]
theorem wout_agree (w : Shop) : Agree w w.wout := agree_sp rfl rfl rfl fun x a b => by
  have h1 := isSp_iff.1 a
  have h2 := isSp_iff.1 b
  have h3 : w.wout.sps.length = min (w.sps.length - 1) w.sps.length := by unfold Shop.wout; simp
  unfold Shop.sp Shop.wout
  rw [List.getD_eq_getElem?_getD, List.getD_eq_getElem?_getD, List.getElem?_take_of_lt (by omega)]
theorem less_slots (w : Shop) (m : Int) (h : 0 ≤ m ∧ m < w.less.mks.length) : w.less.slots m = w.slots m := by
  have h3 : w.less.mks.length = min (w.mks.length - 1) w.mks.length := by unfold Shop.less; simp
  unfold Shop.slots Shop.less
  rw [List.getD_eq_getElem?_getD, List.getD_eq_getElem?_getD, List.getElem?_take_of_lt (by omega)]
theorem less_agree (w : Shop) (hk : Ok w.less) : Agree w w.less := by
  have hf : ∀ x m s n, w.less.isSl m s = true → w.fit x n m s = w.less.fit x n m s := fun x m s n d => by
    have := isMk_iff.1 (isSl_iff.1 d).1
    unfold Shop.fit Shop.kin Shop.slot
    rw [less_slots w m this]; rfl
  refine ⟨fun x a b n => ?_, fun x a b m s _ d n => hf x m s n d⟩
  unfold Shop.can
  have e : w.less.sp x = w.sp x := rfl
  have et : w.less.tb = w.tb := rfl
  rw [e, et]
  congr 1
  rw [Bool.eq_iff_iff, List.all_eq_true, List.all_eq_true]
  constructor
  · intro h t ht
    have := h t ht
    unfold okT at this ⊢
    rw [← hf x t.mkr t.sl n (hk.t2 t ht).2.1]; exact this
  · intro h t ht
    have := h t ht
    unfold okT at this ⊢
    rw [hf x t.mkr t.sl n (hk.t2 t ht).2.1]; exact this
theorem mins_eq {w : Shop} {l : List Int} (h : l ∈ w.mins) : l.length = w.keep.length := by
  have h1 := bestL_inv (ys := w.goods) (k := w.goods.length) (Nat.le_refl _)
  rw [List.take_length] at h1
  exact h1.2.2 l h
theorem li_of {w v : Shop} {l : List Int} (h : w.isLi l = true) (hs : ∀ x ∈ l, v.isSp x = true) : v.isLi l = true := by
  unfold Shop.isLi at h ⊢
  rw [Bool.and_eq_true] at h ⊢
  exact ⟨h.1, List.all_eq_true.2 hs⟩
theorem more_le {w : Shop} {s : Spare} (h0 : w.eO true = 0) (h0' : (w.more s).eO true = 0) (h : w.eF = 0) : (w.more s).eF = 0 ∧ (w.more s).keep.length ≤ w.keep.length :=
  keep_le h h0' fun l hl hsp hg => by
    have hs : ∀ x ∈ l, (w.more s).isSp x = true := fun x hx => isSp_iff.2 (by
      have := isSp_iff.1 (hsp x hx)
      have e : (w.more s).sps.length = w.sps.length + 1 := by simp [Shop.more]
      omega)
    exact ⟨li_of hl hs, (more_agree w s).good h0 h0' (fun m hm => ⟨hm, rfl⟩) hsp hs hg⟩
theorem less_le {w : Shop} (h0 : w.eO true = 0) (h0' : w.less.eO true = 0) (h : w.eF = 0) : w.less.eF = 0 ∧ w.less.keep.length ≤ w.keep.length :=
  keep_le h h0' fun l hl hsp hg => by
    refine ⟨li_of hl hsp, (less_agree w (chk_ok (chk_0 h0'))).good h0 h0' (fun m hm => ⟨?_, less_slots w m (by omega)⟩) hsp hsp hg⟩
    have h3 : w.less.mks.length = min (w.mks.length - 1) w.mks.length := by unfold Shop.less; simp
    omega
theorem wout_sp {w : Shop} {x : Int} (h : w.wout.isSp x = true) : w.isSp x = true ∧ x < (w.sps.length : Int) - 1 := by
  have h2 := isSp_iff.1 h
  have h3 : w.wout.sps.length = min (w.sps.length - 1) w.sps.length := by unfold Shop.wout; simp
  exact ⟨isSp_iff.2 (by omega), by omega⟩
theorem sp_wout {w : Shop} {x : Int} (h : w.isSp x = true) (h1 : x ≠ (w.sps.length : Int) - 1) : w.wout.isSp x = true := by
  have h2 := isSp_iff.1 h
  have h3 : w.wout.sps.length = min (w.sps.length - 1) w.sps.length := by unfold Shop.wout; simp
  exact isSp_iff.2 (by omega)
theorem wout_le {w : Shop} (h0 : w.eO true = 0) (h0' : w.wout.eO true = 0) (h : w.wout.eF = 0) : w.eF = 0 ∧ w.keep.length ≤ w.wout.keep.length :=
  keep_le h h0 fun l hl hsp hg => by
    have hs : ∀ x ∈ l, w.isSp x = true := fun x hx => (wout_sp (hsp x hx)).1
    exact ⟨li_of hl hs, (wout_agree w).symm.good h0' h0 (fun m hm => ⟨hm, rfl⟩) hsp hs hg⟩
theorem wout_needed {w : Shop} (h0 : w.eO true = 0) (h0' : w.wout.eO true = 0) (h : w.eF = 0) (hn : 0 < w.sps.length) : ((w.sps.length : Int) - 1 ∈ w.needed) ↔ ¬ (w.wout.eF = 0 ∧ w.wout.keep.length ≤ w.keep.length) := by
  constructor
  · rintro hin ⟨h1, h2⟩
    obtain ⟨q1, q2, q3⟩ := goods_ok (mins_goods (keep_mem h1))
    have hs : ∀ x ∈ w.wout.keep, w.isSp x = true := fun x hx => (wout_sp (q3 x hx)).1
    have hg := (wout_agree w).symm.good h0' h0 (fun m hm => ⟨hm, rfl⟩) q3 hs q1
    obtain ⟨_, b, c⟩ := mins_inv (mem_goods (li_of q2 hs) hg)
    have := needed_sub (c (by omega)) _ hin
    have := (wout_sp (q3 _ this)).2
    omega
  · intro hh
    apply Classical.byContradiction
    intro hnin
    apply hh
    have hB : w.needB ((w.sps.length : Int) - 1) = false := by
      cases hb : w.needB ((w.sps.length : Int) - 1) with
      | false => rfl
      | true => exact absurd (mem_numF.2 ⟨by omega, hb⟩) hnin
    unfold Shop.needB at hB
    rw [List.all_eq_false] at hB
    obtain ⟨l, hl, hx⟩ := hB
    have hx : ¬ (w.sps.length : Int) - 1 ∈ l := by simpa using hx
    obtain ⟨q1, q2, q3⟩ := goods_ok (mins_goods hl)
    have hs : ∀ x ∈ l, w.wout.isSp x = true := fun x hx2 => sp_wout (q3 x hx2) fun e => hx (e ▸ hx2)
    have hg := (wout_agree w).good h0 h0' (fun m hm => ⟨hm, rfl⟩) q3 hs q1
    obtain ⟨a, b, _⟩ := mins_inv (mem_goods (li_of q2 hs) hg)
    rw [mins_eq hl] at b
    refine ⟨?_, b⟩
    unfold Shop.eF
    rw [if_neg (by simpa using h0'), if_neg (by omega)]
theorem slJ {sz : Nat} {es es' : List (List AV)} {lo hi : Int} {K : List (List AV) → Prop} (h0 : 0 ≤ lo) (h1 : lo ≤ hi) (h2 : hi ≤ es.length) (h3 : ∀ e ∈ es, e.length = sz) (he : (es.take hi.toNat).drop lo.toNat = es') (hk : K es') : SlE sz es lo hi K := ⟨h0, h1, h2, h3, by rw [he]; exact hk⟩
set_option maxHeartbeats 4000000 in
theorem k10m (w : Shop) (s : Spare) (n e : Int) (nd : List Int) (hB : Big w) (hrw : w.ready = true) (hm1 : w.mks.length ≤ 6) (hls : w.sps.length ≤ 5) (hnl : nd.length ≤ 10)
    (a1 : FnA Try.prog 26 [.agg w.cells] (· = .tup [.int .i64 n, .int .i64 e])) (a2 : FnA Try.prog 28 [.agg w.cells] (· = .tup [.isl (nd.map jAV), .int .i64 e])) (he : e = 0 ∨ e = 3)
    (hM : (w.more s).ready = false ∨ ∃ m g : Int, (w.more s).ready = true ∧ FnA Try.prog 26 [.agg (w.more s).cells] (· = .tup [.int .i64 m, .int .i64 g]) ∧ (g = 0 ∨ g = 3) ∧ (e = 0 → g = 0 ∧ m ≤ n))
    (hL : w.mks.length = 0 ∨ (0 < w.mks.length ∧ w.less.ready = false) ∨ (0 < w.mks.length ∧ ∃ m g : Int, w.less.ready = true ∧ FnA Try.prog 26 [.agg w.less.cells] (· = .tup [.int .i64 m, .int .i64 g]) ∧ (g = 0 ∨ g = 3) ∧ (e = 0 → g = 0 ∧ m ≤ n)))
    (hW : w.sps.length = 0 ∨ (0 < w.sps.length ∧ w.wout.ready = false) ∨ (0 < w.sps.length ∧ ∃ m g : Int, w.wout.ready = true ∧ FnA Try.prog 26 [.agg w.wout.cells] (· = .tup [.int .i64 m, .int .i64 g]) ∧ (g = 0 ∨ g = 3) ∧ (g = 0 → e = 0 ∧ n ≤ m) ∧ ((e = 0 ∧ g = 0 ∧ m ≤ n ∧ decide ((w.sps.length : Int) - 1 ∈ nd) = false) ∨ (e = 0 ∧ (g ≠ 0 ∨ n < m) ∧ decide ((w.sps.length : Int) - 1 ∈ nd) = true) ∨ e = 3))) :
    FnA Try.prog 10 [.agg w.cells, .agg s.av] (· = .bool true) := by
  have e1 := p41 w
  have l1 : (w.sps.map Spare.av).length = w.sps.length := by simp
  have l2 : (w.mks.map mkAV).length = w.mks.length := by simp
  rw [hrw] at e1
  have hcp := p16o w hB
  have e2 := p16 w hB
  have hBm := hB.m
  have hmc : (w.more s).cells = [.isl (w.sps.map Spare.av ++ [[.int .i64 s.k, .int .i64 s.s, .int .i64 s.lo, .int .i64 s.hi]]), .isl (w.mks.map mkAV), .int .i64 w.cut, .isl (w.tb.map Trial.av)] := by
    simp [Shop.cells, Shop.more, Spare.av]
  have e5 := p41 (w.more s)
  rw [hmc] at e5
  rw [hmc] at hM
  have e6 := p41 w.less
  have e7 := p41 w.wout
  have a7 := p51 nd ((w.sps.length : Int) - 1) (by omega)
  have hs1 : ((w.mks.map mkAV).take (↑(w.mks.map mkAV).length - 1 : Int).toNat).drop (0 : Int).toNat = w.less.mks.map mkAV := by
    unfold Shop.less
    rw [List.length_map, show ((w.mks.length : Int) - 1).toNat = w.mks.length - 1 by omega, List.map_take]; rfl
  have hs2 : ((w.sps.map Spare.av).take (↑(w.sps.map Spare.av).length - 1 : Int).toNat).drop (0 : Int).toNat = w.wout.sps.map Spare.av := by
    unfold Shop.wout
    rw [List.length_map, show ((w.sps.length : Int) - 1).toNat = w.sps.length - 1 by omega, List.map_take]; rfl
  have z1 : ∀ e ∈ w.mks.map mkAV, e.length = 1 := fun e he => by obtain ⟨x, _, rfl⟩ := List.mem_map.1 he; rfl
  have z2 : ∀ e ∈ w.sps.map Spare.av, e.length = 4 := fun e he => by obtain ⟨x, _, rfl⟩ := List.mem_map.1 he; rfl
  refine fnA 17 ok10 (by simp) ?_
  rcases he with rfl | rfl
  all_goals
    (conv => whnf); (repeat' ((first | refine bT ?_ | refine bF ?_ | refine bN ?_ | ((first | refine bD ?_ ?_ | refine bEq ?_ ?_ | refine bNe ?_ ?_) <;> intro hh <;> try (exfalso; omega)) | (refine (e1).callq rfl rfl fun _ h => ?_; subst h) | (refine (a1).callq rfl rfl fun _ h => ?_; subst h) | (refine (a2).callzq rfl rfl fun _ h => ?_; subst h) | refine wIn (by omega) ?_ | refine nI (by omega) ?_) <;> conv => whnf))
    refine hcp.callzq rfl rfl (fun r rows hr => ?_)
    obtain ⟨rfl, rfl⟩ := hr
    refine ⟨rfl, ?_⟩
    rcases hM with hM | ⟨m1, g1, hM, b5, rfl | rfl, hq1⟩
  all_goals first | (exfalso; omega) | skip
  all_goals
    rw [hM] at e5
    (conv => whnf); (repeat' ((first | refine bT ?_ | refine bF ?_ | refine bN ?_ | ((first | refine bD ?_ ?_ | refine bEq ?_ ?_ | refine bNe ?_ ?_) <;> intro hh <;> try (exfalso; omega)) | (refine apI (by simp [AV.one]) (by simp only [l1]; simp; omega) ?_) | (refine (e5).lendq rfl fun _ h => ?_; subst h; refine ⟨rfl, ?_⟩) | (refine (b5).lendq rfl fun _ h => ?_; subst h; refine ⟨rfl, ?_⟩) | refine wIn (by omega) ?_ | refine nI (by omega) ?_) <;> conv => whnf))
  all_goals
    refine e2.callzq rfl rfl fun _ h => ?_
    subst h
    rcases hL with hL | ⟨hL0, hL⟩ | ⟨hL0, m2, g2, hL, b6, rfl | rfl, hq2⟩
  all_goals first | (exfalso; omega) | skip
  all_goals
    try rw [hL] at e6
    (conv => whnf); (repeat' ((first | refine bT ?_ | refine bF ?_ | refine bN ?_ | ((first | refine bD ?_ ?_ | refine bEq ?_ ?_ | refine bNe ?_ ?_) <;> intro hh <;> try (exfalso; omega)) | (refine slJ (by omega) (by omega) (by omega) z1 hs1 ?_) | (refine (e6).lendq rfl fun _ h => ?_; subst h; refine ⟨rfl, ?_⟩) | (refine (b6).lendq rfl fun _ h => ?_; subst h; refine ⟨rfl, ?_⟩) | (refine (e6).callq rfl rfl fun _ h => ?_; subst h) | (refine (b6).callq rfl rfl fun _ h => ?_; subst h) | refine wIn (by omega) ?_ | refine nI (by omega) ?_) <;> conv => whnf))
  all_goals
    refine e2.callzq rfl rfl fun _ h => ?_
    subst h
  all_goals
    rcases hW with hW | ⟨hW0, hW⟩ | ⟨hW0, m3, g3, hW, b7, rfl | rfl, hq3, ⟨u1, u2, u3, u4⟩ | ⟨u1, u2, u4⟩ | u1⟩
  all_goals first | (exfalso; omega) | skip
  all_goals
    try rw [hW] at e7
    try rw [u4] at a7
    rw [← l1] at a7
    (conv => whnf); (repeat' ((first | refine bT ?_ | refine bF ?_ | refine bN ?_ | ((first | refine bD ?_ ?_ | refine bEq ?_ ?_ | refine bNe ?_ ?_) <;> intro hh <;> try (exfalso; omega)) | (refine slJ (by omega) (by omega) (by omega) z2 hs2 ?_) | (refine (e7).callq rfl rfl fun _ h => ?_; subst h) | (refine (b7).callq rfl rfl fun _ h => ?_; subst h) | (refine (a7).callq rfl rfl fun _ h => ?_; subst h) | (refine (p15).callq rfl rfl fun _ h => ?_; subst h) | (refine bKT ?_ ?_; (focus (simp; done))) | refine wIn (by omega) ?_ | refine nI (by omega) ?_) <;> conv => whnf))
  all_goals first | rfl | (exfalso; simp at hh; omega)
/-- PartsLess -/
theorem k10 (w : Shop) (s : Spare) : FnA Try.prog 10 [.agg w.cells, .agg s.av] (· = .bool true) := by
  have e1 := p41 w
  have l1 : (w.sps.map Spare.av).length = w.sps.length := by simp
  cases hr : w.ready with
  | false =>
    rw [hr] at e1
    refine fnA 17 ok10 (by simp) ?_
    (conv => whnf); (repeat' ((first | refine bT ?_ | refine bF ?_ | refine bN ?_ | ((first | refine bD ?_ ?_ | refine bEq ?_ ?_ | refine bNe ?_ ?_) <;> intro hh <;> try (exfalso; omega)) | (refine (e1).callq rfl rfl fun _ h => ?_; subst h) | (refine (p15).callq rfl rfl fun _ h => ?_; subst h) | refine wIn (by omega) ?_ | refine nI (by omega) ?_) <;> conv => whnf))
    all_goals rfl
  | true =>
  rw [hr] at e1
  obtain ⟨hf, h0, hk⟩ := ready_ok hr
  by_cases hls : w.sps.length ≤ 5
  case neg =>
    refine fnA 17 ok10 (by simp) ?_
    (conv => whnf); (repeat' ((first | refine bT ?_ | refine bF ?_ | refine bN ?_ | ((first | refine bD ?_ ?_ | refine bEq ?_ ?_ | refine bNe ?_ ?_) <;> intro hh <;> try (exfalso; omega)) | (refine (e1).callq rfl rfl fun _ h => ?_; subst h) | (refine (p15).callq rfl rfl fun _ h => ?_; subst h) | refine wIn (by omega) ?_ | refine nI (by omega) ?_) <;> conv => whnf))
    all_goals rfl
  have hsp1 := hk.s1
  have hM : ∀ n e : Int, (w.eF = 0 ∧ e = 0 ∧ n = w.keep.length) ∨ (w.eF = 3 ∧ e = 3) → ((w.more s).ready = false ∨ ∃ m g : Int, (w.more s).ready = true ∧ FnA Try.prog 26 [.agg (w.more s).cells] (· = .tup [.int .i64 m, .int .i64 g]) ∧ (g = 0 ∨ g = 3) ∧ (e = 0 → g = 0 ∧ m ≤ n)) := fun n e he => by
    cases hr' : (w.more s).ready with
    | false => exact .inl rfl
    | true =>
      obtain ⟨_, h0', _⟩ := ready_ok hr'
      obtain ⟨m, g, b, hF⟩ := few (w.more s) h0'
      refine .inr ⟨m, g, rfl, b, by rcases hF with h | h <;> omega, fun hz => ?_⟩
      rcases he with he | he
      · obtain ⟨q1, q2⟩ := more_le h0 h0' he.1
        rcases hF with h | h <;> omega
      · omega
  have hL : ∀ n e : Int, (w.eF = 0 ∧ e = 0 ∧ n = w.keep.length) ∨ (w.eF = 3 ∧ e = 3) → (w.mks.length = 0 ∨ (0 < w.mks.length ∧ w.less.ready = false) ∨ (0 < w.mks.length ∧ ∃ m g : Int, w.less.ready = true ∧ FnA Try.prog 26 [.agg w.less.cells] (· = .tup [.int .i64 m, .int .i64 g]) ∧ (g = 0 ∨ g = 3) ∧ (e = 0 → g = 0 ∧ m ≤ n))) := fun n e he => by
    by_cases hz : w.mks.length = 0
    · exact .inl hz
    cases hr' : w.less.ready with
    | false => exact .inr (.inl ⟨by omega, rfl⟩)
    | true =>
      obtain ⟨_, h0', _⟩ := ready_ok hr'
      obtain ⟨m, g, b, hF⟩ := few w.less h0'
      refine .inr (.inr ⟨by omega, m, g, rfl, b, by rcases hF with h | h <;> omega, fun hz => ?_⟩)
      rcases he with he | he
      · obtain ⟨q1, q2⟩ := less_le h0 h0' he.1
        rcases hF with h | h <;> omega
      · omega
  rcases eF_3 h0 with hE | hE
  · refine k10m w s w.keep.length 0 w.needed hk.big hr hk.m1 hls (by have := numF_len w.sps.length w.needB; unfold Shop.needed; omega) (p26 w hE) (p28 w hE) (.inl rfl) (hM _ _ (.inl ⟨hE, rfl, rfl⟩)) (hL _ _ (.inl ⟨hE, rfl, rfl⟩)) ?_
    by_cases hz : w.sps.length = 0
    · exact .inl hz
    cases hr' : w.wout.ready with
    | false => exact .inr (.inl ⟨by omega, rfl⟩)
    | true =>
      obtain ⟨_, h0', _⟩ := ready_ok hr'
      obtain ⟨m, g, b, hF⟩ := few w.wout h0'
      have hnd := wout_needed h0 h0' hE (by omega)
      refine .inr (.inr ⟨by omega, m, g, rfl, b, by rcases hF with h | h <;> omega, fun hz => ?_, ?_⟩)
      · rcases hF with h | h
        · obtain ⟨q1, q2⟩ := wout_le h0 h0' h.1
          exact ⟨rfl, by omega⟩
        · omega
      · by_cases hg : w.wout.eF = 0 ∧ w.wout.keep.length ≤ w.keep.length
        · left
          rcases hF with h | h
          · exact ⟨rfl, h.2.1, by omega, decide_eq_false fun hi => hnd.1 hi hg⟩
          · omega
        · right; left
          refine ⟨rfl, ?_, decide_eq_true (hnd.2 hg)⟩
          rcases hF with h | h
          · right
            have : ¬ w.wout.keep.length ≤ w.keep.length := fun hle => hg ⟨h.1, hle⟩
            omega
          · left; omega
  · have a1 := p26e w (by omega)
    have a2 := p28e w (by omega)
    rw [hE] at a1 a2
    refine k10m w s 0 3 [] hk.big hr hk.m1 hls (by simp) a1 a2 (.inr rfl) (hM _ _ (.inr ⟨hE, rfl⟩)) (hL _ _ (.inr ⟨hE, rfl⟩)) ?_
    by_cases hz : w.sps.length = 0
    · exact .inl hz
    cases hr' : w.wout.ready with
    | false => exact .inr (.inl ⟨by omega, rfl⟩)
    | true =>
      obtain ⟨_, h0', _⟩ := ready_ok hr'
      obtain ⟨m, g, b, hF⟩ := few w.wout h0'
      refine .inr (.inr ⟨by omega, m, g, rfl, b, by rcases hF with h | h <;> omega, fun hz => ?_, .inr (.inr rfl)⟩)
      rcases hF with h | h
      · obtain ⟨q1, _⟩ := wout_le h0 h0' h.1
        omega
      · omega
end Go.Proofs
