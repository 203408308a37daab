/- What each function of this program answers, proved by walking its body: the contracts that the law rests on, part 4. -/
import Derived.Test.YtngninkkcnalkaaCFns3
set_option linter.unusedSimpArgs false
set_option linter.unusedVariables false
set_option linter.unusedSectionVars false
namespace Go.Proofs
open Go.Eng
attribute [local irreducible] Go.Eng.brB Go.Eng.need Go.Eng.wrE Go.Eng.iaE Go.Eng.slE Go.Eng.apE Go.Eng.CallZ Go.Eng.CallE Go.Eng.VCallE Go.Eng.YldE Go.Eng.GoC Go.Eng.MeetsE Go.Eng.FnA Go.Eng.FnV Go.Eng.ItA Go.Eng.ItM
set_option maxRecDepth 100000
theorem cov_bit (w : Shop) (i n m : Int) : ∀ K s : Nat, (w.cov i n m K).testBit s = (decide (s < K) && w.fit i n m (s : Nat))
  | 0, s => by simp [Shop.cov]
  | K + 1, s => by
    have ih := cov_bit w i n m K
    simp only [Shop.cov]
    cases hf : w.fit i n m (K : Nat) with
    | true =>
      simp only [if_true]
      rw [← or_pow (cov_lt w i n m K), Nat.testBit_or, ih, Nat.testBit_two_pow]
      by_cases h : s = K
      · subst h; simp [hf]
      · have h1 : decide (K = s) = false := decide_eq_false (fun e => h e.symm)
        have h2 : decide (s < K + 1) = decide (s < K) := decide_eq_decide.2 (by omega)
        rw [h1, h2, Bool.or_false]
    | false =>
      simp only [Bool.false_eq_true, if_false, Nat.add_zero]
      rw [ih]
      by_cases h : s = K
      · subst h; simp [hf]
      · have h2 : decide (s < K + 1) = decide (s < K) := decide_eq_decide.2 (by omega)
        rw [h2]
/-- the slots that spares of these lengths fit together -/
def orN (w : Shop) (m : Int) (K : Nat) (l : List Int) (T : Int → Int) : Nat → Nat
  | 0 => 0
  | k + 1 => orN w m K l T k ||| w.cov (l.getD k 0) (T (l.getD k 0)) m K
theorem orN_rch {w : Shop} {m : Int} {K : Nat} {l : List Int} {T : Int → Int} : ∀ {k : Nat}, k ≤ l.length → (∀ x ∈ l, w.can x (T x) = true) → w.rch m K l k (orN w m K l T k)
  | 0, _, _ => rfl
  | k + 1, hk, h => ⟨_, _, orN_rch (by omega) h, h _ (getD_memI (by omega)), rfl⟩
theorem orN_bit {w : Shop} {m : Int} {K : Nat} {l : List Int} {T : Int → Int} : ∀ {k s : Nat}, k ≤ l.length → ((orN w m K l T k).testBit s = true ↔ s < K ∧ ∃ j, j < k ∧ w.fit (l.getD j 0) (T (l.getD j 0)) m (s : Nat) = true)
  | 0, s, _ => by simp [orN]
  | k + 1, s, h => by
    have ih := orN_bit (w := w) (m := m) (K := K) (l := l) (T := T) (k := k) (s := s) (by omega)
    unfold orN
    rw [Nat.testBit_or, Bool.or_eq_true, ih, cov_bit, Bool.and_eq_true, decide_eq_true_eq]
    constructor
    · rintro (⟨a, j, b, c⟩ | ⟨a, b⟩)
      · exact ⟨a, j, by omega, c⟩
      · exact ⟨a, k, by omega, b⟩
    · rintro ⟨a, j, b, c⟩
      by_cases e : j = k
      · subst e; exact .inr ⟨a, c⟩
      · exact .inl ⟨a, j, by omega, c⟩
theorem full_iff {K b : Nat} (h : b < 2 ^ K) : b = 2 ^ K - 1 ↔ ∀ s, s < K → b.testBit s = true := by
  constructor
  · rintro rfl s hs; rw [Nat.testBit_two_pow_sub_one]; exact decide_eq_true hs
  · intro hb
    apply Nat.eq_of_testBit_eq
    intro s
    rw [Nat.testBit_two_pow_sub_one]
    by_cases hs : s < K
    · rw [hb s hs, decide_eq_true hs]
    · rw [decide_eq_false hs]
      exact Nat.testBit_lt_two_pow (Nat.lt_of_lt_of_le h (Nat.pow_le_pow_right (by omega) (by omega)))
/-- each slot of a make is fitted, if spares have these lengths -/
def mended (w : Shop) (m : Int) (l : List Int) (T : Int → Int) : Bool := (List.range (w.slots m).length).all fun s => l.any fun x => w.fit x (T x) m (s : Nat)
theorem mended_iff {w : Shop} {m : Int} {l : List Int} {T : Int → Int} : mended w m l T = true ↔ orN w m (w.slots m).length l T l.length = 2 ^ (w.slots m).length - 1 := by
  have hlt : orN w m (w.slots m).length l T l.length < 2 ^ (w.slots m).length := by
    have : ∀ k, orN w m (w.slots m).length l T k < 2 ^ (w.slots m).length := fun k => by
      induction k with
      | zero => exact Nat.pow_pos (by omega)
      | succ k ih => exact Nat.or_lt_two_pow ih (cov_lt _ _ _ _ _)
    exact this _
  rw [full_iff hlt]
  unfold mended
  simp only [List.all_eq_true, List.mem_range, List.any_eq_true]
  constructor
  · intro h s hs
    obtain ⟨x, hx, hf⟩ := h s hs
    obtain ⟨j, hj, rfl⟩ := List.getElem_of_mem hx
    refine (orN_bit (Nat.le_refl _)).2 ⟨hs, j, hj, ?_⟩
    have e : l.getD j 0 = l[j] := by simp [List.getD_eq_getElem?_getD, hj]
    rw [e]; exact hf
  · intro h s hs
    obtain ⟨_, j, hj, hf⟩ := (orN_bit (Nat.le_refl _)).1 (h s hs)
    exact ⟨_, getD_memI hj, hf⟩
/-- a list surely mends a make: in each truth -/
theorem mends_1 {w : Shop} {m : Int} {l : List Int} (h : w.mendsV l m = 1) {T : Int → Int} (hT : ∀ x ∈ l, w.can x (T x) = true) : mended w m l T = true := by
  have hr := orN_rch (w := w) (m := m) (K := (w.slots m).length) (T := T) (Nat.le_refl l.length) hT
  unfold Shop.mendsV at h
  split at h
  · cases h
  · split at h
    · rename_i h2; exact mended_iff.2 (h2 _ hr)
    · cases h
def iN (l : List Nat) : List Int := l.map fun n : Nat => (n : Int)
def dd1 (own : List Nat) (b : Nat) : List Nat := if b ∈ own then own else own ++ [b]
theorem mem_iN {l : List Nat} {b : Nat} : ((b : Int) ∈ iN l) ↔ b ∈ l := by
  unfold iN
  simp only [List.mem_map]
  exact ⟨fun ⟨x, hx, e⟩ => by have : x = b := by omega
                              exact this ▸ hx, fun h => ⟨b, h, rfl⟩⟩
theorem dd1_mem {own : List Nat} {b x : Nat} : x ∈ dd1 own b ↔ x ∈ own ∨ x = b := by
  unfold dd1; split
  · rename_i h; exact ⟨.inl, fun h2 => h2.elim id fun e => e ▸ h⟩
  · simp
theorem dd1_nd {own : List Nat} {b : Nat} (h : own.Nodup) : (dd1 own b).Nodup := by
  unfold dd1; split
  · exact h
  · rename_i hb
    rw [List.nodup_append]
    exact ⟨h, by simp, fun x hx y hy e => by simp only [List.mem_singleton] at hy; subst hy; subst e; exact hb hx⟩
theorem nodup_len : ∀ (n : Nat) (l : List Nat), l.Nodup → (∀ x ∈ l, x < n) → l.length ≤ n
  | 0, l, _, h => by
    cases l with
    | nil => simp
    | cons a l => exact absurd (h a (by simp)) (by omega)
  | n + 1, l, hd, h => by
    by_cases hn : n ∈ l
    · have := nodup_len n (l.erase n) (hd.erase n) (fun x hx => by
        have := hd.mem_erase_iff.1 hx
        have := h x this.2
        omega)
      rw [List.length_erase_of_mem hn] at this
      omega
    · have := nodup_len n l hd (fun x hx => by
        have := h x hx
        have : x ≠ n := fun e => hn (e ▸ hx)
        omega)
      omega
/-- all that a spare can fit of a make -/
def Shop.ownK (w : Shop) (m i : Int) (k : Nat) : List Nat := ((w.allL i).take k).foldl (fun own n => dd1 own (w.cov i n m (w.slots m).length)) []
def Shop.own (w : Shop) (m i : Int) : List Nat := w.ownK m i (w.allL i).length
theorem ownK_succ {w : Shop} {m i : Int} {k : Nat} (hk : k < (w.allL i).length) : w.ownK m i (k + 1) = dd1 (w.ownK m i k) (w.cov i ((w.allL i).getD k 0) m (w.slots m).length) := by
  unfold Shop.ownK
  have e : (w.allL i).getD k 0 = (w.allL i)[k] := by simp [List.getD_eq_getElem?_getD, hk]
  rw [e, List.take_succ_eq_append_getElem hk, List.foldl_append]; rfl
theorem ownK_ok {w : Shop} {m i : Int} : ∀ {k : Nat}, k ≤ (w.allL i).length → (w.ownK m i k).Nodup ∧ ∀ b, b ∈ w.ownK m i k ↔ ∃ n ∈ (w.allL i).take k, w.cov i n m (w.slots m).length = b
  | 0, _ => by simp [Shop.ownK]
  | k + 1, h => by
    obtain ⟨h1, h2⟩ := ownK_ok (w := w) (m := m) (i := i) (k := k) (by omega)
    rw [ownK_succ h]
    have e : (w.allL i).getD k 0 = (w.allL i)[k] := by simp [List.getD_eq_getElem?_getD, show k < (w.allL i).length from h]
    refine ⟨dd1_nd h1, fun b => ?_⟩
    rw [dd1_mem, h2, List.take_succ_eq_append_getElem h, e]
    simp only [List.mem_append, List.mem_singleton]
    constructor
    · rintro (⟨n, hn, e⟩ | rfl)
      · exact ⟨n, .inl hn, e⟩
      · exact ⟨_, .inr rfl, rfl⟩
    · rintro ⟨n, hn | rfl, e⟩
      · exact .inl ⟨n, hn, e⟩
      · exact .inr e.symm
theorem own_ok {w : Shop} {m i : Int} : (w.own m i).Nodup ∧ ∀ b, b ∈ w.own m i ↔ ∃ n, w.can i n = true ∧ w.cov i n m (w.slots m).length = b := by
  obtain ⟨h1, h2⟩ := ownK_ok (w := w) (m := m) (i := i) (Nat.le_refl _)
  refine ⟨h1, fun b => ?_⟩
  unfold Shop.own
  rw [h2, List.take_length]
  exact ⟨fun ⟨n, hn, e⟩ => ⟨n, mem_allL.1 hn, e⟩, fun ⟨n, hn, e⟩ => ⟨n, mem_allL.2 hn, e⟩⟩
theorem ownK_len {w : Shop} (hk : Ok w) {m i : Int} (hm : w.isMk m = true) {k : Nat} (h : k ≤ (w.allL i).length) : (w.ownK m i k).length ≤ 16 := by
  obtain ⟨h1, h2⟩ := ownK_ok (w := w) (m := m) (i := i) h
  have hp : 2 ^ (w.slots m).length ≤ 16 := Nat.pow_le_pow_right (by omega) (hk.slots hm)
  refine nodup_len 16 _ h1 fun b hb => ?_
  obtain ⟨n, _, e⟩ := (h2 b).1 hb
  have := cov_lt w i n m (w.slots m).length
  omega
theorem p130 (w : Shop) (hk : Ok w) (i n m : Int) (hi : w.isSp i = true) (hm : w.isMk m = true) : FnA Try.prog 130 [.agg w.cells, .int .i64 i, .int .i64 n, .int .i64 m] (· = .int .i64 (w.cov i n m (w.slots m).length : Nat)) := by
  have h2 := isMk_iff.1 hm
  have hm6 := hk.m1
  have h4 := hk.slots hm
  have l2 : (w.mks.map mkAV).length = w.mks.length := by simp
  have l3 : ((w.slots m).map Slot.av).length = (w.slots m).length := by simp
  have g2 := mkget hm
  have hconv : ∀ k : Nat, k < 4 → IntKind.u64.wrap ((k : Nat) : Int) = ((k : Nat) : Int) := by decide
  have hpow : ∀ k : Nat, k < 4 → IntKind.i64.wrap (1 * 2 ^ min ((k : Nat) : Int).toNat IntKind.i64.bits) = ((2 ^ k : Nat) : Int) := by decide
  refine fnA 1 ok130 (by simp) ?_
  (conv => whnf); (repeat' ((first | refine bT ?_ | refine bF ?_ | refine bN ?_ | ((first | refine bD ?_ ?_ | refine bEq ?_ ?_ | refine bNe ?_ ?_) <;> intro hh <;> try (exfalso; omega)) | refine wIn (by omega) ?_ | refine nI (by omega) ?_) <;> conv => whnf))
  refine loop_i (α := Nat) (fun k => [(10, .int .i64 k), (9, .int .i64 (w.cov i n m k : Nat)), (4, .own 0 0), (3, .int .i64 m), (2, .int .i64 n), (1, .int .i64 i)]) (fun k => [.box false w.cells]) (fun k => k ≤ (w.slots m).length) (fun k => (w.slots m).length - k) 0 (meets_id (by (repeat' apply And.intro) <;> first | rfl | exact True.intro | (intro hh; cases hh))) (by omega) ?_
  intro k hk0
  conv => whnf
  refine iaI (by omega) (by omega) g2 ?_
  conv => whnf
  refine bD (fun h3 => ?_) (fun h3 => ?_)
  · have hkl : k < (w.slots m).length := by omega
    have hsl : w.isSl m (k : Nat) = true := isSl_iff.2 ⟨hm, by omega, by omega⟩
    have e1 := p46 w hk i n m (k : Nat) hi hsl
    have hlt := cov_lt w i n m k
    have hpk : 2 ^ k ≤ 16 := Nat.pow_le_pow_right (by omega) (show k ≤ 4 by omega)
    cases hx : w.fit i n m (k : Nat) with
    | true =>
      rw [hx] at e1
      have hor : bitI .or .i64 ((w.cov i n m k : Nat) : Int) (IntKind.i64.wrap (1 * 2 ^ min ((k : Nat) : Int).toNat IntKind.i64.bits)) = ((w.cov i n m (k + 1) : Nat) : Int) := by
        rw [hpow k (by omega), or_nat .i64 (.inr rfl) _ _ (by omega) (by omega), or_pow hlt]
        simp only [Shop.cov, hx, if_true]
      (conv => whnf); (repeat' ((first | refine bT ?_ | refine bF ?_ | refine bN ?_ | ((first | refine bD ?_ ?_ | refine bEq ?_ ?_ | refine bNe ?_ ?_) <;> intro hh <;> try (exfalso; omega)) | (refine (e1).callq rfl rfl fun _ h => ?_; subst h) | (refine wrEq (hconv k (by omega)) ?_) | refine wIn (by omega) ?_ | refine nI (by omega) ?_) <;> conv => whnf))
      refine ⟨k + 1, ?_, by omega, by omega⟩
      rw [← hor]; exact (meets_id (by (repeat' apply And.intro) <;> first | rfl | exact True.intro | (intro hh; cases hh)))
    | false =>
      rw [hx] at e1
      have hor : w.cov i n m (k + 1) = w.cov i n m k := by simp only [Shop.cov, hx]; simp
      (conv => whnf); (repeat' ((first | refine bT ?_ | refine bF ?_ | refine bN ?_ | ((first | refine bD ?_ ?_ | refine bEq ?_ ?_ | refine bNe ?_ ?_) <;> intro hh <;> try (exfalso; omega)) | (refine (e1).callq rfl rfl fun _ h => ?_; subst h) | refine wIn (by omega) ?_ | refine nI (by omega) ?_) <;> conv => whnf))
      refine ⟨k + 1, ?_, by omega, by omega⟩
      rw [hor]; exact (meets_id (by (repeat' apply And.intro) <;> first | rfl | exact True.intro | (intro hh; cases hh)))
  · have : k = (w.slots m).length := by omega
    subst this
    (conv => whnf); (repeat' ((first | refine bT ?_ | refine bF ?_ | refine bN ?_ | ((first | refine bD ?_ ?_ | refine bEq ?_ ?_ | refine bNe ?_ ?_) <;> intro hh <;> try (exfalso; omega)) | refine wIn (by omega) ?_ | refine nI (by omega) ?_) <;> conv => whnf))
    all_goals rfl
def Shop.casK (w : Shop) (m : Int) (k : Nat) : List (List Int) := (List.range k).map fun i => iN (w.own m (i : Nat))
def Shop.cas (w : Shop) (m : Int) : List (List Int) := w.casK m w.sps.length
theorem p82 (w : Shop) (hk : Ok w) (m : Int) (hm : w.isMk m = true) : FnA Try.prog 82 [.agg w.cells, .int .i64 m] (· = .isl ((w.cas m).map fAV)) := by
  have hs1 := hk.s1
  have l1 : (w.sps.map Spare.av).length = w.sps.length := by simp
  refine fnA 8 ok82 (by simp) ?_
  (conv => whnf); (repeat' ((first | refine bT ?_ | refine bF ?_ | refine bN ?_ | ((first | refine bD ?_ ?_ | refine bEq ?_ ?_ | refine bNe ?_ ?_) <;> intro hh <;> try (exfalso; omega)) | refine wIn (by omega) ?_ | refine nI (by omega) ?_) <;> conv => whnf))
  refine loop_i (α := Nat) (fun k => [(6, .int .i64 k), (5, .row 6), (2, .own 0 0), (1, .int .i64 m)]) (fun k => [.box false w.cells, .fresh, .fresh, .fresh, .fresh, .fresh, .row false 42 1 ((w.casK m k).map fAV), .fresh]) (fun k => k ≤ w.sps.length) (fun k => w.sps.length - k) 0 (meets_as [(6, none)] (by (repeat' apply And.intro) <;> first | rfl | exact True.intro | (intro hh; cases hh))) (by omega) ?_
  intro i hi0
  conv => whnf
  refine bD (fun h3 => ?_) (fun h3 => ?_)
  · have hil : i < w.sps.length := by omega
    have hi : w.isSp (i : Nat) = true := isSp_iff.2 (by omega)
    have e1 := p72 w hk i hi
    have hal := allL_len hk hi
    have l2 : ((w.allL (i : Nat)).map jAV).length = (w.allL (i : Nat)).length := by simp
    have lc : ((w.casK m i).map fAV).length = i := by simp [Shop.casK]
    have hsuc : (w.casK m (i + 1)).map fAV = (w.casK m i).map fAV ++ [fAV (iN (w.own m (i : Nat)))] := by
      unfold Shop.casK; rw [List.range_succ, List.map_append, List.map_append]; rfl
    (conv => whnf); (repeat' ((first | refine bT ?_ | refine bF ?_ | refine bN ?_ | ((first | refine bD ?_ ?_ | refine bEq ?_ ?_ | refine bNe ?_ ?_) <;> intro hh <;> try (exfalso; omega)) | (refine (e1).callzq rfl rfl fun _ h => ?_; subst h) | refine wIn (by omega) ?_ | refine nI (by omega) ?_) <;> conv => whnf))
    refine loop_i (α := Nat) (fun k => [(9, .int .i64 k), (8, .row 7), (7, .isl ((w.allL (i : Nat)).map jAV)), (6, .int .i64 i), (5, .row 6), (2, .own 0 0), (1, .int .i64 m)]) (fun k => [.box false w.cells, .fresh, .fresh, .fresh, .fresh, .fresh, .row false 42 1 ((w.casK m i).map fAV), .row false 3 1 ((iN (w.ownK m (i : Nat) k)).map jAV)]) (fun k => k ≤ (w.allL (i : Nat)).length) (fun k => (w.allL (i : Nat)).length - k) 0 (meets_as [(7, none)] (by (repeat' apply And.intro) <;> first | rfl | exact True.intro | (intro hh; cases hh))) (by omega) ?_
    intro k hk0
    conv => whnf
    refine bD (fun h4 => ?_) (fun h4 => ?_)
    · have hkl : k < (w.allL (i : Nat)).length := by omega
      have gk := jget hkl
      have e2 := p130 w hk i ((w.allL (i : Nat)).getD k 0) m hi hm
      have hol := ownK_len hk (i := i) hm (k := k) (by omega)
      have hil2 : (iN (w.ownK m (i : Nat) k)).length = (w.ownK m (i : Nat) k).length := by simp [iN]
      have e3 := p51 (iN (w.ownK m (i : Nat) k)) ((w.cov i ((w.allL (i : Nat)).getD k 0) m (w.slots m).length : Nat) : Int) (by omega)
      have hos := ownK_succ (w := w) (m := m) hkl
      by_cases hx : w.cov i ((w.allL (i : Nat)).getD k 0) m (w.slots m).length ∈ w.ownK m (i : Nat) k
      · rw [decide_eq_true (mem_iN.2 hx)] at e3
        have : dd1 (w.ownK m (i : Nat) k) (w.cov i ((w.allL (i : Nat)).getD k 0) m (w.slots m).length) = w.ownK m (i : Nat) k := by unfold dd1; rw [if_pos hx]
        rw [this] at hos
        (conv => whnf); (repeat' ((first | refine bT ?_ | refine bF ?_ | refine bN ?_ | ((first | refine bD ?_ ?_ | refine bEq ?_ ?_ | refine bNe ?_ ?_) <;> intro hh <;> try (exfalso; omega)) | (refine iaI (by omega) (by omega) gk ?_) | (refine (e2).callq rfl rfl fun _ h => ?_; subst h) | (refine (e3).lendq rfl fun _ h => ?_; subst h; refine ⟨rfl, ?_⟩) | refine wIn (by omega) ?_ | refine nI (by omega) ?_) <;> conv => whnf))
        refine ⟨k + 1, ?_, by omega, by omega⟩
        rw [hos]; exact (meets_id (by (repeat' apply And.intro) <;> first | rfl | exact True.intro | (intro hh; cases hh)))
      · rw [decide_eq_false (fun h => hx (mem_iN.1 h))] at e3
        have : (iN (dd1 (w.ownK m (i : Nat) k) (w.cov i ((w.allL (i : Nat)).getD k 0) m (w.slots m).length))).map jAV = (iN (w.ownK m (i : Nat) k)).map jAV ++ [[.int .i64 (w.cov i ((w.allL (i : Nat)).getD k 0) m (w.slots m).length : Nat)]] := by unfold dd1 iN; rw [if_neg hx, List.map_append, List.map_append]; rfl
        rw [← hos] at this
        (conv => whnf); (repeat' ((first | refine bT ?_ | refine bF ?_ | refine bN ?_ | ((first | refine bD ?_ ?_ | refine bEq ?_ ?_ | refine bNe ?_ ?_) <;> intro hh <;> try (exfalso; omega)) | (refine iaI (by omega) (by omega) gk ?_) | (refine (e2).callq rfl rfl fun _ h => ?_; subst h) | (refine (e3).lendq rfl fun _ h => ?_; subst h; refine ⟨rfl, ?_⟩) | (refine apI (by simp [AV.one]) (by simp only [List.length_map, hil2]; simp; omega) ?_) | refine wIn (by omega) ?_ | refine nI (by omega) ?_) <;> conv => whnf))
        refine ⟨k + 1, ?_, by omega, by omega⟩
        rw [this]; exact (meets_as [(7, some 3)] (by (repeat' apply And.intro) <;> first | rfl | exact True.intro | (intro hh; cases hh)))
    · have : k = (w.allL (i : Nat)).length := by omega
      subst this
      (conv => whnf); (repeat' ((first | refine bT ?_ | refine bF ?_ | refine bN ?_ | ((first | refine bD ?_ ?_ | refine bEq ?_ ?_ | refine bNe ?_ ?_) <;> intro hh <;> try (exfalso; omega)) | (refine apI (by simp [AV.one]) (by simp only [lc]; simp; omega) ?_) | refine wIn (by omega) ?_ | refine nI (by omega) ?_) <;> conv => whnf))
      refine ⟨i + 1, ?_, by omega, by omega⟩
      rw [hsuc]; exact (meets_as [(6, some 5)] (by (repeat' apply And.intro) <;> first | rfl | exact True.intro | (intro hh; cases hh)))
  · have : i = w.sps.length := by omega
    subst this
    (conv => whnf); (repeat' ((first | refine bT ?_ | refine bF ?_ | refine bN ?_ | ((first | refine bD ?_ ?_ | refine bEq ?_ ?_ | refine bNe ?_ ?_) <;> intro hh <;> try (exfalso; omega)) | refine wIn (by omega) ?_ | refine nI (by omega) ?_) <;> conv => whnf))
    all_goals rfl
set_option maxHeartbeats 1000000
def nx1 (can : List Nat) (f : Nat) (acc : List Nat) : List Nat := can.foldl (fun acc s => dd1 acc (s ||| f)) acc
def nxt (can own : List Nat) : List Nat := own.foldl (fun acc f => nx1 can f acc) []
theorem nx1_ok {can : List Nat} {f : Nat} : ∀ {k : Nat}, k ≤ can.length → ∀ {acc : List Nat}, acc.Nodup → (nx1 (can.take k) f acc).Nodup ∧ ∀ b, b ∈ nx1 (can.take k) f acc ↔ b ∈ acc ∨ ∃ s ∈ can.take k, b = s ||| f
  | 0, _, acc, h => by simp [nx1, h]
  | k + 1, hk, acc, h => by
    obtain ⟨h1, h2⟩ := nx1_ok (can := can) (f := f) (k := k) (by omega) h
    have e : nx1 (can.take (k + 1)) f acc = dd1 (nx1 (can.take k) f acc) (can[k] ||| f) := by
      unfold nx1; rw [List.take_succ_eq_append_getElem hk, List.foldl_append]; rfl
    rw [e]
    refine ⟨dd1_nd h1, fun b => ?_⟩
    rw [dd1_mem, h2, List.take_succ_eq_append_getElem hk]
    simp only [List.mem_append, List.mem_singleton]
    constructor
    · rintro ((h | ⟨s, hs, e⟩) | e)
      · exact .inl h
      · exact .inr ⟨s, .inl hs, e⟩
      · exact .inr ⟨_, .inr rfl, e⟩
    · rintro (h | ⟨s, hs | rfl, e⟩)
      · exact .inl (.inl h)
      · exact .inl (.inr ⟨s, hs, e⟩)
      · exact .inr e
theorem nxt_ok {can own : List Nat} : ∀ {k : Nat}, k ≤ own.length → (nxt can (own.take k)).Nodup ∧ ∀ b, b ∈ nxt can (own.take k) ↔ ∃ f ∈ own.take k, ∃ s ∈ can, b = s ||| f
  | 0, _ => by simp [nxt]
  | k + 1, hk => by
    obtain ⟨h1, h2⟩ := nxt_ok (can := can) (own := own) (k := k) (by omega)
    have e : nxt can (own.take (k + 1)) = nx1 can own[k] (nxt can (own.take k)) := by
      unfold nxt; rw [List.take_succ_eq_append_getElem hk, List.foldl_append]; rfl
    have h3 := nx1_ok (can := can) (f := own[k]) (k := can.length) (Nat.le_refl _) h1
    rw [List.take_length] at h3
    rw [e]
    refine ⟨h3.1, fun b => ?_⟩
    rw [h3.2, h2, List.take_succ_eq_append_getElem hk]
    simp only [List.mem_append, List.mem_singleton]
    constructor
    · rintro (⟨f, hf, s, hs, e⟩ | ⟨s, hs, e⟩)
      · exact ⟨f, .inl hf, s, hs, e⟩
      · exact ⟨_, .inr rfl, s, hs, e⟩
    · rintro ⟨f, hf | rfl, s, hs, e⟩
      · exact .inl ⟨f, hf, s, hs, e⟩
      · exact .inr ⟨s, hs, e⟩
theorem nx1_0 (can : List Nat) (f : Nat) (acc : List Nat) : nx1 (can.take 0) f acc = acc := rfl
theorem nxt_0A (can own : List Nat) : (iN (nxt can (own.take 0))).map jAV = [] := rfl
theorem nxt_succ {can own : List Nat} {a : Nat} (ha : a < own.length) : nxt can (own.take (a + 1)) = nx1 can (own.getD a 0) (nxt can (own.take a)) := by
  have e : own.getD a 0 = own[a] := by simp [List.getD_eq_getElem?_getD, ha]
  unfold nxt; rw [e, List.take_succ_eq_append_getElem ha, List.foldl_append]; rfl
theorem nx1_succ {can acc : List Nat} {f j : Nat} (hj : j < can.length) : nx1 (can.take (j + 1)) f acc = dd1 (nx1 (can.take j) f acc) (can.getD j 0 ||| f) := by
  have e : can.getD j 0 = can[j] := by simp [List.getD_eq_getElem?_getD, hj]
  unfold nx1; rw [e, List.take_succ_eq_append_getElem hj, List.foldl_append]; rfl
def Shop.canR (w : Shop) (m : Int) (l : List Int) : Nat → List Nat
  | 0 => [0]
  | k + 1 => nxt (w.canR m l k) (w.own m (l.getD k 0))
theorem canR_succ (w : Shop) (m : Int) (l : List Int) (k : Nat) : w.canR m l (k + 1) = nxt (w.canR m l k) (w.own m (l.getD k 0)) := rfl
theorem canR_0 (w : Shop) (m : Int) (l : List Int) : (iN (w.canR m l 0)).map jAV = [[.int .i64 0]] := rfl
theorem iN_len (l : List Nat) : (iN l).length = l.length := by simp [iN]
theorem iN_lenA (l : List Nat) : ((iN l).map jAV).length = l.length := by simp [iN]
theorem iN_dd {acc : List Nat} {b : Nat} (h : b ∉ acc) : (iN (dd1 acc b)).map jAV = (iN acc).map jAV ++ [[.int .i64 (b : Nat)]] := by
  unfold dd1 iN; rw [if_neg h, List.map_append, List.map_append]; rfl
theorem dd_in {acc : List Nat} {b : Nat} (h : b ∈ acc) : dd1 acc b = acc := by unfold dd1; rw [if_pos h]
theorem canR_ok {w : Shop} {m : Int} {l : List Int} : ∀ k, (w.canR m l k).Nodup ∧ ∀ b, b ∈ w.canR m l k ↔ w.rch m (w.slots m).length l k b
  | 0 => by simp [Shop.canR, Shop.rch]
  | k + 1 => by
    obtain ⟨h1, h2⟩ := canR_ok (w := w) (m := m) (l := l) k
    have h3 := nxt_ok (can := w.canR m l k) (own := w.own m (l.getD k 0)) (k := (w.own m (l.getD k 0)).length) (Nat.le_refl _)
    rw [List.take_length] at h3
    refine ⟨h3.1, fun b => ?_⟩
    show b ∈ nxt _ _ ↔ _
    rw [h3.2]
    simp only [Shop.rch]
    constructor
    · rintro ⟨f, hf, s, hs, e⟩
      obtain ⟨n, hn, e2⟩ := own_ok.2 f |>.1 hf
      exact ⟨s, n, (h2 s).1 hs, hn, by rw [e2]; exact e⟩
    · rintro ⟨s, n, hs, hn, e⟩
      exact ⟨_, (own_ok.2 _).2 ⟨n, hn, rfl⟩, s, (h2 s).2 hs, e⟩
theorem rng_len {w : Shop} (hk : Ok w) {m : Int} (hm : w.isMk m = true) {l : List Nat} (h1 : l.Nodup) (h2 : ∀ b ∈ l, b < 2 ^ (w.slots m).length) : l.length ≤ 16 := by
  have hp : 2 ^ (w.slots m).length ≤ 16 := Nat.pow_le_pow_right (by omega) (hk.slots hm)
  exact nodup_len 16 _ h1 fun b hb => by have := h2 b hb; omega
theorem iget {l : List Nat} {j : Nat} (h : j < l.length) : ((iN l).map jAV).getD j [] = [.int .i64 ((l.getD j 0 : Nat) : Int)] := by
  have h' : j < (iN l).length := by simpa [iN] using h
  rw [jget h']
  congr 2
  unfold iN; simp [List.getD_eq_getElem?_getD, h]
theorem cntN_succ {l : List Nat} {j b : Nat} (h : j < l.length) : (l.take (j + 1)).count b = (l.take j).count b + if l.getD j 0 = b then 1 else 0 := by
  have e : l.getD j 0 = l[j] := by simp [List.getD_eq_getElem?_getD, h]
  rw [e, List.take_succ_eq_append_getElem h, List.count_append]
  congr 1
  by_cases hb : l[j] = b <;> simp [hb]
attribute [local irreducible] nx1 nxt dd1 Shop.canR iN in
theorem p81 (w : Shop) (hk : Ok w) (l : List Int) (m : Int) (hl : l.length ≤ 1000000) (hsp : ∀ x ∈ l, w.isSp x = true) (hm : w.isMk m = true) (hc : ∀ x, w.isSp x = true → ∃ n, w.can x n = true) : FnA Try.prog 81 [.agg w.cells, .isl ((w.cas m).map fAV), .isl (l.map jAV), .int .i64 m] (· = .int .i64 (w.mendsV l m)) := by
  have l1 : (l.map jAV).length = l.length := by simp
  have lc : ((w.cas m).map fAV).length = w.sps.length := by simp [Shop.cas, Shop.casK]
  have h2 := isMk_iff.1 hm
  have hm6 := hk.m1
  have h4 := hk.slots hm
  have l2 : (w.mks.map mkAV).length = w.mks.length := by simp
  have l3 : ((w.slots m).map Slot.av).length = (w.slots m).length := by simp
  have g2 := mkget hm
  have hp4 : 2 ^ (w.slots m).length ≤ 16 := Nat.pow_le_pow_right (by omega) h4
  have hR : ∀ k, (w.canR m l k).length ≤ 16 ∧ ∀ b ∈ w.canR m l k, b < 2 ^ (w.slots m).length := fun k => by
    obtain ⟨a, b⟩ := canR_ok (w := w) (m := m) (l := l) k
    have hb : ∀ x ∈ w.canR m l k, x < 2 ^ (w.slots m).length := fun x hx => rch_lt ((b x).1 hx)
    exact ⟨rng_len hk hm a hb, hb⟩
  refine fnA 6 ok81 (by simp) ?_
  (conv => whnf); (repeat' ((first | refine bT ?_ | refine bF ?_ | refine bN ?_ | ((first | refine bD ?_ ?_ | refine bEq ?_ ?_ | refine bNe ?_ ?_) <;> intro hh <;> try (exfalso; omega)) | refine wIn (by omega) ?_ | refine nI (by omega) ?_) <;> conv => whnf))
  refine loop_i (α := Nat) (fun k => [(10, .int .i64 k), (9, .row 4), (4, .own 0 0), (3, .int .i64 m), (2, .isl (l.map jAV)), (1, .isl ((w.cas m).map fAV))]) (fun k => [.box false w.cells, .fresh, .fresh, .fresh, .row false 3 1 ((iN (w.canR m l k)).map jAV), .fresh]) (fun k => k ≤ l.length) (fun k => l.length - k) 0 ?_ (by omega) ?_
  · rw [canR_0]; exact (meets_as [(4, some 1)] (by (repeat' apply And.intro) <;> first | rfl | exact True.intro | (intro hh; cases hh)))
  intro k hk0
  obtain ⟨hR1, hR2⟩ := hR k
  have hRnd := (canR_ok (w := w) (m := m) (l := l) k).1
  have lcan := iN_lenA (w.canR m l k)
  conv => whnf
  refine bD (fun h3 => ?_) (fun h3 => ?_)
  · have hkl : k < l.length := by omega
    have gk := jget hkl
    have hix := hsp _ (getD_memI hkl)
    have hix' := isSp_iff.1 hix
    have gc : ((w.cas m).map fAV).getD (l.getD k 0).toNat [] = fAV (iN (w.own m (l.getD k 0))) := by
      have hcl : (w.cas m).length = w.sps.length := by simp [Shop.cas, Shop.casK]
      have hlt : (l.getD k 0).toNat < (w.cas m).length := by rw [hcl]; omega
      rw [getM fAV _ _ hlt]
      congr 1
      simp only [Shop.cas, Shop.casK, List.getElem_map, List.getElem_range]
      congr 2; omega
    obtain ⟨ho1, ho2⟩ := own_ok (w := w) (m := m) (i := l.getD k 0)
    have ho3 : ∀ b ∈ w.own m (l.getD k 0), b < 2 ^ (w.slots m).length := fun b hb => by
      obtain ⟨n, _, e⟩ := (ho2 b).1 hb
      rw [← e]; exact cov_lt _ _ _ _ _
    have ho4 := rng_len hk hm ho1 ho3
    have lo := iN_lenA (w.own m (l.getD k 0))
    have hstep := canR_succ w m l k
    generalize w.own m (l.getD k 0) = own at *
    generalize w.canR m l k = can at *
    (conv => whnf); (repeat' ((first | refine bT ?_ | refine bF ?_ | refine bN ?_ | ((first | refine bD ?_ ?_ | refine bEq ?_ ?_ | refine bNe ?_ ?_) <;> intro hh <;> try (exfalso; omega)) | (refine iaI (by omega) (by omega) gk ?_) | (refine iaI (by omega) (by omega) gc ?_) | refine wIn (by omega) ?_ | refine nI (by omega) ?_) <;> conv => whnf))
    refine loop_i (α := Nat) (fun a => [(13, .int .i64 a), (12, .row 5), (11, .isl ((iN own).map jAV)), (10, .int .i64 k), (9, .row 4), (4, .own 0 0), (3, .int .i64 m), (2, .isl (l.map jAV)), (1, .isl ((w.cas m).map fAV))]) (fun a => [.box false w.cells, .fresh, .fresh, .fresh, .row false 3 1 ((iN can).map jAV), .row false 3 1 ((iN (nxt can (own.take a))).map jAV)]) (fun a => a ≤ own.length) (fun a => own.length - a) 0 ?_ (Nat.zero_le _) ?_
    · rw [nxt_0A]; exact (meets_as [(5, none)] (by (repeat' apply And.intro) <;> first | rfl | exact True.intro | (intro hh; cases hh)))
    intro a ha0
    obtain ⟨hn1, hn2⟩ := nxt_ok (can := can) (own := own) ha0
    conv => whnf
    refine bD (fun h5 => ?_) (fun h5 => ?_)
    · have ha : a < own.length := by omega
      have ga := iget ha
      have hfm : own.getD a 0 ∈ own := by rw [List.getD_eq_getElem?_getD, List.getElem?_eq_getElem ha]; exact List.getElem_mem ha
      have hfl := ho3 _ hfm
      have hnst := nxt_succ (can := can) ha
      have hacc : ∀ b ∈ nxt can (own.take a), b < 2 ^ (w.slots m).length := fun b hb => by
        obtain ⟨f, hf, s, hs, e⟩ := (hn2 b).1 hb
        rw [e]; exact Nat.or_lt_two_pow (hR2 s hs) (ho3 f (List.mem_of_mem_take hf))
      generalize nxt can (own.take a) = acc at *
      generalize own.getD a 0 = f at *
      (conv => whnf); (repeat' ((first | refine bT ?_ | refine bF ?_ | refine bN ?_ | ((first | refine bD ?_ ?_ | refine bEq ?_ ?_ | refine bNe ?_ ?_) <;> intro hh <;> try (exfalso; omega)) | refine wIn (by omega) ?_ | refine nI (by omega) ?_) <;> conv => whnf))
      refine loop_i (α := Nat) (fun j => [(14, .int .i64 j), (13, .int .i64 a), (12, .row 5), (11, .isl ((iN own).map jAV)), (10, .int .i64 k), (9, .row 4), (4, .own 0 0), (3, .int .i64 m), (2, .isl (l.map jAV)), (1, .isl ((w.cas m).map fAV))]) (fun j => [.box false w.cells, .fresh, .fresh, .fresh, .row false 3 1 ((iN can).map jAV), .row false 3 1 ((iN (nx1 (can.take j) f acc)).map jAV)]) (fun j => j ≤ can.length) (fun j => can.length - j) 0 ?_ (Nat.zero_le _) ?_
      · rw [nx1_0]; exact (meets_id (by (repeat' apply And.intro) <;> first | rfl | exact True.intro | (intro hh; cases hh)))
      intro j hj0
      have hx0 := nx1_ok (can := can) (f := f) (k := j) hj0 (acc := acc) hn1
      have hx1 := hx0.1
      have hx2 := hx0.2
      clear hx0
      have hx3 : ∀ b ∈ nx1 (can.take j) f acc, b < 2 ^ (w.slots m).length := fun b hb => by
        rcases (hx2 b).1 hb with q | ⟨s, hs, e⟩
        · exact hacc b q
        · rw [e]; exact Nat.or_lt_two_pow (hR2 s (List.mem_of_mem_take hs)) hfl
      have hx4 := rng_len hk hm hx1 hx3
      conv => whnf
      refine bD (fun h6 => ?_) (fun h6 => ?_)
      · have hj : j < can.length := by omega
        have gj := iget hj
        have hsm : can.getD j 0 ∈ can := by rw [List.getD_eq_getElem?_getD, List.getElem?_eq_getElem hj]; exact List.getElem_mem hj
        have hsl := hR2 _ hsm
        have hxs := nx1_succ (acc := acc) (f := f) hj
        have hor : bitI .or .i64 ((can.getD j 0 : Nat) : Int) ((f : Nat) : Int) = ((can.getD j 0 ||| f : Nat) : Int) := or_nat .i64 (.inr rfl) _ _ (by omega) (by omega)
        have lx := iN_len (nx1 (can.take j) f acc)
        have e3 := p51 (iN (nx1 (can.take j) f acc)) (bitI .or .i64 ((can.getD j 0 : Nat) : Int) ((f : Nat) : Int)) (by omega)
        by_cases hx : can.getD j 0 ||| f ∈ nx1 (can.take j) f acc
        · rw [decide_eq_true (by rw [hor]; exact mem_iN.2 hx)] at e3
          rw [dd_in hx] at hxs
          (conv => whnf); (repeat' ((first | refine bT ?_ | refine bF ?_ | refine bN ?_ | ((first | refine bD ?_ ?_ | refine bEq ?_ ?_ | refine bNe ?_ ?_) <;> intro hh <;> try (exfalso; omega)) | (refine iaI (by omega) (by omega) gj ?_) | (refine iaI (by omega) (by omega) ga ?_) | (refine (e3).lendq rfl fun _ h => ?_; subst h; refine ⟨rfl, ?_⟩) | refine wIn (by omega) ?_ | refine nI (by omega) ?_) <;> conv => whnf))
          refine ⟨j + 1, ?_, by omega, by omega⟩
          rw [hxs]; exact (meets_id (by (repeat' apply And.intro) <;> first | rfl | exact True.intro | (intro hh; cases hh)))
        · rw [decide_eq_false (by rw [hor]; exact fun h => hx (mem_iN.1 h))] at e3
          have this := iN_dd hx
          rw [← hxs, ← hor] at this
          (conv => whnf); (repeat' ((first | refine bT ?_ | refine bF ?_ | refine bN ?_ | ((first | refine bD ?_ ?_ | refine bEq ?_ ?_ | refine bNe ?_ ?_) <;> intro hh <;> try (exfalso; omega)) | (refine iaI (by omega) (by omega) gj ?_) | (refine iaI (by omega) (by omega) ga ?_) | (refine (e3).lendq rfl fun _ h => ?_; subst h; refine ⟨rfl, ?_⟩) | (refine apI (by simp [AV.one]) (by simp only [List.length_map, lx]; simp; omega) ?_) | refine wIn (by omega) ?_ | refine nI (by omega) ?_) <;> conv => whnf))
          refine ⟨j + 1, ?_, by omega, by omega⟩
          rw [this]; exact (meets_as [(5, some 3)] (by (repeat' apply And.intro) <;> first | rfl | exact True.intro | (intro hh; cases hh)))
      · have hje : j = can.length := by omega
        have e : nx1 (can.take j) f acc = nx1 can f acc := by rw [hje, List.take_length]
        (conv => whnf); (repeat' ((first | refine bT ?_ | refine bF ?_ | refine bN ?_ | ((first | refine bD ?_ ?_ | refine bEq ?_ ?_ | refine bNe ?_ ?_) <;> intro hh <;> try (exfalso; omega)) | refine wIn (by omega) ?_ | refine nI (by omega) ?_) <;> conv => whnf))
        refine ⟨a + 1, ?_, by omega, by omega⟩
        rw [hnst, ← e]; exact (meets_id (by (repeat' apply And.intro) <;> first | rfl | exact True.intro | (intro hh; cases hh)))
    · have hae : a = own.length := by omega
      have e : nxt can (own.take a) = nxt can own := by rw [hae, List.take_length]
      (conv => whnf); (repeat' ((first | refine bT ?_ | refine bF ?_ | refine bN ?_ | ((first | refine bD ?_ ?_ | refine bEq ?_ ?_ | refine bNe ?_ ?_) <;> intro hh <;> try (exfalso; omega)) | refine wIn (by omega) ?_ | refine nI (by omega) ?_) <;> conv => whnf))
      refine ⟨k + 1, ?_, by omega, by omega⟩
      rw [hstep, ← e]; exact (meets_as [(4, some 5)] (by (repeat' apply And.intro) <;> first | rfl | exact True.intro | (intro hh; cases hh)))
  · have : k = l.length := by omega
    subst this
    have hconv : ∀ K : Nat, K ≤ 4 → IntKind.u64.wrap ((K : Nat) : Int) = ((K : Nat) : Int) := by decide
    have hfull : ∀ K : Nat, K ≤ 4 → IntKind.i64.wrap (1 * 2 ^ min ((K : Nat) : Int).toNat IntKind.i64.bits) - 1 = ((2 ^ K - 1 : Nat) : Int) := by decide
    have hconv := hconv _ h4
    have hfull := hfull _ h4
    rw [← l3] at hconv hfull
    have hiff := (canR_ok (w := w) (m := m) (l := l) l.length).2
    have hne : (w.canR m l l.length).length ≠ 0 := fun h0 => by
      have hr : ∃ b, w.rch m (w.slots m).length l l.length b := ⟨_, orN_rch (T := fun x => if h : w.isSp x = true then (hc x h).choose else 0) (Nat.le_refl _) (fun x hx => by
        have hx' := hsp x hx
        simp only [hx', dif_pos]; exact (hc x hx').choose_spec)⟩
      obtain ⟨b, hb⟩ := hr
      have := (hiff b).2 hb
      rw [List.eq_nil_of_length_eq_zero h0] at this; cases this
    have hval : w.mendsV l m = if ((((w.canR m l l.length).count (2 ^ (w.slots m).length - 1) : Nat)) : Int) = ↑((iN (w.canR m l l.length)).map jAV).length then 1 else if ((((w.canR m l l.length).count (2 ^ (w.slots m).length - 1) : Nat)) : Int) = 0 then 2 else 3 := by
      rw [lcan]
      unfold Shop.mendsV
      by_cases hf : w.rch m (w.slots m).length l l.length (2 ^ (w.slots m).length - 1)
      · have hmem := (hiff _).2 hf
        have hcnt : (w.canR m l l.length).count (2 ^ (w.slots m).length - 1) = 1 := by
          have := hRnd.count (a := 2 ^ (w.slots m).length - 1)
          rw [this, if_pos hmem]
        rw [if_neg (fun h => h hf), hcnt]
        by_cases h1 : (w.canR m l l.length).length = 1
        · have hall : ∀ b, w.rch m (w.slots m).length l l.length b → b = 2 ^ (w.slots m).length - 1 := fun b hb => by
            have a := (hiff b).2 hb
            match hq : w.canR m l l.length, h1 with
            | [e], _ =>
              rw [hq] at a hmem
              simp only [List.mem_singleton] at a hmem
              omega
          rw [if_pos hall, if_pos (by omega)]
        · have hall : ¬ ∀ b, w.rch m (w.slots m).length l l.length b → b = 2 ^ (w.slots m).length - 1 := fun hh => h1 (by
            have hx : ∀ e ∈ w.canR m l l.length, e = 2 ^ (w.slots m).length - 1 := fun e he => hh e ((hiff e).1 he)
            match hq : w.canR m l l.length with
            | [] => rw [hq] at hmem; cases hmem
            | [e] => rfl
            | e :: e' :: r =>
              rw [hq] at hx hRnd
              have a := hx e (by simp)
              have b := hx e' (by simp)
              simp only [List.nodup_cons, List.mem_cons, not_or] at hRnd
              exact absurd (a.trans b.symm) hRnd.1.1)
          rw [if_neg hall, if_neg (by omega), if_neg (by omega)]
      · have hcnt : (w.canR m l l.length).count (2 ^ (w.slots m).length - 1) = 0 := List.count_eq_zero.2 fun h => hf ((hiff _).1 h)
        rw [if_pos hf, hcnt, if_neg (by omega), if_pos (by omega)]
    rw [hval]
    generalize w.canR m l l.length = can at *
    (conv => whnf); (repeat' ((first | refine bT ?_ | refine bF ?_ | refine bN ?_ | ((first | refine bD ?_ ?_ | refine bEq ?_ ?_ | refine bNe ?_ ?_) <;> intro hh <;> try (exfalso; omega)) | refine wIn (by omega) ?_ | refine nI (by omega) ?_) <;> conv => whnf))
    refine loop_i (α := Nat) (fun j => [(17, .int .i64 j), (16, .int .i64 ((can.take j).count (2 ^ (w.slots m).length - 1) : Nat)), (9, .row 4), (4, .own 0 0), (3, .int .i64 m)]) (fun j => [.box false w.cells, .fresh, .fresh, .fresh, .row false 3 1 ((iN can).map jAV), .fresh]) (fun j => j ≤ can.length) (fun j => can.length - j) 0 (meets_id (by (repeat' apply And.intro) <;> first | rfl | exact True.intro | (intro hh; cases hh))) (by omega) ?_
    intro j hj0
    have hct := List.count_le_length (a := 2 ^ (w.slots m).length - 1) (l := can.take j)
    rw [List.length_take] at hct
    conv => whnf
    refine bD (fun h6 => ?_) (fun h6 => ?_)
    · have hj : j < can.length := by omega
      have gj := iget hj
      have hsu := cntN_succ (b := 2 ^ (w.slots m).length - 1) hj
      have hw : IntKind.i64.wrap (IntKind.i64.wrap (1 * 2 ^ min (↑((w.slots m).map Slot.av).length : Int).toNat IntKind.i64.bits) - 1) = ((2 ^ (w.slots m).length - 1 : Nat) : Int) := by
        rw [hfull, l3]; exact wrap_nat .i64 (.inr rfl) _ (by omega)
      have hI : IntKind.i64.wrap (1 * 2 ^ min (↑((w.slots m).map Slot.av).length : Int).toNat IntKind.i64.bits) - 1 = ((2 ^ (w.slots m).length - 1 : Nat) : Int) := by rw [hfull, l3]
      have hfb : 2 ^ (w.slots m).length - 1 ≤ 15 := by omega
      generalize 2 ^ (w.slots m).length - 1 = full at *
      by_cases he : can.getD j 0 = full
      · rw [if_pos he] at hsu
        (conv => whnf); (repeat' ((first | refine bT ?_ | refine bF ?_ | refine bN ?_ | ((first | refine bD ?_ ?_ | refine bEq ?_ ?_ | refine bNe ?_ ?_) <;> intro hh <;> try (exfalso; omega)) | (refine iaI (by omega) (by omega) gj ?_) | (refine iaI (by omega) (by omega) g2 ?_) | (refine wrEq hconv ?_) | refine wIn (by omega) ?_ | refine nI (by omega) ?_) <;> conv => whnf))
        refine ⟨j + 1, ?_, by omega, by omega⟩
        rw [hsu]; exact (meets_id (by (repeat' apply And.intro) <;> first | rfl | exact True.intro | (intro hh; cases hh)))
      · rw [if_neg he] at hsu
        (conv => whnf); (repeat' ((first | refine bT ?_ | refine bF ?_ | refine bN ?_ | ((first | refine bD ?_ ?_ | refine bEq ?_ ?_ | refine bNe ?_ ?_) <;> intro hh <;> try (exfalso; omega)) | (refine iaI (by omega) (by omega) gj ?_) | (refine iaI (by omega) (by omega) g2 ?_) | (refine wrEq hconv ?_) | refine wIn (by omega) ?_ | refine nI (by omega) ?_) <;> conv => whnf))
        refine ⟨j + 1, ?_, by omega, by omega⟩
        rw [hsu]; exact (meets_id (by (repeat' apply And.intro) <;> first | rfl | exact True.intro | (intro hh; cases hh)))
    · have hje : j = can.length := by omega
      have e3 := p125 ((can.take j).count (2 ^ (w.slots m).length - 1) : Nat) ↑((iN can).map jAV).length
      (conv => whnf); (repeat' ((first | refine bT ?_ | refine bF ?_ | refine bN ?_ | ((first | refine bD ?_ ?_ | refine bEq ?_ ?_ | refine bNe ?_ ?_) <;> intro hh <;> try (exfalso; omega)) | (refine (e3).callq rfl rfl fun _ h => ?_; subst h) | refine wIn (by omega) ?_ | refine nI (by omega) ?_) <;> conv => whnf))
      all_goals rw [hje, List.take_length]
theorem p79 (w : Shop) (l : List Int) (hs : w.sps.length ≤ 1000000) (hl : l.length ≤ 1000000) : FnA Try.prog 79 [.agg w.cells, .isl (l.map jAV)] (· = .bool (w.isLi l)) := by
  have l1 : (l.map jAV).length = l.length := by simp
  have e2 := p50 l hl
  refine fnA 1 ok79 (by simp) ?_
  (conv => whnf); (repeat' ((first | refine bT ?_ | refine bF ?_ | refine bN ?_ | ((first | refine bD ?_ ?_ | refine bEq ?_ ?_ | refine bNe ?_ ?_) <;> intro hh <;> try (exfalso; omega)) | refine wIn (by omega) ?_ | refine nI (by omega) ?_) <;> conv => whnf))
  refine loop_i (α := Nat) (fun k => [(5, .int .i64 k), (2, .own 0 0), (1, .isl (l.map jAV))]) (fun k => [.box false w.cells]) (fun k => k ≤ l.length ∧ ∀ j, j < k → w.isSp (l.getD j 0) = true) (fun k => l.length - k) 0 (meets_id (by (repeat' apply And.intro) <;> first | rfl | exact True.intro | (intro hh; cases hh))) ⟨by omega, fun i hi => by omega⟩ ?_
  rintro k ⟨hk0, hin⟩
  conv => whnf
  refine bD (fun h4 => ?_) (fun h4 => ?_)
  · have hk : k < l.length := by omega
    have gk := jget hk
    have e1 := p47 w (l.getD k 0) hs
    cases hx : w.isSp (l.getD k 0) with
    | true =>
      rw [hx] at e1
      (conv => whnf); (repeat' ((first | refine bT ?_ | refine bF ?_ | refine bN ?_ | ((first | refine bD ?_ ?_ | refine bEq ?_ ?_ | refine bNe ?_ ?_) <;> intro hh <;> try (exfalso; omega)) | (refine iaI (by omega) (by omega) gk ?_) | (refine (e1).callq rfl rfl fun _ h => ?_; subst h) | refine wIn (by omega) ?_ | refine nI (by omega) ?_) <;> conv => whnf))
      refine ⟨k + 1, (meets_id (by (repeat' apply And.intro) <;> first | rfl | exact True.intro | (intro hh; cases hh))), ⟨by omega, fun i hi => ?_⟩, by omega⟩
      by_cases e : i = k
      · rw [e]; exact hx
      · exact hin i (by omega)
    | false =>
      rw [hx] at e1
      have h0 : w.isLi l = false := by
        unfold Shop.isLi
        rw [Bool.and_eq_false_iff]; right
        rw [List.all_eq_false]
        exact ⟨_, getD_memI hk, by rw [hx]; simp⟩
      rw [h0]
      (conv => whnf); (repeat' ((first | refine bT ?_ | refine bF ?_ | refine bN ?_ | ((first | refine bD ?_ ?_ | refine bEq ?_ ?_ | refine bNe ?_ ?_) <;> intro hh <;> try (exfalso; omega)) | (refine iaI (by omega) (by omega) gk ?_) | (refine (e1).callq rfl rfl fun _ h => ?_; subst h) | refine wIn (by omega) ?_ | refine nI (by omega) ?_) <;> conv => whnf))
      all_goals rfl
  · have hkl : k = l.length := by omega
    have h0 : w.isLi l = ascB l := by
      unfold Shop.isLi
      have : l.all w.isSp = true := by
        rw [List.all_eq_true]; intro x hx
        obtain ⟨j, hj, rfl⟩ := List.getElem_of_mem hx
        have := hin j (by omega)
        have e : l.getD j 0 = l[j] := by simp [List.getD_eq_getElem?_getD, hj]
        rwa [e] at this
      rw [this, Bool.and_true]
    rw [h0]
    (conv => whnf); (repeat' ((first | refine bT ?_ | refine bF ?_ | refine bN ?_ | ((first | refine bD ?_ ?_ | refine bEq ?_ ?_ | refine bNe ?_ ?_) <;> intro hh <;> try (exfalso; omega)) | (refine (e2).callq rfl rfl fun _ h => ?_; subst h) | refine wIn (by omega) ?_ | refine nI (by omega) ?_) <;> conv => whnf))
    all_goals rfl
theorem rch_bits {w : Shop} (hk : Ok w) {m : Int} {l : List Int} (hm : w.isMk m = true) (hsp : ∀ x ∈ l, w.isSp x = true) (hc : ∀ x, w.isSp x = true → ∃ n, w.can x n = true) {s : Nat} (hs : s < (w.slots m).length) : ∀ {k b : Nat}, k ≤ l.length → w.rch m (w.slots m).length l k b → (∃ j, j < k ∧ w.sure (l.getD j 0) m (s : Nat) = true) → b.testBit s = true
  | 0, b, _, _, h => by obtain ⟨j, h, _⟩ := h; omega
  | k + 1, b, hkl, hr, h => by
    obtain ⟨b0, n, h1, h2, rfl⟩ := hr
    rw [Nat.testBit_or, cov_bit, Bool.or_eq_true]
    obtain ⟨j, hj, hj2⟩ := h
    by_cases e : j = k
    · subst e
      right
      have hx := hsp _ (getD_memI (l := l) (j := j) (by omega))
      have hsl : w.isSl m (s : Nat) = true := isSl_iff.2 ⟨hm, by omega, by omega⟩
      unfold Shop.sure at hj2
      have := (fits_1 hk hx hsl (hc _ hx)).1 (by simpa using hj2) n h2
      rw [this, Bool.and_true]; exact decide_eq_true hs
    · left
      exact rch_bits hk hm hsp hc hs (by omega) h1 ⟨j, by omega, hj2⟩
theorem rch_ltK {w : Shop} {m : Int} {K : Nat} {l : List Int} : ∀ {k b : Nat}, w.rch m K l k b → b < 2 ^ K
  | 0, b, h => by have : b = 0 := h; subst this; exact Nat.pow_pos (by omega)
  | k + 1, b, h => by
    obtain ⟨b0, n, h1, _, rfl⟩ := h
    exact Nat.or_lt_two_pow (rch_ltK h1) (cov_lt _ _ _ _ _)
open Classical in
theorem mends_sure {w : Shop} (hk : Ok w) {m : Int} {l : List Int} (hm : w.isMk m = true) (hsp : ∀ x ∈ l, w.isSp x = true) (hc : ∀ x, w.isSp x = true → ∃ n, w.can x n = true) : w.mendsV l m = 1 ↔ ∀ s, s < (w.slots m).length → ∃ x ∈ l, w.sure x m (s : Nat) = true := by
  have hT : ∃ T : Int → Int, ∀ x ∈ l, w.can x (T x) = true :=
    ⟨fun x => if h : ∃ n, w.can x n = true then h.choose else 0, fun x hx => by
      have h := hc x (hsp x hx)
      simp only [h, dif_pos]; exact h.choose_spec⟩
  constructor
  · intro h s hs
    apply byContradiction
    intro hn
    have hno : ∀ x ∈ l, ∃ n, w.can x n = true ∧ w.fit x n m (s : Nat) = false := fun x hx => by
      have hx' := hsp x hx
      have hsl : w.isSl m (s : Nat) = true := isSl_iff.2 ⟨hm, by omega, by omega⟩
      apply byContradiction
      intro h2
      apply hn
      refine ⟨x, hx, ?_⟩
      unfold Shop.sure
      have : w.fitsV x m (s : Nat) = 1 := (fits_1 hk hx' hsl (hc x hx')).2 fun n h3 => by
        cases h4 : w.fit x n m (s : Nat) with
        | true => rfl
        | false => exact absurd ⟨n, h3, h4⟩ h2
      rw [this]; rfl
    let T : Int → Int := fun x => if h : ∃ n, w.can x n = true ∧ w.fit x n m (s : Nat) = false then h.choose else 0
    have hT1 : ∀ x ∈ l, w.can x (T x) = true ∧ w.fit x (T x) m (s : Nat) = false := fun x hx => by
      have h5 := hno x hx
      have : T x = h5.choose := by simp only [T, dif_pos h5]
      rw [this]; exact h5.choose_spec
    have h6 := mends_1 h (T := T) (fun x hx => (hT1 x hx).1)
    unfold mended at h6
    rw [List.all_eq_true] at h6
    have h7 := h6 s (List.mem_range.2 hs)
    rw [List.any_eq_true] at h7
    obtain ⟨x, hx, h8⟩ := h7
    rw [(hT1 x hx).2] at h8; cases h8
  · intro h
    have hall : ∀ b, w.rch m (w.slots m).length l l.length b → b = 2 ^ (w.slots m).length - 1 := fun b hb => by
      rw [full_iff (rch_ltK hb)]
      intro s hs
      obtain ⟨x, hx, h2⟩ := h s hs
      obtain ⟨j, hj, rfl⟩ := List.getElem_of_mem hx
      refine rch_bits hk hm hsp hc hs (Nat.le_refl _) hb ⟨j, hj, ?_⟩
      have e : l.getD j 0 = l[j] := by simp [List.getD_eq_getElem?_getD, hj]
      rw [e]; exact h2
    obtain ⟨T, hT⟩ := hT
    have hr := orN_rch (w := w) (m := m) (K := (w.slots m).length) (T := T) (Nat.le_refl l.length) hT
    have he := hall _ hr
    rw [he] at hr
    unfold Shop.mendsV
    rw [if_neg (fun h => h hr), if_pos hall]
theorem mem_needK {w : Shop} {f : List Int} : ∀ {n : Nat}, f ∈ w.needK n ↔ ∃ m, m < n ∧ ∃ s, s < (w.slots (m : Nat)).length ∧ w.sures (m : Nat) (s : Nat) = f
  | 0 => by simp [Shop.needK]
  | n + 1 => by
    simp only [Shop.needK, List.mem_append, mem_needK (n := n), Shop.needM, List.mem_map, List.mem_range, Shop.sl]
    constructor
    · rintro (⟨m, a, b⟩ | ⟨s, a, b⟩)
      · exact ⟨m, by omega, b⟩
      · exact ⟨n, by omega, s, a, b⟩
    · rintro ⟨m, a, s, b, c⟩
      by_cases e : m = n
      · subst e; exact .inr ⟨s, b, c⟩
      · exact .inl ⟨m, by omega, s, b, c⟩
/-- all makes are surely mended, up to one -/
noncomputable def allB (w : Shop) (l : List Int) (k : Nat) : Bool := (List.range k).all fun m : Nat => decide (w.mendsV l (m : Nat) = 1)
theorem allB_succ {w : Shop} {l : List Int} {k : Nat} : allB w l (k + 1) = (allB w l k && decide (w.mendsV l (k : Nat) = 1)) := by
  unfold allB; rw [List.range_succ, List.all_append]; simp
theorem good_all {w : Shop} (hk : Ok w) {l : List Int} (hsp : ∀ x ∈ l, w.isSp x = true) (hc : ∀ x, w.isSp x = true → ∃ n, w.can x n = true) : w.good l = allB w l w.mks.length := by
  rw [Bool.eq_iff_iff]
  unfold Shop.good allB Shop.needs
  simp only [List.all_eq_true, List.any_eq_true, List.mem_range, decide_eq_true_eq]
  constructor
  · intro h m hm
    have hmk : w.isMk (m : Nat) = true := isMk_iff.2 (by omega)
    rw [mends_sure hk hmk hsp hc]
    intro s hs
    obtain ⟨x, hx, h2⟩ := h _ (mem_needK.2 ⟨m, hm, s, hs, rfl⟩)
    exact ⟨x, hx, (mem_numF.1 h2).2⟩
  · intro h f hf
    obtain ⟨m, hm, s, hs, rfl⟩ := mem_needK.1 hf
    have hmk : w.isMk (m : Nat) = true := isMk_iff.2 (by omega)
    obtain ⟨x, hx, h2⟩ := (mends_sure hk hmk hsp hc).1 (h m hm) s hs
    have := isSp_iff.1 (hsp x hx)
    exact ⟨x, hx, mem_numF.2 ⟨by omega, h2⟩⟩
theorem sub_sp {w : Shop} {b : Nat} : ∀ x ∈ w.sub b, w.isSp x = true := fun x hx => isSp_iff.2 (by have := (mem_numF.1 hx).1; omega)
def casAV (l : List (List Int)) : List AV := [.isl (l.map fAV)]
theorem goodK_len (w : Shop) (b : Nat) : (w.goodK b).length ≤ b := by
  unfold Shop.goodK
  have := List.length_filter_le w.good ((List.range b).map w.sub)
  simpa using this
def Shop.bestK (w : Shop) (b : Nat) : List (List Int) := bestL (w.goodK b)
theorem bestK_len (w : Shop) (b : Nat) : (w.bestK b).length ≤ b := by
  have := bestL_len (ys := w.goodK b) (k := (w.goodK b).length) (Nat.le_refl _)
  rw [List.take_length] at this
  have := goodK_len w b
  unfold Shop.bestK; omega
theorem bestK_yes {w : Shop} {b : Nat} (h : w.good (w.sub b) = true) : w.bestK (b + 1) = stepB (w.bestK b) (w.sub b) := by
  unfold Shop.bestK bestL; rw [goodK_yes h, List.foldl_append]; rfl
theorem bestK_no {w : Shop} {b : Nat} (h : w.good (w.sub b) = false) : w.bestK (b + 1) = w.bestK b := by
  unfold Shop.bestK; rw [goodK_no h]
theorem bestK_far {w : Shop} {b : Nat} (h0 : 0 < (w.bestK b).length) (h1 : ((w.bestK b).getD 0 []).length < (w.sub b).length) : w.bestK (b + 1) = w.bestK b := by
  cases hg : w.good (w.sub b) with
  | false => exact bestK_no hg
  | true => rw [bestK_yes hg]; unfold stepB; rw [if_pos ⟨h0, h1⟩]
set_option maxHeartbeats 1000000 in
theorem p83 (w : Shop) (hk : Ok w) (hc : ∀ x, w.isSp x = true → ∃ n, w.can x n = true) : FnA Try.prog 83 [.agg w.cells] (· = .isl (w.mins.map fAV)) := by
  have hs1 := hk.s1
  have hm1 := hk.m1
  have l1 : (w.sps.map Spare.av).length = w.sps.length := by simp
  have l2 : (w.mks.map mkAV).length = w.mks.length := by simp
  have hcv : ∀ n : Nat, n ≤ 1000000 → IntKind.u64.wrap (n : Int) = (n : Int) := fun n hn => wrap_nat .u64 (.inl rfl) _ (by omega)
  have hpow : IntKind.i64.wrap (1 * 2 ^ min (↑(w.sps.map Spare.av).length : Int).toNat IntKind.i64.bits) = ((2 ^ w.sps.length : Nat) : Int) := by
    rw [l1]
    have : ∀ n, n ≤ 10 → IntKind.i64.wrap (1 * 2 ^ min ((n : Nat) : Int).toNat IntKind.i64.bits) = ((2 ^ n : Nat) : Int) := by decide
    exact this _ hs1
  have hp10 : 2 ^ w.sps.length ≤ 1024 := by
    have : ∀ n, n ≤ 10 → 2 ^ n ≤ 1024 := by decide
    exact this _ hs1
  have hcl := hcv (w.sps.map Spare.av).length (by omega)
  let cs : Nat → List (List (List Int)) := fun k => (List.range k).map fun m : Nat => w.cas (m : Nat)
  have hcs : ∀ k, ((cs k).map casAV).length = k := fun k => by simp [cs]
  refine fnA 11 ok83 (by simp) ?_
  (conv => whnf); (repeat' ((first | refine bT ?_ | refine bF ?_ | refine bN ?_ | ((first | refine bD ?_ ?_ | refine bEq ?_ ?_ | refine bNe ?_ ?_) <;> intro hh <;> try (exfalso; omega)) | refine wIn (by omega) ?_ | refine nI (by omega) ?_) <;> conv => whnf))
  refine loop_i (α := Nat) (fun k => [(4, .int .i64 k), (3, .row 8), (1, .own 0 0)]) (fun k => [.box false w.cells, .fresh, .fresh, .fresh, .fresh, .fresh, .fresh, .fresh, .row false 122 1 ((cs k).map casAV)]) (fun k => k ≤ w.mks.length) (fun k => w.mks.length - k) 0 (meets_as [(8, none)] (by (repeat' apply And.intro) <;> first | rfl | exact True.intro | (intro hh; cases hh))) (by omega) ?_
  intro k hk0
  conv => whnf
  refine bD (fun h3 => ?_) (fun h3 => ?_)
  · have hkl : k < w.mks.length := by omega
    have hmk : w.isMk (k : Nat) = true := isMk_iff.2 (by omega)
    have e1 := p82 w hk k hmk
    have hsu : (cs (k + 1)).map casAV = (cs k).map casAV ++ [casAV (w.cas (k : Nat))] := by simp only [cs]; rw [List.range_succ, List.map_append, List.map_append]; rfl
    have hck := hcs k
    (conv => whnf); (repeat' ((first | refine bT ?_ | refine bF ?_ | refine bN ?_ | ((first | refine bD ?_ ?_ | refine bEq ?_ ?_ | refine bNe ?_ ?_) <;> intro hh <;> try (exfalso; omega)) | (refine (e1).callzq rfl rfl fun _ h => ?_; subst h) | (refine apI (by simp [AV.one]) (by rw [hck]; simp; omega) ?_) | refine wIn (by omega) ?_ | refine nI (by omega) ?_) <;> conv => whnf))
    refine ⟨k + 1, ?_, by omega, by omega⟩
    rw [hsu]; exact (meets_as [(8, some 3)] (by (repeat' apply And.intro) <;> first | rfl | exact True.intro | (intro hh; cases hh)))
  · have hke : k = w.mks.length := by omega
    subst hke
    have hck := hcs w.mks.length
    have hcg : ∀ m, m < w.mks.length → ((cs w.mks.length).map casAV).getD m [] = casAV (w.cas (m : Nat)) := fun m hm => by
      rw [getM casAV _ _ (by simpa [cs] using hm)]; simp [cs]
    generalize (cs w.mks.length).map casAV = CS at *
    (conv => whnf); (repeat' ((first | refine bT ?_ | refine bF ?_ | refine bN ?_ | ((first | refine bD ?_ ?_ | refine bEq ?_ ?_ | refine bNe ?_ ?_) <;> intro hh <;> try (exfalso; omega)) | refine wIn (by omega) ?_ | refine nI (by omega) ?_) <;> conv => whnf))
    refine loop_i (α := Nat) (fun b => [(6, .int .i64 b), (5, .row 10), (3, .row 8), (1, .own 0 0)]) (fun b => [.box false w.cells, .fresh, .fresh, .fresh, .fresh, .fresh, .fresh, .fresh, .row false 122 1 CS, .fresh, .row false 42 1 ((w.bestK b).map fAV)]) (fun b => b ≤ 2 ^ w.sps.length) (fun b => 2 ^ w.sps.length - b) 0 (meets_as [(10, none)] (by (repeat' apply And.intro) <;> first | rfl | exact True.intro | (intro hh; cases hh))) (Nat.zero_le _) ?_
    intro b hb0
    conv => whnf
    refine wrEq hcl ?_
    conv => whnf
    refine nI (by omega) ?_
    conv => whnf
    refine bD (fun h4 => ?_) (fun h4 => ?_)
    · have hb : b < 2 ^ w.sps.length := by rw [hpow] at h4; omega
      have hsl : (w.sub b).length ≤ w.sps.length := numF_len _ _
      (conv => whnf); (repeat' ((first | refine bT ?_ | refine bF ?_ | refine bN ?_ | ((first | refine bD ?_ ?_ | refine bEq ?_ ?_ | refine bNe ?_ ?_) <;> intro hh <;> try (exfalso; omega)) | refine wIn (by omega) ?_ | refine nI (by omega) ?_) <;> conv => whnf))
      refine loop_i (α := Nat) (fun j => [(8, .int .i64 j), (7, .row 9), (6, .int .i64 b), (5, .row 10), (3, .row 8), (1, .own 0 0)]) (fun j => [.box false w.cells, .fresh, .fresh, .fresh, .fresh, .fresh, .fresh, .fresh, .row false 122 1 CS, .row false 3 1 ((numF j (bitB b)).map jAV), .row false 42 1 ((w.bestK b).map fAV)]) (fun j => j ≤ w.sps.length) (fun j => w.sps.length - j) 0 (meets_as [(9, none)] (by (repeat' apply And.intro) <;> first | rfl | exact True.intro | (intro hh; cases hh))) (Nat.zero_le _) ?_
      intro j hj0
      conv => whnf
      refine bD (fun h5 => ?_) (fun h5 => ?_)
      · have hj : j < w.sps.length := by omega
        have hcj := hcv j (by omega)
        have hnl := numF_len j (bitB b)
        have h1 : b / 2 ^ (j : Int).toNat < 2 ^ 62 := Nat.lt_of_le_of_lt (Nat.div_le_self _ _) (by omega)
        have he : bitI .and .i64 ((b : Int).fdiv (2 ^ min (j : Int).toNat IntKind.i64.bits)) 1 = ((b / 2 ^ (j : Int).toNat % 2 : Nat) : Int) := by
          rw [shr_nat b j (by omega), and1 _ h1]
        cases hbt : bitB b (j : Nat) with
        | true =>
          have hb1 : b / 2 ^ (j : Int).toNat % 2 = 1 := by unfold bitB at hbt; simpa using hbt
          rw [hb1] at he
          have hsu := numF_yes hbt
          have hsu2 : (numF (j + 1) (bitB b)).map jAV = (numF j (bitB b)).map jAV ++ [[.int .i64 (j : Int)]] := by rw [hsu, List.map_append]; rfl
          (conv => whnf); (repeat' ((first | refine bT ?_ | refine bF ?_ | refine bN ?_ | ((first | refine bD ?_ ?_ | refine bEq ?_ ?_ | refine bNe ?_ ?_) <;> intro hh <;> try (exfalso; omega)) | (refine wrEq hcj ?_) | (refine apI (by simp [AV.one]) (by simp; omega) ?_) | refine wIn (by omega) ?_ | refine nI (by omega) ?_) <;> conv => whnf))
          refine ⟨j + 1, ?_, by omega, by omega⟩
          rw [hsu2]; exact (meets_as [(9, some 5)] (by (repeat' apply And.intro) <;> first | rfl | exact True.intro | (intro hh; cases hh)))
        | false =>
          have hb1 : b / 2 ^ (j : Int).toNat % 2 = 0 := by
            unfold bitB at hbt
            have : ¬ (b / 2 ^ (j : Int).toNat % 2 = 1) := by simpa using hbt
            omega
          rw [hb1] at he
          have hsu := numF_no hbt
          (conv => whnf); (repeat' ((first | refine bT ?_ | refine bF ?_ | refine bN ?_ | ((first | refine bD ?_ ?_ | refine bEq ?_ ?_ | refine bNe ?_ ?_) <;> intro hh <;> try (exfalso; omega)) | (refine wrEq hcj ?_) | refine wIn (by omega) ?_ | refine nI (by omega) ?_) <;> conv => whnf))
          refine ⟨j + 1, ?_, by omega, by omega⟩
          rw [hsu]; exact (meets_id (by (repeat' apply And.intro) <;> first | rfl | exact True.intro | (intro hh; cases hh)))
      · have hje : j = w.sps.length := by omega
        subst hje
        have hsb : numF w.sps.length (bitB b) = w.sub b := rfl
        rw [hsb]
        have lsb : ((w.sub b).map jAV).length = (w.sub b).length := by simp
        have lac : ((w.bestK b).map fAV).length = (w.bestK b).length := by simp
        have hac := bestK_len w b
        have hsp : ∀ x ∈ w.sub b, w.isSp x = true := sub_sp
        have hg := good_all hk hsp hc
        have hno := bestK_no (w := w) (b := b)
        have hyes := bestK_yes (w := w) (b := b)
        have hfar := bestK_far (w := w) (b := b)
        generalize w.bestK b = acc at *
        generalize w.sub b = q at *
        have hL : ∀ (S : Res) , True := fun _ => trivial
        by_cases hfr : 0 < acc.length ∧ (acc.getD 0 []).length < q.length
        · have g1 := fget hfr.1
          have l3 : ((acc.getD 0 []).map jAV).length = (acc.getD 0 []).length := by simp
          (conv => whnf); (repeat' ((first | refine bT ?_ | refine bF ?_ | refine bN ?_ | ((first | refine bD ?_ ?_ | refine bEq ?_ ?_ | refine bNe ?_ ?_) <;> intro hh <;> try (exfalso; omega)) | (refine iaI (by omega) (by omega) g1 ?_) | refine wIn (by omega) ?_ | refine nI (by omega) ?_) <;> conv => whnf))
          refine ⟨b + 1, ?_, by omega, by omega⟩
          rw [hfar hfr.1 hfr.2]; exact (meets_id (by (repeat' apply And.intro) <;> first | rfl | exact True.intro | (intro hh; cases hh)))
        · have g1 : 0 < acc.length → (acc.map fAV).getD 0 [] = fAV (acc.getD 0 []) := fun h => fget h
          have l3 : ((acc.getD 0 []).map jAV).length = (acc.getD 0 []).length := by simp
          have hcase : acc.length = 0 ∨ (0 < acc.length ∧ ¬ (acc.getD 0 []).length < q.length) := by
            by_cases h : acc.length = 0
            · exact .inl h
            · exact .inr ⟨by omega, fun h2 => hfr ⟨by omega, h2⟩⟩
          rcases hcase with h0 | ⟨h0, h1⟩
          all_goals
            (conv => whnf); (repeat' ((first | refine bT ?_ | refine bF ?_ | refine bN ?_ | ((first | refine bD ?_ ?_ | refine bEq ?_ ?_ | refine bNe ?_ ?_) <;> intro hh <;> try (exfalso; omega)) | (refine iaI (by omega) (by omega) (g1 (by omega)) ?_) | refine wIn (by omega) ?_ | refine nI (by omega) ?_) <;> conv => whnf))
            refine loop_i (α := Nat) (fun k => [(10, .int .i64 k), (9, .bool (allB w q k)), (7, .row 9), (6, .int .i64 b), (5, .row 10), (3, .row 8), (1, .own 0 0)]) (fun k => [.box false w.cells, .fresh, .fresh, .fresh, .fresh, .fresh, .fresh, .fresh, .row false 122 1 CS, .row false 3 1 (q.map jAV), .row false 42 1 (acc.map fAV)]) (fun k => k ≤ w.mks.length) (fun k => w.mks.length - k) 0 (meets_id (by (repeat' apply And.intro) <;> first | rfl | exact True.intro | (intro hh; cases hh))) (Nat.zero_le _) ?_
            intro k hk0
            conv => whnf
            refine bD (fun h6 => ?_) (fun h6 => ?_)
            · have hkl : k < w.mks.length := by omega
              have hmk : w.isMk (k : Nat) = true := isMk_iff.2 (by omega)
              have hsu := allB_succ (w := w) (l := q) (k := k)
              have e2 := p81 w hk q k (by omega) hsp hmk hc
              cases hbk : allB w q k with
              | true =>
                have hsu2 : allB w q (k + 1) = (w.mendsV q (k : Nat) == 1) := by rw [hsu, hbk]; rfl
                (conv => whnf); (repeat' ((first | refine bT ?_ | refine bF ?_ | refine bN ?_ | ((first | refine bD ?_ ?_ | refine bEq ?_ ?_ | refine bNe ?_ ?_) <;> intro hh <;> try (exfalso; omega)) | (refine iaI (by omega) (by omega) (hcg k hkl) ?_) | (refine (e2).lendq rfl fun _ h => ?_; subst h; refine ⟨rfl, ?_⟩) | refine wIn (by omega) ?_ | refine nI (by omega) ?_) <;> conv => whnf))
                refine ⟨k + 1, ?_, by omega, by omega⟩
                rw [hsu2]; exact (meets_id (by (repeat' apply And.intro) <;> first | rfl | exact True.intro | (intro hh; cases hh)))
              | false =>
                have hsu2 : allB w q (k + 1) = false := by rw [hsu, hbk]; rfl
                (conv => whnf); (repeat' ((first | refine bT ?_ | refine bF ?_ | refine bN ?_ | ((first | refine bD ?_ ?_ | refine bEq ?_ ?_ | refine bNe ?_ ?_) <;> intro hh <;> try (exfalso; omega)) | refine wIn (by omega) ?_ | refine nI (by omega) ?_) <;> conv => whnf))
                refine ⟨k + 1, ?_, by omega, by omega⟩
                rw [hsu2]; exact (meets_id (by (repeat' apply And.intro) <;> first | rfl | exact True.intro | (intro hh; cases hh)))
            · have hke : k = w.mks.length := by omega
              subst hke
              rw [← hg]
              cases hgq : w.good q with
              | false =>
                (conv => whnf); (repeat' ((first | refine bT ?_ | refine bF ?_ | refine bN ?_ | ((first | refine bD ?_ ?_ | refine bEq ?_ ?_ | refine bNe ?_ ?_) <;> intro hh <;> try (exfalso; omega)) | refine wIn (by omega) ?_ | refine nI (by omega) ?_) <;> conv => whnf))
                refine ⟨b + 1, ?_, by omega, by omega⟩
                rw [hno hgq]; exact (meets_id (by (repeat' apply And.intro) <;> first | rfl | exact True.intro | (intro hh; cases hh)))
              | true =>
                have hy := hyes hgq
                by_cases hsh : 0 < acc.length ∧ q.length < (acc.getD 0 []).length
                · have hs : stepB acc q = [q] := by unfold stepB; rw [if_neg hfr, if_pos hsh]
                  have g2 := g1 hsh.1
                  (conv => whnf); (repeat' ((first | refine bT ?_ | refine bF ?_ | refine bN ?_ | ((first | refine bD ?_ ?_ | refine bEq ?_ ?_ | refine bNe ?_ ?_) <;> intro hh <;> try (exfalso; omega)) | (refine iaI (by omega) (by omega) g2 ?_) | (refine apI (by simp [AV.one]) (by simp) ?_) | refine wIn (by omega) ?_ | refine nI (by omega) ?_) <;> conv => whnf))
                  all_goals
                    refine ⟨b + 1, ?_, by omega, by omega⟩
                    rw [hy, hs]; exact (meets_as [(10, some 7)] (by (repeat' apply And.intro) <;> first | rfl | exact True.intro | (intro hh; cases hh)))
                · have hs : (stepB acc q).map fAV = acc.map fAV ++ [fAV q] := by unfold stepB; rw [if_neg hfr, if_neg hsh]; simp
                  (conv => whnf); (repeat' ((first | refine bT ?_ | refine bF ?_ | refine bN ?_ | ((first | refine bD ?_ ?_ | refine bEq ?_ ?_ | refine bNe ?_ ?_) <;> intro hh <;> try (exfalso; omega)) | (refine iaI (by omega) (by omega) (g1 (by omega)) ?_) | (refine apI (by simp [AV.one]) (by simp; omega) ?_) | refine wIn (by omega) ?_ | refine nI (by omega) ?_) <;> conv => whnf))
                  refine ⟨b + 1, ?_, by omega, by omega⟩
                  rw [hy, hs]; exact (meets_as [(10, some 7)] (by (repeat' apply And.intro) <;> first | rfl | exact True.intro | (intro hh; cases hh)))
    · have hbe : b = 2 ^ w.sps.length := by rw [hpow] at h4; omega
      have hfin : w.bestK b = w.mins := by rw [hbe]; rfl
      rw [hfin]
      (conv => whnf); (repeat' ((first | refine bT ?_ | refine bF ?_ | refine bN ?_ | ((first | refine bD ?_ ?_ | refine bEq ?_ ?_ | refine bNe ?_ ?_) <;> intro hh <;> try (exfalso; omega)) | refine wIn (by omega) ?_ | refine nI (by omega) ?_) <;> conv => whnf))
      all_goals rfl
theorem numF_asc (n : Nat) (p : Int → Bool) : ascB (numF n p) = true := by
  have hp : (numF n p).Pairwise (· < ·) := by
    unfold numF
    refine List.Pairwise.sublist List.filter_sublist ?_
    rw [List.pairwise_map]
    exact List.Pairwise.imp (fun h => by omega) (List.pairwise_lt_range (n := n))
  rw [ascB_iff]
  intro i hi
  have := List.pairwise_iff_getElem.1 hp i (i + 1) (by omega) hi (by omega)
  have e1 : (numF n p).getD i 0 = (numF n p)[i] := by simp [List.getD_eq_getElem?_getD, show i < (numF n p).length by omega]
  have e2 : (numF n p).getD (i + 1) 0 = (numF n p)[i + 1] := by simp [List.getD_eq_getElem?_getD, hi]
  rw [e1, e2]; exact this
theorem goods_ok {w : Shop} {l : List Int} (h : l ∈ w.goods) : w.good l = true ∧ w.isLi l = true ∧ ∀ x ∈ l, w.isSp x = true := by
  unfold Shop.goods Shop.goodK at h
  obtain ⟨h1, h2⟩ := List.mem_filter.1 h
  obtain ⟨b, _, rfl⟩ := List.mem_map.1 h1
  refine ⟨h2, ?_, sub_sp⟩
  unfold Shop.isLi
  rw [show ascB (w.sub b) = true from numF_asc _ _, Bool.true_and, List.all_eq_true]
  exact sub_sp
theorem p27 (w : Shop) (hB : Big w) (h : w.eF = 0) : FnA Try.prog 27 [.agg w.cells] (· = .tup [.int .i64 w.keep.length, .int .i64 0]) := by
  obtain ⟨h1, h2⟩ := eF_0 h
  have hk := chk_ok (chk_0 h1)
  have e1 := p54 w hB
  rw [h1] at e1
  have e2 := p83 w hk (fun x hx => can_ex h1 hx)
  have l : (w.mins.map fAV).length = w.mins.length := by simp
  have g1 := fget h2
  have l3 : (w.keep.map jAV).length = w.keep.length := by simp
  have e : w.mins.getD 0 [] = w.keep := rfl
  rw [e] at g1
  refine fnA 2 ok27 (by simp) ?_
  (conv => whnf); (repeat' ((first | refine bT ?_ | refine bF ?_ | refine bN ?_ | ((first | refine bD ?_ ?_ | refine bEq ?_ ?_ | refine bNe ?_ ?_) <;> intro hh <;> try (exfalso; omega)) | (refine (e1).callq rfl rfl fun _ h => ?_; subst h) | (refine (e2).callzq rfl rfl fun _ h => ?_; subst h) | (refine iaI (by omega) (by omega) g1 ?_) | refine wIn (by omega) ?_ | refine nI (by omega) ?_) <;> conv => whnf))
  all_goals rw [← l3]
theorem p27e (w : Shop) (hB : Big w) (h : w.eF ≠ 0) : FnA Try.prog 27 [.agg w.cells] (· = .tup [.int .i64 0, .int .i64 w.eF]) := by
  have e1 := p54 w hB
  by_cases h1 : w.eO true = 0
  · have h2 : w.mins.length = 0 := by
      unfold Shop.eF at h
      rw [if_neg (by simpa using h1)] at h
      split at h
      · assumption
      · exact absurd rfl h
    have e0 : w.eF = 3 := by unfold Shop.eF; rw [if_neg (by simpa using h1), if_pos h2]
    rw [e0]
    rw [h1] at e1
    have hk := chk_ok (chk_0 h1)
    have e2 := p83 w hk (fun x hx => can_ex h1 hx)
    have l : (w.mins.map fAV).length = w.mins.length := by simp
    refine fnA 2 ok27 (by simp) ?_
    (conv => whnf); (repeat' ((first | refine bT ?_ | refine bF ?_ | refine bN ?_ | ((first | refine bD ?_ ?_ | refine bEq ?_ ?_ | refine bNe ?_ ?_) <;> intro hh <;> try (exfalso; omega)) | (refine (e1).callq rfl rfl fun _ h => ?_; subst h) | (refine (e2).callzq rfl rfl fun _ h => ?_; subst h) | refine wIn (by omega) ?_ | refine nI (by omega) ?_) <;> conv => whnf))
    all_goals rfl
  · have e0 : w.eF = w.eO true := by unfold Shop.eF; rw [if_pos h1]
    rw [e0]
    refine fnA 2 ok27 (by simp) ?_
    (conv => whnf); (repeat' ((first | refine bT ?_ | refine bF ?_ | refine bN ?_ | ((first | refine bD ?_ ?_ | refine bEq ?_ ?_ | refine bNe ?_ ?_) <;> intro hh <;> try (exfalso; omega)) | (refine (e1).callq rfl rfl fun _ h => ?_; subst h) | refine wIn (by omega) ?_ | refine nI (by omega) ?_) <;> conv => whnf))
    all_goals rfl
/-- how many of the lists hold a spare -/
def cntM (L : List (List Int)) (x : Int) (k : Nat) : Nat := ((L.take k).filter fun l => decide (x ∈ l)).length
theorem cntM_le (L : List (List Int)) (x : Int) (k : Nat) : cntM L x k ≤ k := by
  unfold cntM
  have := List.length_filter_le (fun l => decide (x ∈ l)) (L.take k)
  rw [List.length_take] at this; omega
theorem cntM_succ {L : List (List Int)} {x : Int} {k : Nat} (hk : k < L.length) : cntM L x (k + 1) = cntM L x k + (if x ∈ L.getD k [] then 1 else 0) := by
  unfold cntM
  have e : L.getD k [] = L[k] := by simp [List.getD_eq_getElem?_getD, hk]
  rw [e, List.take_succ_eq_append_getElem hk, List.filter_append, List.length_append]
  by_cases h : x ∈ L[k] <;> simp [h]
theorem cntM_all {w : Shop} {x : Int} : w.needB x = decide (cntM w.mins x w.mins.length = w.mins.length) := by
  rw [Bool.eq_iff_iff, decide_eq_true_iff]
  unfold Shop.needB cntM
  rw [List.take_length, List.all_eq_true]
  constructor
  · intro h; rw [List.filter_eq_self.2 h]
  · intro h
    have := List.filter_sublist (p := fun l => decide (x ∈ l)) (l := w.mins) |>.eq_of_length h
    exact List.filter_eq_self.1 this
theorem p29 (w : Shop) (hB : Big w) (h : w.eF = 0) : FnA Try.prog 29 [.agg w.cells] (· = .tup [.isl (w.needed.map jAV), .int .i64 0]) := by
  obtain ⟨h1, h2⟩ := eF_0 h
  have hk := chk_ok (chk_0 h1)
  have hs1 := hk.s1
  have e1 := p27 w hB h
  have e2 := p83 w hk (fun x hx => can_ex h1 hx)
  have hml := mins_len hk
  have l1 : (w.sps.map Spare.av).length = w.sps.length := by simp
  have l2 : (w.mins.map fAV).length = w.mins.length := by simp
  refine fnA 6 ok29 (by simp) ?_
  (conv => whnf); (repeat' ((first | refine bT ?_ | refine bF ?_ | refine bN ?_ | ((first | refine bD ?_ ?_ | refine bEq ?_ ?_ | refine bNe ?_ ?_) <;> intro hh <;> try (exfalso; omega)) | (refine (e1).callq rfl rfl fun _ h => ?_; subst h) | (refine (e2).callzq rfl rfl fun _ h => ?_; subst h) | refine wIn (by omega) ?_ | refine nI (by omega) ?_) <;> conv => whnf))
  refine loop_i (α := Nat) (fun i => [(8, .int .i64 i), (7, .row 4), (6, .isl (w.mins.map fAV)), (1, .own 0 0)]) (fun i => [.box false w.cells, .fresh, .fresh, .fresh, .row false 3 1 ((numF i w.needB).map jAV), .fresh]) (fun i => i ≤ w.sps.length) (fun i => w.sps.length - i) 0 (meets_as [(4, none)] (by (repeat' apply And.intro) <;> first | rfl | exact True.intro | (intro hh; cases hh))) (Nat.zero_le _) ?_
  intro i hi0
  conv => whnf
  refine bD (fun h3 => ?_) (fun h3 => ?_)
  · have hi : i < w.sps.length := by omega
    have hnl := numF_len i w.needB
    (conv => whnf); (repeat' ((first | refine bT ?_ | refine bF ?_ | refine bN ?_ | ((first | refine bD ?_ ?_ | refine bEq ?_ ?_ | refine bNe ?_ ?_) <;> intro hh <;> try (exfalso; omega)) | refine wIn (by omega) ?_ | refine nI (by omega) ?_) <;> conv => whnf))
    refine loop_i (α := Nat) (fun k => [(10, .int .i64 k), (9, .int .i64 (cntM w.mins i k : Nat)), (8, .int .i64 i), (7, .row 4), (6, .isl (w.mins.map fAV)), (1, .own 0 0)]) (fun k => [.box false w.cells, .fresh, .fresh, .fresh, .row false 3 1 ((numF i w.needB).map jAV), .fresh]) (fun k => k ≤ w.mins.length) (fun k => w.mins.length - k) 0 (meets_id (by (repeat' apply And.intro) <;> first | rfl | exact True.intro | (intro hh; cases hh))) (Nat.zero_le _) ?_
    intro k hk0
    conv => whnf
    refine bD (fun h4 => ?_) (fun h4 => ?_)
    · have hkl : k < w.mins.length := by omega
      have g1 := fget hkl
      have hcl := cntM_le w.mins i k
      have hcs := cntM_succ (x := i) hkl
      have hgl : (w.mins.getD k []).length ≤ w.sps.length := goods_sub (mins_goods (by rw [List.getD_eq_getElem?_getD, List.getElem?_eq_getElem hkl]; exact List.getElem_mem hkl))
      have e3 := p51 (w.mins.getD k []) i (by omega)
      by_cases hx : (i : Int) ∈ w.mins.getD k []
      · rw [decide_eq_true hx] at e3
        rw [if_pos hx] at hcs
        (conv => whnf); (repeat' ((first | refine bT ?_ | refine bF ?_ | refine bN ?_ | ((first | refine bD ?_ ?_ | refine bEq ?_ ?_ | refine bNe ?_ ?_) <;> intro hh <;> try (exfalso; omega)) | (refine iaI (by omega) (by omega) g1 ?_) | (refine (e3).callq rfl rfl fun _ h => ?_; subst h) | refine wIn (by omega) ?_ | refine nI (by omega) ?_) <;> conv => whnf))
        refine ⟨k + 1, ?_, by omega, by omega⟩
        rw [hcs]; exact (meets_id (by (repeat' apply And.intro) <;> first | rfl | exact True.intro | (intro hh; cases hh)))
      · rw [decide_eq_false hx] at e3
        rw [if_neg hx] at hcs
        (conv => whnf); (repeat' ((first | refine bT ?_ | refine bF ?_ | refine bN ?_ | ((first | refine bD ?_ ?_ | refine bEq ?_ ?_ | refine bNe ?_ ?_) <;> intro hh <;> try (exfalso; omega)) | (refine iaI (by omega) (by omega) g1 ?_) | (refine (e3).callq rfl rfl fun _ h => ?_; subst h) | refine wIn (by omega) ?_ | refine nI (by omega) ?_) <;> conv => whnf))
        refine ⟨k + 1, ?_, by omega, by omega⟩
        rw [hcs]; exact (meets_id (by (repeat' apply And.intro) <;> first | rfl | exact True.intro | (intro hh; cases hh)))
    · have hke : k = w.mins.length := by omega
      subst hke
      have hca := cntM_all (w := w) (x := i)
      by_cases hx : cntM w.mins i w.mins.length = w.mins.length
      · rw [decide_eq_true hx] at hca
        have hsu : (numF (i + 1) w.needB).map jAV = (numF i w.needB).map jAV ++ [[.int .i64 (i : Int)]] := by rw [numF_yes hca, List.map_append]; rfl
        (conv => whnf); (repeat' ((first | refine bT ?_ | refine bF ?_ | refine bN ?_ | ((first | refine bD ?_ ?_ | refine bEq ?_ ?_ | refine bNe ?_ ?_) <;> intro hh <;> try (exfalso; omega)) | (refine apI (by simp [AV.one]) (by simp; omega) ?_) | refine wIn (by omega) ?_ | refine nI (by omega) ?_) <;> conv => whnf))
        refine ⟨i + 1, ?_, by omega, by omega⟩
        rw [hsu]; exact (meets_as [(4, some 3)] (by (repeat' apply And.intro) <;> first | rfl | exact True.intro | (intro hh; cases hh)))
      · rw [decide_eq_false hx] at hca
        have hsu := numF_no hca
        (conv => whnf); (repeat' ((first | refine bT ?_ | refine bF ?_ | refine bN ?_ | ((first | refine bD ?_ ?_ | refine bEq ?_ ?_ | refine bNe ?_ ?_) <;> intro hh <;> try (exfalso; omega)) | refine wIn (by omega) ?_ | refine nI (by omega) ?_) <;> conv => whnf))
        refine ⟨i + 1, ?_, by omega, by omega⟩
        rw [hsu]; exact (meets_id (by (repeat' apply And.intro) <;> first | rfl | exact True.intro | (intro hh; cases hh)))
  · have hie : i = w.sps.length := by omega
    subst hie
    have e : numF w.sps.length w.needB = w.needed := rfl
    rw [e]
    (conv => whnf); (repeat' ((first | refine bT ?_ | refine bF ?_ | refine bN ?_ | ((first | refine bD ?_ ?_ | refine bEq ?_ ?_ | refine bNe ?_ ?_) <;> intro hh <;> try (exfalso; omega)) | refine wIn (by omega) ?_ | refine nI (by omega) ?_) <;> conv => whnf))
    all_goals rfl
theorem p29e (w : Shop) (hB : Big w) (h : w.eF ≠ 0) : FnA Try.prog 29 [.agg w.cells] (· = .tup [.isl [], .int .i64 w.eF]) := by
  have e1 := p27e w hB h
  refine fnA 4 ok29 (by simp) ?_
  (conv => whnf); (repeat' ((first | refine bT ?_ | refine bF ?_ | refine bN ?_ | ((first | refine bD ?_ ?_ | refine bEq ?_ ?_ | refine bNe ?_ ?_) <;> intro hh <;> try (exfalso; omega)) | (refine (e1).callq rfl rfl fun _ h => ?_; subst h) | refine wIn (by omega) ?_ | refine nI (by omega) ?_) <;> conv => whnf))
  all_goals rfl
theorem p32 (w : Shop) (hB : Big w) (hk : Ok w) (hc : ∀ x, w.isSp x = true → ∃ n, w.can x n = true) (l : List Int) (hl : l.length ≤ 1000000) (hli : w.isLi l = true) (hsp : ∀ x ∈ l, w.isSp x = true) (hg : w.good l = true) : FnA Try.prog 32 [.agg w.cells, .isl (l.map jAV)] (· = .bool true) := by
  have e1 := p79 w l hB.s hl
  rw [hli] at e1
  have hm1 := hk.m1
  have l2 : (w.mks.map mkAV).length = w.mks.length := by simp
  rw [good_all hk hsp hc] at hg
  unfold allB at hg
  rw [List.all_eq_true] at hg
  refine fnA 2 ok32 (by simp) ?_
  (conv => whnf); (repeat' ((first | refine bT ?_ | refine bF ?_ | refine bN ?_ | ((first | refine bD ?_ ?_ | refine bEq ?_ ?_ | refine bNe ?_ ?_) <;> intro hh <;> try (exfalso; omega)) | (refine (e1).callq rfl rfl fun _ h => ?_; subst h) | refine wIn (by omega) ?_ | refine nI (by omega) ?_) <;> conv => whnf))
  refine loop_i (α := Nat) (fun k => [(5, .int .i64 k), (2, .own 0 0), (1, .isl (l.map jAV))]) (fun k => [.box false w.cells, .fresh]) (fun k => k ≤ w.mks.length) (fun k => w.mks.length - k) 0 (meets_id (by (repeat' apply And.intro) <;> first | rfl | exact True.intro | (intro hh; cases hh))) (Nat.zero_le _) ?_
  intro k hk0
  conv => whnf
  refine bD (fun h3 => ?_) (fun h3 => ?_)
  · have hkl : k < w.mks.length := by omega
    have hmk : w.isMk (k : Nat) = true := isMk_iff.2 (by omega)
    have h1 := of_decide_eq_true (hg k (List.mem_range.2 hkl))
    have e4 := p82 w hk k hmk
    have e5 := p81 w hk l k hl hsp hmk hc
    rw [h1] at e5
    (conv => whnf); (repeat' ((first | refine bT ?_ | refine bF ?_ | refine bN ?_ | ((first | refine bD ?_ ?_ | refine bEq ?_ ?_ | refine bNe ?_ ?_) <;> intro hh <;> try (exfalso; omega)) | (refine (e4).callzq rfl rfl fun _ h => ?_; subst h) | (refine (e5).callq rfl rfl fun _ h => ?_; subst h) | refine wIn (by omega) ?_ | refine nI (by omega) ?_) <;> conv => whnf))
    exact ⟨k + 1, (meets_id (by (repeat' apply And.intro) <;> first | rfl | exact True.intro | (intro hh; cases hh))), by omega, by omega⟩
  · (conv => whnf); (repeat' ((first | refine bT ?_ | refine bF ?_ | refine bN ?_ | ((first | refine bD ?_ ?_ | refine bEq ?_ ?_ | refine bNe ?_ ?_) <;> intro hh <;> try (exfalso; omega)) | refine wIn (by omega) ?_ | refine nI (by omega) ?_) <;> conv => whnf))
    all_goals rfl
theorem keep_mem {w : Shop} (h : w.eF = 0) : w.keep ∈ w.mins := by
  have := (eF_0 h).2
  unfold Shop.keep
  rw [List.getD_eq_getElem?_getD, List.getElem?_eq_getElem this]; exact List.getElem_mem this
/-- PartsFewest -/
theorem k5 (w : Shop) : FnA Try.prog 5 [.agg w.cells] (· = .bool true) := by
  have e1 := p14 w
  cases hf : w.far with
  | true =>
    rw [hf] at e1
    refine fnA 8 ok5 (by simp) ?_
    (conv => whnf); (repeat' ((first | refine bT ?_ | refine bF ?_ | refine bN ?_ | ((first | refine bD ?_ ?_ | refine bEq ?_ ?_ | refine bNe ?_ ?_) <;> intro hh <;> try (exfalso; omega)) | (refine (e1).callq rfl rfl fun _ h => ?_; subst h) | (refine (p15).callq rfl rfl fun _ h => ?_; subst h) | refine wIn (by omega) ?_ | refine nI (by omega) ?_) <;> conv => whnf))
    all_goals rfl
  | false =>
    rw [hf] at e1
    have hB := sz_big (far_sz hf)
    have e2 := p16 w hB
    by_cases h : w.eF = 0
    · obtain ⟨h1, h2⟩ := eF_0 h
      have hk := chk_ok (chk_0 h1)
      have hs1 := hk.s1
      have hkm := keep_mem h
      have hkl := goods_sub (mins_goods hkm)
      obtain ⟨q1, q2, q3⟩ := goods_ok (mins_goods hkm)
      have a1 := p26 w h
      have a2 := p27 w hB h
      have a3 := p28 w h
      have a4 := p29 w hB h
      have a5 := p30 w h
      have hnl := numF_len w.sps.length w.needB
      have a6 := p31 w.needed w.needed (by unfold Shop.needed; omega)
      rw [decide_eq_true rfl] at a6
      have a7 := p32 w hB hk (fun x hx => can_ex h1 hx) w.keep (by omega) q2 q3 q1
      have lk : (w.keep.map jAV).length = w.keep.length := by simp
      refine fnA 8 ok5 (by simp) ?_
      (conv => whnf); (repeat' ((first | refine bT ?_ | refine bF ?_ | refine bN ?_ | ((first | refine bD ?_ ?_ | refine bEq ?_ ?_ | refine bNe ?_ ?_) <;> intro hh <;> try (exfalso; omega)) | (refine (e1).callq rfl rfl fun _ h => ?_; subst h) | (refine (e2).callzq rfl rfl fun _ h => ?_; subst h) | (refine (a1).callq rfl rfl fun _ h => ?_; subst h) | (refine (a2).callq rfl rfl fun _ h => ?_; subst h) | (refine (a3).callzq rfl rfl fun _ h => ?_; subst h) | (refine (a4).callzq rfl rfl fun _ h => ?_; subst h) | (refine (a5).callzq rfl rfl fun _ h => ?_; subst h) | (refine (a6).callq rfl rfl fun _ h => ?_; subst h) | (refine (a7).callq rfl rfl fun _ h => ?_; subst h) | (refine (p15).callq rfl rfl fun _ h => ?_; subst h) | (refine bKT ?_ ?_; (focus (simp; done))) | refine wIn (by omega) ?_ | refine nI (by omega) ?_) <;> conv => whnf))
      all_goals rfl
    · have a1 := p26e w h
      have a2 := p27e w hB h
      have a3 := p28e w h
      have a4 := p29e w hB h
      have a5 := p30e w h
      have a6 := p31 [] [] (by simp)
      refine fnA 8 ok5 (by simp) ?_
      (conv => whnf); (repeat' ((first | refine bT ?_ | refine bF ?_ | refine bN ?_ | ((first | refine bD ?_ ?_ | refine bEq ?_ ?_ | refine bNe ?_ ?_) <;> intro hh <;> try (exfalso; omega)) | (refine (e1).callq rfl rfl fun _ h => ?_; subst h) | (refine (e2).callzq rfl rfl fun _ h => ?_; subst h) | (refine (a1).callq rfl rfl fun _ h => ?_; subst h) | (refine (a2).callq rfl rfl fun _ h => ?_; subst h) | (refine (a3).callzq rfl rfl fun _ h => ?_; subst h) | (refine (a4).callzq rfl rfl fun _ h => ?_; subst h) | (refine (a5).callzq rfl rfl fun _ h => ?_; subst h) | (refine (a6).callq rfl rfl fun _ h => ?_; subst h) | (refine (p15).callq rfl rfl fun _ h => ?_; subst h) | (refine bKT ?_ ?_; (focus (simp; done))) | refine wIn (by omega) ?_ | refine nI (by omega) ?_) <;> conv => whnf))
      all_goals rfl
end Go.Proofs
