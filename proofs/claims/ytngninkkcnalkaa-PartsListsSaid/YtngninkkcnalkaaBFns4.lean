/- What each function of this program answers, proved by walking its body: the contracts that the law rests on, part 4. -/
import Derived.Test.YtngninkkcnalkaaBFns3
set_option linter.unusedSimpArgs false
set_option linter.unusedVariables false
set_option linter.unusedSectionVars false
namespace Go.Proofs
open Go.Eng
attribute [local irreducible] Go.Eng.brB Go.Eng.need Go.Eng.wrE Go.Eng.iaE Go.Eng.slE Go.Eng.apE Go.Eng.CallZ Go.Eng.CallE Go.Eng.VCallE Go.Eng.YldE Go.Eng.GoC Go.Eng.MeetsE Go.Eng.FnA Go.Eng.FnV Go.Eng.ItA Go.Eng.ItM
set_option maxRecDepth 100000
theorem cov_bit (w : Shop) (i n m : Int) : ∀ K s : Nat, (w.cov i n m K).testBit s = (decide (s < K) && w.fit i n m (s : Nat))
  | 0, s => by simp [Shop.cov]
  | K + 1, s => by
    have ih := cov_bit w i n m K
    simp only [Shop.cov]
    cases hf : w.fit i n m (K : Nat) with
    | true =>
      simp only [if_true]
      rw [← or_pow (cov_lt w i n m K), Nat.testBit_or, ih, Nat.testBit_two_pow]
      by_cases h : s = K
      · subst h; simp [hf]
      · have h1 : decide (K = s) = false := decide_eq_false (fun e => h e.symm)
        have h2 : decide (s < K + 1) = decide (s < K) := decide_eq_decide.2 (by omega)
        rw [h1, h2, Bool.or_false]
    | false =>
      simp only [Bool.false_eq_true, if_false, Nat.add_zero]
      rw [ih]
      by_cases h : s = K
      · subst h; simp [hf]
      · have h2 : decide (s < K + 1) = decide (s < K) := decide_eq_decide.2 (by omega)
        rw [h2]
/-- the slots that spares of these lengths fit together -/
def orN (w : Shop) (m : Int) (K : Nat) (l : List Int) (T : Int → Int) : Nat → Nat
  | 0 => 0
  | k + 1 => orN w m K l T k ||| w.cov (l.getD k 0) (T (l.getD k 0)) m K
theorem orN_rch {w : Shop} {m : Int} {K : Nat} {l : List Int} {T : Int → Int} : ∀ {k : Nat}, k ≤ l.length → (∀ x ∈ l, w.can x (T x) = true) → w.rch m K l k (orN w m K l T k)
  | 0, _, _ => rfl
  | k + 1, hk, h => ⟨_, _, orN_rch (by omega) h, h _ (getD_memI (by omega)), rfl⟩
theorem orN_bit {w : Shop} {m : Int} {K : Nat} {l : List Int} {T : Int → Int} : ∀ {k s : Nat}, k ≤ l.length → ((orN w m K l T k).testBit s = true ↔ s < K ∧ ∃ j, j < k ∧ w.fit (l.getD j 0) (T (l.getD j 0)) m (s : Nat) = true)
  | 0, s, _ => by simp [orN]
  | k + 1, s, h => by
    have ih := orN_bit (w := w) (m := m) (K := K) (l := l) (T := T) (k := k) (s := s) (by omega)
    unfold orN
    rw [Nat.testBit_or, Bool.or_eq_true, ih, cov_bit, Bool.and_eq_true, decide_eq_true_eq]
    constructor
    · rintro (⟨a, j, b, c⟩ | ⟨a, b⟩)
      · exact ⟨a, j, by omega, c⟩
      · exact ⟨a, k, by omega, b⟩
    · rintro ⟨a, j, b, c⟩
      by_cases e : j = k
      · subst e; exact .inr ⟨a, c⟩
      · exact .inl ⟨a, j, by omega, c⟩
theorem full_iff {K b : Nat} (h : b < 2 ^ K) : b = 2 ^ K - 1 ↔ ∀ s, s < K → b.testBit s = true := by
  constructor
  · rintro rfl s hs; rw [Nat.testBit_two_pow_sub_one]; exact decide_eq_true hs
  · intro hb
    apply Nat.eq_of_testBit_eq
    intro s
    rw [Nat.testBit_two_pow_sub_one]
    by_cases hs : s < K
    · rw [hb s hs, decide_eq_true hs]
    · rw [decide_eq_false hs]
      exact Nat.testBit_lt_two_pow (Nat.lt_of_lt_of_le h (Nat.pow_le_pow_right (by omega) (by omega)))
/-- each slot of a make is fitted, if spares have these lengths -/
def mended (w : Shop) (m : Int) (l : List Int) (T : Int → Int) : Bool := (List.range (w.slots m).length).all fun s => l.any fun x => w.fit x (T x) m (s : Nat)
theorem mended_iff {w : Shop} {m : Int} {l : List Int} {T : Int → Int} : mended w m l T = true ↔ orN w m (w.slots m).length l T l.length = 2 ^ (w.slots m).length - 1 := by
  have hlt : orN w m (w.slots m).length l T l.length < 2 ^ (w.slots m).length := by
    have : ∀ k, orN w m (w.slots m).length l T k < 2 ^ (w.slots m).length := fun k => by
      induction k with
      | zero => exact Nat.pow_pos (by omega)
      | succ k ih => exact Nat.or_lt_two_pow ih (cov_lt _ _ _ _ _)
    exact this _
  rw [full_iff hlt]
  unfold mended
  simp only [List.all_eq_true, List.mem_range, List.any_eq_true]
  constructor
  · intro h s hs
    obtain ⟨x, hx, hf⟩ := h s hs
    obtain ⟨j, hj, rfl⟩ := List.getElem_of_mem hx
    refine (orN_bit (Nat.le_refl _)).2 ⟨hs, j, hj, ?_⟩
    have e : l.getD j 0 = l[j] := by simp [List.getD_eq_getElem?_getD, hj]
    rw [e]; exact hf
  · intro h s hs
    obtain ⟨_, j, hj, hf⟩ := (orN_bit (Nat.le_refl _)).1 (h s hs)
    exact ⟨_, getD_memI hj, hf⟩
/-- a list surely mends a make: in each truth -/
theorem mends_1 {w : Shop} {m : Int} {l : List Int} (h : w.mendsV l m = 1) {T : Int → Int} (hT : ∀ x ∈ l, w.can x (T x) = true) : mended w m l T = true := by
  have hr := orN_rch (w := w) (m := m) (K := (w.slots m).length) (T := T) (Nat.le_refl l.length) hT
  unfold Shop.mendsV at h
  split at h
  · cases h
  · split at h
    · rename_i h2; exact mended_iff.2 (h2 _ hr)
    · cases h
def iN (l : List Nat) : List Int := l.map fun n : Nat => (n : Int)
def dd1 (own : List Nat) (b : Nat) : List Nat := if b ∈ own then own else own ++ [b]
theorem mem_iN {l : List Nat} {b : Nat} : ((b : Int) ∈ iN l) ↔ b ∈ l := by
  unfold iN
  simp only [List.mem_map]
  exact ⟨fun ⟨x, hx, e⟩ => by have : x = b := by omega
                              exact this ▸ hx, fun h => ⟨b, h, rfl⟩⟩
theorem dd1_mem {own : List Nat} {b x : Nat} : x ∈ dd1 own b ↔ x ∈ own ∨ x = b := by
  unfold dd1; split
  · rename_i h; exact ⟨.inl, fun h2 => h2.elim id fun e => e ▸ h⟩
  · simp
theorem dd1_nd {own : List Nat} {b : Nat} (h : own.Nodup) : (dd1 own b).Nodup := by
  unfold dd1; split
  · exact h
  · rename_i hb
    rw [List.nodup_append]
    exact ⟨h, by simp, fun x hx y hy e => by simp only [List.mem_singleton] at hy; subst hy; subst e; exact hb hx⟩
theorem nodup_len : ∀ (n : Nat) (l : List Nat), l.Nodup → (∀ x ∈ l, x < n) → l.length ≤ n
  | 0, l, _, h => by
    cases l with
    | nil => simp
    | cons a l => exact absurd (h a (by simp)) (by omega)
  | n + 1, l, hd, h => by
    by_cases hn : n ∈ l
    · have := nodup_len n (l.erase n) (hd.erase n) (fun x hx => by
        have := hd.mem_erase_iff.1 hx
        have := h x this.2
        omega)
      rw [List.length_erase_of_mem hn] at this
      omega
    · have := nodup_len n l hd (fun x hx => by
        have := h x hx
        have : x ≠ n := fun e => hn (e ▸ hx)
        omega)
      omega
/-- all that a spare can fit of a make -/
def Shop.ownK (w : Shop) (m i : Int) (k : Nat) : List Nat := ((w.allL i).take k).foldl (fun own n => dd1 own (w.cov i n m (w.slots m).length)) []
def Shop.own (w : Shop) (m i : Int) : List Nat := w.ownK m i (w.allL i).length
theorem ownK_succ {w : Shop} {m i : Int} {k : Nat} (hk : k < (w.allL i).length) : w.ownK m i (k + 1) = dd1 (w.ownK m i k) (w.cov i ((w.allL i).getD k 0) m (w.slots m).length) := by
  unfold Shop.ownK
  have e : (w.allL i).getD k 0 = (w.allL i)[k] := by simp [List.getD_eq_getElem?_getD, hk]
  rw [e, List.take_succ_eq_append_getElem hk, List.foldl_append]; rfl
theorem ownK_ok {w : Shop} {m i : Int} : ∀ {k : Nat}, k ≤ (w.allL i).length → (w.ownK m i k).Nodup ∧ ∀ b, b ∈ w.ownK m i k ↔ ∃ n ∈ (w.allL i).take k, w.cov i n m (w.slots m).length = b
  | 0, _ => by simp [Shop.ownK]
  | k + 1, h => by
    obtain ⟨h1, h2⟩ := ownK_ok (w := w) (m := m) (i := i) (k := k) (by omega)
    rw [ownK_succ h]
    have e : (w.allL i).getD k 0 = (w.allL i)[k] := by simp [List.getD_eq_getElem?_getD, show k < (w.allL i).length from h]
    refine ⟨dd1_nd h1, fun b => ?_⟩
    rw [dd1_mem, h2, List.take_succ_eq_append_getElem h, e]
    simp only [List.mem_append, List.mem_singleton]
    constructor
    · rintro (⟨n, hn, e⟩ | rfl)
      · exact ⟨n, .inl hn, e⟩
      · exact ⟨_, .inr rfl, rfl⟩
    · rintro ⟨n, hn | rfl, e⟩
      · exact .inl ⟨n, hn, e⟩
      · exact .inr e.symm
theorem own_ok {w : Shop} {m i : Int} : (w.own m i).Nodup ∧ ∀ b, b ∈ w.own m i ↔ ∃ n, w.can i n = true ∧ w.cov i n m (w.slots m).length = b := by
  obtain ⟨h1, h2⟩ := ownK_ok (w := w) (m := m) (i := i) (Nat.le_refl _)
  refine ⟨h1, fun b => ?_⟩
  unfold Shop.own
  rw [h2, List.take_length]
  exact ⟨fun ⟨n, hn, e⟩ => ⟨n, mem_allL.1 hn, e⟩, fun ⟨n, hn, e⟩ => ⟨n, mem_allL.2 hn, e⟩⟩
theorem ownK_len {w : Shop} (hk : Ok w) {m i : Int} (hm : w.isMk m = true) {k : Nat} (h : k ≤ (w.allL i).length) : (w.ownK m i k).length ≤ 16 := by
  obtain ⟨h1, h2⟩ := ownK_ok (w := w) (m := m) (i := i) h
  have hp : 2 ^ (w.slots m).length ≤ 16 := Nat.pow_le_pow_right (by omega) (hk.slots hm)
  refine nodup_len 16 _ h1 fun b hb => ?_
  obtain ⟨n, _, e⟩ := (h2 b).1 hb
  have := cov_lt w i n m (w.slots m).length
  omega
theorem p130 (w : Shop) (hk : Ok w) (i n m : Int) (hi : w.isSp i = true) (hm : w.isMk m = true) : FnA Try.prog 130 [.agg w.cells, .int .i64 i, .int .i64 n, .int .i64 m] (· = .int .i64 (w.cov i n m (w.slots m).length : Nat)) := by
  have h2 := isMk_iff.1 hm
  have hm6 := hk.m1
  have h4 := hk.slots hm
  have l2 : (w.mks.map mkAV).length = w.mks.length := by simp
  have l3 : ((w.slots m).map Slot.av).length = (w.slots m).length := by simp
  have g2 := mkget hm
  have hconv : ∀ k : Nat, k < 4 → IntKind.u64.wrap ((k : Nat) : Int) = ((k : Nat) : Int) := by decide
  have hpow : ∀ k : Nat, k < 4 → IntKind.i64.wrap (1 * 2 ^ min ((k : Nat) : Int).toNat IntKind.i64.bits) = ((2 ^ k : Nat) : Int) := by decide
  refine fnA 1 ok130 (by simp) ?_
  (conv => whnf); (repeat' ((first | refine bT ?_ | refine bF ?_ | refine bN ?_ | ((first | refine bD ?_ ?_ | refine bEq ?_ ?_ | refine bNe ?_ ?_) <;> intro hh <;> try (exfalso; omega)) | refine wIn (by omega) ?_ | refine nI (by omega) ?_) <;> conv => whnf))
  refine loop_i (α := Nat) (fun k => [(10, .int .i64 k), (9, .int .i64 (w.cov i n m k : Nat)), (4, .own 0 0), (3, .int .i64 m), (2, .int .i64 n), (1, .int .i64 i)]) (fun k => [.box false w.cells]) (fun k => k ≤ (w.slots m).length) (fun k => (w.slots m).length - k) 0 (meets_id (by (repeat' apply And.intro) <;> first | rfl | exact True.intro | (intro hh; cases hh))) (by omega) ?_
  intro k hk0
  conv => whnf
  refine iaI (by omega) (by omega) g2 ?_
  conv => whnf
  refine bD (fun h3 => ?_) (fun h3 => ?_)
  · have hkl : k < (w.slots m).length := by omega
    have hsl : w.isSl m (k : Nat) = true := isSl_iff.2 ⟨hm, by omega, by omega⟩
    have e1 := p46 w hk i n m (k : Nat) hi hsl
    have hlt := cov_lt w i n m k
    have hpk : 2 ^ k ≤ 16 := Nat.pow_le_pow_right (by omega) (show k ≤ 4 by omega)
    cases hx : w.fit i n m (k : Nat) with
    | true =>
      rw [hx] at e1
      have hor : bitI .or .i64 ((w.cov i n m k : Nat) : Int) (IntKind.i64.wrap (1 * 2 ^ min ((k : Nat) : Int).toNat IntKind.i64.bits)) = ((w.cov i n m (k + 1) : Nat) : Int) := by
        rw [hpow k (by omega), or_nat .i64 (.inr rfl) _ _ (by omega) (by omega), or_pow hlt]
        simp only [Shop.cov, hx, if_true]
      (conv => whnf); (repeat' ((first | refine bT ?_ | refine bF ?_ | refine bN ?_ | ((first | refine bD ?_ ?_ | refine bEq ?_ ?_ | refine bNe ?_ ?_) <;> intro hh <;> try (exfalso; omega)) | (refine (e1).callq rfl rfl fun _ h => ?_; subst h) | (refine wrEq (hconv k (by omega)) ?_) | refine wIn (by omega) ?_ | refine nI (by omega) ?_) <;> conv => whnf))
      refine ⟨k + 1, ?_, by omega, by omega⟩
      rw [← hor]; exact (meets_id (by (repeat' apply And.intro) <;> first | rfl | exact True.intro | (intro hh; cases hh)))
    | false =>
      rw [hx] at e1
      have hor : w.cov i n m (k + 1) = w.cov i n m k := by simp only [Shop.cov, hx]; simp
      (conv => whnf); (repeat' ((first | refine bT ?_ | refine bF ?_ | refine bN ?_ | ((first | refine bD ?_ ?_ | refine bEq ?_ ?_ | refine bNe ?_ ?_) <;> intro hh <;> try (exfalso; omega)) | (refine (e1).callq rfl rfl fun _ h => ?_; subst h) | refine wIn (by omega) ?_ | refine nI (by omega) ?_) <;> conv => whnf))
      refine ⟨k + 1, ?_, by omega, by omega⟩
      rw [hor]; exact (meets_id (by (repeat' apply And.intro) <;> first | rfl | exact True.intro | (intro hh; cases hh)))
  · have : k = (w.slots m).length := by omega
    subst this
    (conv => whnf); (repeat' ((first | refine bT ?_ | refine bF ?_ | refine bN ?_ | ((first | refine bD ?_ ?_ | refine bEq ?_ ?_ | refine bNe ?_ ?_) <;> intro hh <;> try (exfalso; omega)) | refine wIn (by omega) ?_ | refine nI (by omega) ?_) <;> conv => whnf))
    all_goals rfl
def Shop.casK (w : Shop) (m : Int) (k : Nat) : List (List Int) := (List.range k).map fun i => iN (w.own m (i : Nat))
def Shop.cas (w : Shop) (m : Int) : List (List Int) := w.casK m w.sps.length
theorem p82 (w : Shop) (hk : Ok w) (m : Int) (hm : w.isMk m = true) : FnA Try.prog 82 [.agg w.cells, .int .i64 m] (· = .isl ((w.cas m).map fAV)) := by
  have hs1 := hk.s1
  have l1 : (w.sps.map Spare.av).length = w.sps.length := by simp
  refine fnA 8 ok82 (by simp) ?_
  (conv => whnf); (repeat' ((first | refine bT ?_ | refine bF ?_ | refine bN ?_ | ((first | refine bD ?_ ?_ | refine bEq ?_ ?_ | refine bNe ?_ ?_) <;> intro hh <;> try (exfalso; omega)) | refine wIn (by omega) ?_ | refine nI (by omega) ?_) <;> conv => whnf))
  refine loop_i (α := Nat) (fun k => [(6, .int .i64 k), (5, .row 6), (2, .own 0 0), (1, .int .i64 m)]) (fun k => [.box false w.cells, .fresh, .fresh, .fresh, .fresh, .fresh, .row false 42 1 ((w.casK m k).map fAV), .fresh]) (fun k => k ≤ w.sps.length) (fun k => w.sps.length - k) 0 (meets_as [(6, none)] (by (repeat' apply And.intro) <;> first | rfl | exact True.intro | (intro hh; cases hh))) (by omega) ?_
  intro i hi0
  conv => whnf
  refine bD (fun h3 => ?_) (fun h3 => ?_)
  · have hil : i < w.sps.length := by omega
    have hi : w.isSp (i : Nat) = true := isSp_iff.2 (by omega)
    have e1 := p72 w hk i hi
    have hal := allL_len hk hi
    have l2 : ((w.allL (i : Nat)).map jAV).length = (w.allL (i : Nat)).length := by simp
    have lc : ((w.casK m i).map fAV).length = i := by simp [Shop.casK]
    have hsuc : (w.casK m (i + 1)).map fAV = (w.casK m i).map fAV ++ [fAV (iN (w.own m (i : Nat)))] := by
      unfold Shop.casK; rw [List.range_succ, List.map_append, List.map_append]; rfl
    (conv => whnf); (repeat' ((first | refine bT ?_ | refine bF ?_ | refine bN ?_ | ((first | refine bD ?_ ?_ | refine bEq ?_ ?_ | refine bNe ?_ ?_) <;> intro hh <;> try (exfalso; omega)) | (refine (e1).callzq rfl rfl fun _ h => ?_; subst h) | refine wIn (by omega) ?_ | refine nI (by omega) ?_) <;> conv => whnf))
    refine loop_i (α := Nat) (fun k => [(9, .int .i64 k), (8, .row 7), (7, .isl ((w.allL (i : Nat)).map jAV)), (6, .int .i64 i), (5, .row 6), (2, .own 0 0), (1, .int .i64 m)]) (fun k => [.box false w.cells, .fresh, .fresh, .fresh, .fresh, .fresh, .row false 42 1 ((w.casK m i).map fAV), .row false 3 1 ((iN (w.ownK m (i : Nat) k)).map jAV)]) (fun k => k ≤ (w.allL (i : Nat)).length) (fun k => (w.allL (i : Nat)).length - k) 0 (meets_as [(7, none)] (by (repeat' apply And.intro) <;> first | rfl | exact True.intro | (intro hh; cases hh))) (by omega) ?_
    intro k hk0
    conv => whnf
    refine bD (fun h4 => ?_) (fun h4 => ?_)
    · have hkl : k < (w.allL (i : Nat)).length := by omega
      have gk := jget hkl
      have e2 := p130 w hk i ((w.allL (i : Nat)).getD k 0) m hi hm
      have hol := ownK_len hk (i := i) hm (k := k) (by omega)
      have hil2 : (iN (w.ownK m (i : Nat) k)).length = (w.ownK m (i : Nat) k).length := by simp [iN]
      have e3 := p51 (iN (w.ownK m (i : Nat) k)) ((w.cov i ((w.allL (i : Nat)).getD k 0) m (w.slots m).length : Nat) : Int) (by omega)
      have hos := ownK_succ (w := w) (m := m) hkl
      by_cases hx : w.cov i ((w.allL (i : Nat)).getD k 0) m (w.slots m).length ∈ w.ownK m (i : Nat) k
      · rw [decide_eq_true (mem_iN.2 hx)] at e3
        have : dd1 (w.ownK m (i : Nat) k) (w.cov i ((w.allL (i : Nat)).getD k 0) m (w.slots m).length) = w.ownK m (i : Nat) k := by unfold dd1; rw [if_pos hx]
        rw [this] at hos
        (conv => whnf); (repeat' ((first | refine bT ?_ | refine bF ?_ | refine bN ?_ | ((first | refine bD ?_ ?_ | refine bEq ?_ ?_ | refine bNe ?_ ?_) <;> intro hh <;> try (exfalso; omega)) | (refine iaI (by omega) (by omega) gk ?_) | (refine (e2).callq rfl rfl fun _ h => ?_; subst h) | (refine (e3).lendq rfl fun _ h => ?_; subst h; refine ⟨rfl, ?_⟩) | refine wIn (by omega) ?_ | refine nI (by omega) ?_) <;> conv => whnf))
        refine ⟨k + 1, ?_, by omega, by omega⟩
        rw [hos]; exact (meets_id (by (repeat' apply And.intro) <;> first | rfl | exact True.intro | (intro hh; cases hh)))
      · rw [decide_eq_false (fun h => hx (mem_iN.1 h))] at e3
        have : (iN (dd1 (w.ownK m (i : Nat) k) (w.cov i ((w.allL (i : Nat)).getD k 0) m (w.slots m).length))).map jAV = (iN (w.ownK m (i : Nat) k)).map jAV ++ [[.int .i64 (w.cov i ((w.allL (i : Nat)).getD k 0) m (w.slots m).length : Nat)]] := by unfold dd1 iN; rw [if_neg hx, List.map_append, List.map_append]; rfl
        rw [← hos] at this
        (conv => whnf); (repeat' ((first | refine bT ?_ | refine bF ?_ | refine bN ?_ | ((first | refine bD ?_ ?_ | refine bEq ?_ ?_ | refine bNe ?_ ?_) <;> intro hh <;> try (exfalso; omega)) | (refine iaI (by omega) (by omega) gk ?_) | (refine (e2).callq rfl rfl fun _ h => ?_; subst h) | (refine (e3).lendq rfl fun _ h => ?_; subst h; refine ⟨rfl, ?_⟩) | (refine apI (by simp [AV.one]) (by simp only [List.length_map, hil2]; simp; omega) ?_) | refine wIn (by omega) ?_ | refine nI (by omega) ?_) <;> conv => whnf))
        refine ⟨k + 1, ?_, by omega, by omega⟩
        rw [this]; exact (meets_as [(7, some 3)] (by (repeat' apply And.intro) <;> first | rfl | exact True.intro | (intro hh; cases hh)))
    · have : k = (w.allL (i : Nat)).length := by omega
      subst this
      (conv => whnf); (repeat' ((first | refine bT ?_ | refine bF ?_ | refine bN ?_ | ((first | refine bD ?_ ?_ | refine bEq ?_ ?_ | refine bNe ?_ ?_) <;> intro hh <;> try (exfalso; omega)) | (refine apI (by simp [AV.one]) (by simp only [lc]; simp; omega) ?_) | refine wIn (by omega) ?_ | refine nI (by omega) ?_) <;> conv => whnf))
      refine ⟨i + 1, ?_, by omega, by omega⟩
      rw [hsuc]; exact (meets_as [(6, some 5)] (by (repeat' apply And.intro) <;> first | rfl | exact True.intro | (intro hh; cases hh)))
  · have : i = w.sps.length := by omega
    subst this
    (conv => whnf); (repeat' ((first | refine bT ?_ | refine bF ?_ | refine bN ?_ | ((first | refine bD ?_ ?_ | refine bEq ?_ ?_ | refine bNe ?_ ?_) <;> intro hh <;> try (exfalso; omega)) | refine wIn (by omega) ?_ | refine nI (by omega) ?_) <;> conv => whnf))
    all_goals rfl
set_option maxHeartbeats 1000000
def nx1 (can : List Nat) (f : Nat) (acc : List Nat) : List Nat := can.foldl (fun acc s => dd1 acc (s ||| f)) acc
def nxt (can own : List Nat) : List Nat := own.foldl (fun acc f => nx1 can f acc) []
theorem nx1_ok {can : List Nat} {f : Nat} : ∀ {k : Nat}, k ≤ can.length → ∀ {acc : List Nat}, acc.Nodup → (nx1 (can.take k) f acc).Nodup ∧ ∀ b, b ∈ nx1 (can.take k) f acc ↔ b ∈ acc ∨ ∃ s ∈ can.take k, b = s ||| f
  | 0, _, acc, h => by simp [nx1, h]
  | k + 1, hk, acc, h => by
    obtain ⟨h1, h2⟩ := nx1_ok (can := can) (f := f) (k := k) (by omega) h
    have e : nx1 (can.take (k + 1)) f acc = dd1 (nx1 (can.take k) f acc) (can[k] ||| f) := by
      unfold nx1; rw [List.take_succ_eq_append_getElem hk, List.foldl_append]; rfl
    rw [e]
    refine ⟨dd1_nd h1, fun b => ?_⟩
    rw [dd1_mem, h2, List.take_succ_eq_append_getElem hk]
    simp only [List.mem_append, List.mem_singleton]
    constructor
    · rintro ((h | ⟨s, hs, e⟩) | e)
      · exact .inl h
      · exact .inr ⟨s, .inl hs, e⟩
      · exact .inr ⟨_, .inr rfl, e⟩
    · rintro (h | ⟨s, hs | rfl, e⟩)
      · exact .inl (.inl h)
      · exact .inl (.inr ⟨s, hs, e⟩)
      · exact .inr e
theorem nxt_ok {can own : List Nat} : ∀ {k : Nat}, k ≤ own.length → (nxt can (own.take k)).Nodup ∧ ∀ b, b ∈ nxt can (own.take k) ↔ ∃ f ∈ own.take k, ∃ s ∈ can, b = s ||| f
  | 0, _ => by simp [nxt]
  | k + 1, hk => by
    obtain ⟨h1, h2⟩ := nxt_ok (can := can) (own := own) (k := k) (by omega)
    have e : nxt can (own.take (k + 1)) = nx1 can own[k] (nxt can (own.take k)) := by
      unfold nxt; rw [List.take_succ_eq_append_getElem hk, List.foldl_append]; rfl
    have h3 := nx1_ok (can := can) (f := own[k]) (k := can.length) (Nat.le_refl _) h1
    rw [List.take_length] at h3
    rw [e]
    refine ⟨h3.1, fun b => ?_⟩
    rw [h3.2, h2, List.take_succ_eq_append_getElem hk]
    simp only [List.mem_append, List.mem_singleton]
    constructor
    · rintro (⟨f, hf, s, hs, e⟩ | ⟨s, hs, e⟩)
      · exact ⟨f, .inl hf, s, hs, e⟩
      · exact ⟨_, .inr rfl, s, hs, e⟩
    · rintro ⟨f, hf | rfl, s, hs, e⟩
      · exact .inl ⟨f, hf, s, hs, e⟩
      · exact .inr ⟨s, hs, e⟩
theorem nx1_0 (can : List Nat) (f : Nat) (acc : List Nat) : nx1 (can.take 0) f acc = acc := rfl
theorem nxt_0A (can own : List Nat) : (iN (nxt can (own.take 0))).map jAV = [] := rfl
theorem nxt_succ {can own : List Nat} {a : Nat} (ha : a < own.length) : nxt can (own.take (a + 1)) = nx1 can (own.getD a 0) (nxt can (own.take a)) := by
  have e : own.getD a 0 = own[a] := by simp [List.getD_eq_getElem?_getD, ha]
  unfold nxt; rw [e, List.take_succ_eq_append_getElem ha, List.foldl_append]; rfl
theorem nx1_succ {can acc : List Nat} {f j : Nat} (hj : j < can.length) : nx1 (can.take (j + 1)) f acc = dd1 (nx1 (can.take j) f acc) (can.getD j 0 ||| f) := by
  have e : can.getD j 0 = can[j] := by simp [List.getD_eq_getElem?_getD, hj]
  unfold nx1; rw [e, List.take_succ_eq_append_getElem hj, List.foldl_append]; rfl
def Shop.canR (w : Shop) (m : Int) (l : List Int) : Nat → List Nat
  | 0 => [0]
  | k + 1 => nxt (w.canR m l k) (w.own m (l.getD k 0))
theorem canR_succ (w : Shop) (m : Int) (l : List Int) (k : Nat) : w.canR m l (k + 1) = nxt (w.canR m l k) (w.own m (l.getD k 0)) := rfl
theorem canR_0 (w : Shop) (m : Int) (l : List Int) : (iN (w.canR m l 0)).map jAV = [[.int .i64 0]] := rfl
theorem iN_len (l : List Nat) : (iN l).length = l.length := by simp [iN]
theorem iN_lenA (l : List Nat) : ((iN l).map jAV).length = l.length := by simp [iN]
theorem iN_dd {acc : List Nat} {b : Nat} (h : b ∉ acc) : (iN (dd1 acc b)).map jAV = (iN acc).map jAV ++ [[.int .i64 (b : Nat)]] := by
  unfold dd1 iN; rw [if_neg h, List.map_append, List.map_append]; rfl
theorem dd_in {acc : List Nat} {b : Nat} (h : b ∈ acc) : dd1 acc b = acc := by unfold dd1; rw [if_pos h]
theorem canR_ok {w : Shop} {m : Int} {l : List Int} : ∀ k, (w.canR m l k).Nodup ∧ ∀ b, b ∈ w.canR m l k ↔ w.rch m (w.slots m).length l k b
  | 0 => by simp [Shop.canR, Shop.rch]
  | k + 1 => by
    obtain ⟨h1, h2⟩ := canR_ok (w := w) (m := m) (l := l) k
    have h3 := nxt_ok (can := w.canR m l k) (own := w.own m (l.getD k 0)) (k := (w.own m (l.getD k 0)).length) (Nat.le_refl _)
    rw [List.take_length] at h3
    refine ⟨h3.1, fun b => ?_⟩
    show b ∈ nxt _ _ ↔ _
    rw [h3.2]
    simp only [Shop.rch]
    constructor
    · rintro ⟨f, hf, s, hs, e⟩
      obtain ⟨n, hn, e2⟩ := own_ok.2 f |>.1 hf
      exact ⟨s, n, (h2 s).1 hs, hn, by rw [e2]; exact e⟩
    · rintro ⟨s, n, hs, hn, e⟩
      exact ⟨_, (own_ok.2 _).2 ⟨n, hn, rfl⟩, s, (h2 s).2 hs, e⟩
theorem rng_len {w : Shop} (hk : Ok w) {m : Int} (hm : w.isMk m = true) {l : List Nat} (h1 : l.Nodup) (h2 : ∀ b ∈ l, b < 2 ^ (w.slots m).length) : l.length ≤ 16 := by
  have hp : 2 ^ (w.slots m).length ≤ 16 := Nat.pow_le_pow_right (by omega) (hk.slots hm)
  exact nodup_len 16 _ h1 fun b hb => by have := h2 b hb; omega
theorem iget {l : List Nat} {j : Nat} (h : j < l.length) : ((iN l).map jAV).getD j [] = [.int .i64 ((l.getD j 0 : Nat) : Int)] := by
  have h' : j < (iN l).length := by simpa [iN] using h
  rw [jget h']
  congr 2
  unfold iN; simp [List.getD_eq_getElem?_getD, h]
theorem cntN_succ {l : List Nat} {j b : Nat} (h : j < l.length) : (l.take (j + 1)).count b = (l.take j).count b + if l.getD j 0 = b then 1 else 0 := by
  have e : l.getD j 0 = l[j] := by simp [List.getD_eq_getElem?_getD, h]
  rw [e, List.take_succ_eq_append_getElem h, List.count_append]
  congr 1
  by_cases hb : l[j] = b <;> simp [hb]
attribute [local irreducible] nx1 nxt dd1 Shop.canR iN in
theorem p81 (w : Shop) (hk : Ok w) (l : List Int) (m : Int) (hl : l.length ≤ 1000000) (hsp : ∀ x ∈ l, w.isSp x = true) (hm : w.isMk m = true) (hc : ∀ x, w.isSp x = true → ∃ n, w.can x n = true) : FnA Try.prog 81 [.agg w.cells, .isl ((w.cas m).map fAV), .isl (l.map jAV), .int .i64 m] (· = .int .i64 (w.mendsV l m)) := by
  have l1 : (l.map jAV).length = l.length := by simp
  have lc : ((w.cas m).map fAV).length = w.sps.length := by simp [Shop.cas, Shop.casK]
  have h2 := isMk_iff.1 hm
  have hm6 := hk.m1
  have h4 := hk.slots hm
  have l2 : (w.mks.map mkAV).length = w.mks.length := by simp
  have l3 : ((w.slots m).map Slot.av).length = (w.slots m).length := by simp
  have g2 := mkget hm
  have hp4 : 2 ^ (w.slots m).length ≤ 16 := Nat.pow_le_pow_right (by omega) h4
  have hR : ∀ k, (w.canR m l k).length ≤ 16 ∧ ∀ b ∈ w.canR m l k, b < 2 ^ (w.slots m).length := fun k => by
    obtain ⟨a, b⟩ := canR_ok (w := w) (m := m) (l := l) k
    have hb : ∀ x ∈ w.canR m l k, x < 2 ^ (w.slots m).length := fun x hx => rch_lt ((b x).1 hx)
    exact ⟨rng_len hk hm a hb, hb⟩
  refine fnA 6 ok81 (by simp) ?_
  (conv => whnf); (repeat' ((first | refine bT ?_ | refine bF ?_ | refine bN ?_ | ((first | refine bD ?_ ?_ | refine bEq ?_ ?_ | refine bNe ?_ ?_) <;> intro hh <;> try (exfalso; omega)) | refine wIn (by omega) ?_ | refine nI (by omega) ?_) <;> conv => whnf))
  refine loop_i (α := Nat) (fun k => [(10, .int .i64 k), (9, .row 4), (4, .own 0 0), (3, .int .i64 m), (2, .isl (l.map jAV)), (1, .isl ((w.cas m).map fAV))]) (fun k => [.box false w.cells, .fresh, .fresh, .fresh, .row false 3 1 ((iN (w.canR m l k)).map jAV), .fresh]) (fun k => k ≤ l.length) (fun k => l.length - k) 0 ?_ (by omega) ?_
  · rw [canR_0]; exact (meets_as [(4, some 1)] (by (repeat' apply And.intro) <;> first | rfl | exact True.intro | (intro hh; cases hh)))
  intro k hk0
  obtain ⟨hR1, hR2⟩ := hR k
  have hRnd := (canR_ok (w := w) (m := m) (l := l) k).1
  have lcan := iN_lenA (w.canR m l k)
  conv => whnf
  refine bD (fun h3 => ?_) (fun h3 => ?_)
  · have hkl : k < l.length := by omega
    have gk := jget hkl
    have hix := hsp _ (getD_memI hkl)
    have hix' := isSp_iff.1 hix
    have gc : ((w.cas m).map fAV).getD (l.getD k 0).toNat [] = fAV (iN (w.own m (l.getD k 0))) := by
      have hcl : (w.cas m).length = w.sps.length := by simp [Shop.cas, Shop.casK]
      have hlt : (l.getD k 0).toNat < (w.cas m).length := by rw [hcl]; omega
      rw [getM fAV _ _ hlt]
      congr 1
      simp only [Shop.cas, Shop.casK, List.getElem_map, List.getElem_range]
      congr 2; omega
    obtain ⟨ho1, ho2⟩ := own_ok (w := w) (m := m) (i := l.getD k 0)
    have ho3 : ∀ b ∈ w.own m (l.getD k 0), b < 2 ^ (w.slots m).length := fun b hb => by
      obtain ⟨n, _, e⟩ := (ho2 b).1 hb
      rw [← e]; exact cov_lt _ _ _ _ _
    have ho4 := rng_len hk hm ho1 ho3
    have lo := iN_lenA (w.own m (l.getD k 0))
    have hstep := canR_succ w m l k
    generalize w.own m (l.getD k 0) = own at *
    generalize w.canR m l k = can at *
    (conv => whnf); (repeat' ((first | refine bT ?_ | refine bF ?_ | refine bN ?_ | ((first | refine bD ?_ ?_ | refine bEq ?_ ?_ | refine bNe ?_ ?_) <;> intro hh <;> try (exfalso; omega)) | (refine iaI (by omega) (by omega) gk ?_) | (refine iaI (by omega) (by omega) gc ?_) | refine wIn (by omega) ?_ | refine nI (by omega) ?_) <;> conv => whnf))
    refine loop_i (α := Nat) (fun a => [(13, .int .i64 a), (12, .row 5), (11, .isl ((iN own).map jAV)), (10, .int .i64 k), (9, .row 4), (4, .own 0 0), (3, .int .i64 m), (2, .isl (l.map jAV)), (1, .isl ((w.cas m).map fAV))]) (fun a => [.box false w.cells, .fresh, .fresh, .fresh, .row false 3 1 ((iN can).map jAV), .row false 3 1 ((iN (nxt can (own.take a))).map jAV)]) (fun a => a ≤ own.length) (fun a => own.length - a) 0 ?_ (Nat.zero_le _) ?_
    · rw [nxt_0A]; exact (meets_as [(5, none)] (by (repeat' apply And.intro) <;> first | rfl | exact True.intro | (intro hh; cases hh)))
    intro a ha0
    obtain ⟨hn1, hn2⟩ := nxt_ok (can := can) (own := own) ha0
    conv => whnf
    refine bD (fun h5 => ?_) (fun h5 => ?_)
    · have ha : a < own.length := by omega
      have ga := iget ha
      have hfm : own.getD a 0 ∈ own := by rw [List.getD_eq_getElem?_getD, List.getElem?_eq_getElem ha]; exact List.getElem_mem ha
      have hfl := ho3 _ hfm
      have hnst := nxt_succ (can := can) ha
      have hacc : ∀ b ∈ nxt can (own.take a), b < 2 ^ (w.slots m).length := fun b hb => by
        obtain ⟨f, hf, s, hs, e⟩ := (hn2 b).1 hb
        rw [e]; exact Nat.or_lt_two_pow (hR2 s hs) (ho3 f (List.mem_of_mem_take hf))
      generalize nxt can (own.take a) = acc at *
      generalize own.getD a 0 = f at *
      (conv => whnf); (repeat' ((first | refine bT ?_ | refine bF ?_ | refine bN ?_ | ((first | refine bD ?_ ?_ | refine bEq ?_ ?_ | refine bNe ?_ ?_) <;> intro hh <;> try (exfalso; omega)) | refine wIn (by omega) ?_ | refine nI (by omega) ?_) <;> conv => whnf))
      refine loop_i (α := Nat) (fun j => [(14, .int .i64 j), (13, .int .i64 a), (12, .row 5), (11, .isl ((iN own).map jAV)), (10, .int .i64 k), (9, .row 4), (4, .own 0 0), (3, .int .i64 m), (2, .isl (l.map jAV)), (1, .isl ((w.cas m).map fAV))]) (fun j => [.box false w.cells, .fresh, .fresh, .fresh, .row false 3 1 ((iN can).map jAV), .row false 3 1 ((iN (nx1 (can.take j) f acc)).map jAV)]) (fun j => j ≤ can.length) (fun j => can.length - j) 0 ?_ (Nat.zero_le _) ?_
      · rw [nx1_0]; exact (meets_id (by (repeat' apply And.intro) <;> first | rfl | exact True.intro | (intro hh; cases hh)))
      intro j hj0
      have hx0 := nx1_ok (can := can) (f := f) (k := j) hj0 (acc := acc) hn1
      have hx1 := hx0.1
      have hx2 := hx0.2
      clear hx0
      have hx3 : ∀ b ∈ nx1 (can.take j) f acc, b < 2 ^ (w.slots m).length := fun b hb => by
        rcases (hx2 b).1 hb with q | ⟨s, hs, e⟩
        · exact hacc b q
        · rw [e]; exact Nat.or_lt_two_pow (hR2 s (List.mem_of_mem_take hs)) hfl
      have hx4 := rng_len hk hm hx1 hx3
      conv => whnf
      refine bD (fun h6 => ?_) (fun h6 => ?_)
      · have hj : j < can.length := by omega
        have gj := iget hj
        have hsm : can.getD j 0 ∈ can := by rw [List.getD_eq_getElem?_getD, List.getElem?_eq_getElem hj]; exact List.getElem_mem hj
        have hsl := hR2 _ hsm
        have hxs := nx1_succ (acc := acc) (f := f) hj
        have hor : bitI .or .i64 ((can.getD j 0 : Nat) : Int) ((f : Nat) : Int) = ((can.getD j 0 ||| f : Nat) : Int) := or_nat .i64 (.inr rfl) _ _ (by omega) (by omega)
        have lx := iN_len (nx1 (can.take j) f acc)
        have e3 := p51 (iN (nx1 (can.take j) f acc)) (bitI .or .i64 ((can.getD j 0 : Nat) : Int) ((f : Nat) : Int)) (by omega)
        by_cases hx : can.getD j 0 ||| f ∈ nx1 (can.take j) f acc
        · rw [decide_eq_true (by rw [hor]; exact mem_iN.2 hx)] at e3
          rw [dd_in hx] at hxs
          (conv => whnf); (repeat' ((first | refine bT ?_ | refine bF ?_ | refine bN ?_ | ((first | refine bD ?_ ?_ | refine bEq ?_ ?_ | refine bNe ?_ ?_) <;> intro hh <;> try (exfalso; omega)) | (refine iaI (by omega) (by omega) gj ?_) | (refine iaI (by omega) (by omega) ga ?_) | (refine (e3).lendq rfl fun _ h => ?_; subst h; refine ⟨rfl, ?_⟩) | refine wIn (by omega) ?_ | refine nI (by omega) ?_) <;> conv => whnf))
          refine ⟨j + 1, ?_, by omega, by omega⟩
          rw [hxs]; exact (meets_id (by (repeat' apply And.intro) <;> first | rfl | exact True.intro | (intro hh; cases hh)))
        · rw [decide_eq_false (by rw [hor]; exact fun h => hx (mem_iN.1 h))] at e3
          have this := iN_dd hx
          rw [← hxs, ← hor] at this
          (conv => whnf); (repeat' ((first | refine bT ?_ | refine bF ?_ | refine bN ?_ | ((first | refine bD ?_ ?_ | refine bEq ?_ ?_ | refine bNe ?_ ?_) <;> intro hh <;> try (exfalso; omega)) | (refine iaI (by omega) (by omega) gj ?_) | (refine iaI (by omega) (by omega) ga ?_) | (refine (e3).lendq rfl fun _ h => ?_; subst h; refine ⟨rfl, ?_⟩) | (refine apI (by simp [AV.one]) (by simp only [List.length_map, lx]; simp; omega) ?_) | refine wIn (by omega) ?_ | refine nI (by omega) ?_) <;> conv => whnf))
          refine ⟨j + 1, ?_, by omega, by omega⟩
          rw [this]; exact (meets_as [(5, some 3)] (by (repeat' apply And.intro) <;> first | rfl | exact True.intro | (intro hh; cases hh)))
      · have hje : j = can.length := by omega
        have e : nx1 (can.take j) f acc = nx1 can f acc := by rw [hje, List.take_length]
        (conv => whnf); (repeat' ((first | refine bT ?_ | refine bF ?_ | refine bN ?_ | ((first | refine bD ?_ ?_ | refine bEq ?_ ?_ | refine bNe ?_ ?_) <;> intro hh <;> try (exfalso; omega)) | refine wIn (by omega) ?_ | refine nI (by omega) ?_) <;> conv => whnf))
        refine ⟨a + 1, ?_, by omega, by omega⟩
        rw [hnst, ← e]; exact (meets_id (by (repeat' apply And.intro) <;> first | rfl | exact True.intro | (intro hh; cases hh)))
    · have hae : a = own.length := by omega
      have e : nxt can (own.take a) = nxt can own := by rw [hae, List.take_length]
      (conv => whnf); (repeat' ((first | refine bT ?_ | refine bF ?_ | refine bN ?_ | ((first | refine bD ?_ ?_ | refine bEq ?_ ?_ | refine bNe ?_ ?_) <;> intro hh <;> try (exfalso; omega)) | refine wIn (by omega) ?_ | refine nI (by omega) ?_) <;> conv => whnf))
      refine ⟨k + 1, ?_, by omega, by omega⟩
      rw [hstep, ← e]; exact (meets_as [(4, some 5)] (by (repeat' apply And.intro) <;> first | rfl | exact True.intro | (intro hh; cases hh)))
  · have : k = l.length := by omega
    subst this
    have hconv : ∀ K : Nat, K ≤ 4 → IntKind.u64.wrap ((K : Nat) : Int) = ((K : Nat) : Int) := by decide
    have hfull : ∀ K : Nat, K ≤ 4 → IntKind.i64.wrap (1 * 2 ^ min ((K : Nat) : Int).toNat IntKind.i64.bits) - 1 = ((2 ^ K - 1 : Nat) : Int) := by decide
    have hconv := hconv _ h4
    have hfull := hfull _ h4
    rw [← l3] at hconv hfull
    have hiff := (canR_ok (w := w) (m := m) (l := l) l.length).2
    have hne : (w.canR m l l.length).length ≠ 0 := fun h0 => by
      have hr : ∃ b, w.rch m (w.slots m).length l l.length b := ⟨_, orN_rch (T := fun x => if h : w.isSp x = true then (hc x h).choose else 0) (Nat.le_refl _) (fun x hx => by
        have hx' := hsp x hx
        simp only [hx', dif_pos]; exact (hc x hx').choose_spec)⟩
      obtain ⟨b, hb⟩ := hr
      have := (hiff b).2 hb
      rw [List.eq_nil_of_length_eq_zero h0] at this; cases this
    have hval : w.mendsV l m = if ((((w.canR m l l.length).count (2 ^ (w.slots m).length - 1) : Nat)) : Int) = ↑((iN (w.canR m l l.length)).map jAV).length then 1 else if ((((w.canR m l l.length).count (2 ^ (w.slots m).length - 1) : Nat)) : Int) = 0 then 2 else 3 := by
      rw [lcan]
      unfold Shop.mendsV
      by_cases hf : w.rch m (w.slots m).length l l.length (2 ^ (w.slots m).length - 1)
      · have hmem := (hiff _).2 hf
        have hcnt : (w.canR m l l.length).count (2 ^ (w.slots m).length - 1) = 1 := by
          have := hRnd.count (a := 2 ^ (w.slots m).length - 1)
          rw [this, if_pos hmem]
        rw [if_neg (fun h => h hf), hcnt]
        by_cases h1 : (w.canR m l l.length).length = 1
        · have hall : ∀ b, w.rch m (w.slots m).length l l.length b → b = 2 ^ (w.slots m).length - 1 := fun b hb => by
            have a := (hiff b).2 hb
            match hq : w.canR m l l.length, h1 with
            | [e], _ =>
              rw [hq] at a hmem
              simp only [List.mem_singleton] at a hmem
              omega
          rw [if_pos hall, if_pos (by omega)]
        · have hall : ¬ ∀ b, w.rch m (w.slots m).length l l.length b → b = 2 ^ (w.slots m).length - 1 := fun hh => h1 (by
            have hx : ∀ e ∈ w.canR m l l.length, e = 2 ^ (w.slots m).length - 1 := fun e he => hh e ((hiff e).1 he)
            match hq : w.canR m l l.length with
            | [] => rw [hq] at hmem; cases hmem
            | [e] => rfl
            | e :: e' :: r =>
              rw [hq] at hx hRnd
              have a := hx e (by simp)
              have b := hx e' (by simp)
              simp only [List.nodup_cons, List.mem_cons, not_or] at hRnd
              exact absurd (a.trans b.symm) hRnd.1.1)
          rw [if_neg hall, if_neg (by omega), if_neg (by omega)]
      · have hcnt : (w.canR m l l.length).count (2 ^ (w.slots m).length - 1) = 0 := List.count_eq_zero.2 fun h => hf ((hiff _).1 h)
        rw [if_pos hf, hcnt, if_neg (by omega), if_pos (by omega)]
    rw [hval]
    generalize w.canR m l l.length = can at *
    (conv => whnf); (repeat' ((first | refine bT ?_ | refine bF ?_ | refine bN ?_ | ((first | refine bD ?_ ?_ | refine bEq ?_ ?_ | refine bNe ?_ ?_) <;> intro hh <;> try (exfalso; omega)) | refine wIn (by omega) ?_ | refine nI (by omega) ?_) <;> conv => whnf))
    refine loop_i (α := Nat) (fun j => [(17, .int .i64 j), (16, .int .i64 ((can.take j).count (2 ^ (w.slots m).length - 1) : Nat)), (9, .row 4), (4, .own 0 0), (3, .int .i64 m)]) (fun j => [.box false w.cells, .fresh, .fresh, .fresh, .row false 3 1 ((iN can).map jAV), .fresh]) (fun j => j ≤ can.length) (fun j => can.length - j) 0 (meets_id (by (repeat' apply And.intro) <;> first | rfl | exact True.intro | (intro hh; cases hh))) (by omega) ?_
    intro j hj0
    have hct := List.count_le_length (a := 2 ^ (w.slots m).length - 1) (l := can.take j)
    rw [List.length_take] at hct
    conv => whnf
    refine bD (fun h6 => ?_) (fun h6 => ?_)
    · have hj : j < can.length := by omega
      have gj := iget hj
      have hsu := cntN_succ (b := 2 ^ (w.slots m).length - 1) hj
      have hw : IntKind.i64.wrap (IntKind.i64.wrap (1 * 2 ^ min (↑((w.slots m).map Slot.av).length : Int).toNat IntKind.i64.bits) - 1) = ((2 ^ (w.slots m).length - 1 : Nat) : Int) := by
        rw [hfull, l3]; exact wrap_nat .i64 (.inr rfl) _ (by omega)
      have hI : IntKind.i64.wrap (1 * 2 ^ min (↑((w.slots m).map Slot.av).length : Int).toNat IntKind.i64.bits) - 1 = ((2 ^ (w.slots m).length - 1 : Nat) : Int) := by rw [hfull, l3]
      have hfb : 2 ^ (w.slots m).length - 1 ≤ 15 := by omega
      generalize 2 ^ (w.slots m).length - 1 = full at *
      by_cases he : can.getD j 0 = full
      · rw [if_pos he] at hsu
        (conv => whnf); (repeat' ((first | refine bT ?_ | refine bF ?_ | refine bN ?_ | ((first | refine bD ?_ ?_ | refine bEq ?_ ?_ | refine bNe ?_ ?_) <;> intro hh <;> try (exfalso; omega)) | (refine iaI (by omega) (by omega) gj ?_) | (refine iaI (by omega) (by omega) g2 ?_) | (refine wrEq hconv ?_) | refine wIn (by omega) ?_ | refine nI (by omega) ?_) <;> conv => whnf))
        refine ⟨j + 1, ?_, by omega, by omega⟩
        rw [hsu]; exact (meets_id (by (repeat' apply And.intro) <;> first | rfl | exact True.intro | (intro hh; cases hh)))
      · rw [if_neg he] at hsu
        (conv => whnf); (repeat' ((first | refine bT ?_ | refine bF ?_ | refine bN ?_ | ((first | refine bD ?_ ?_ | refine bEq ?_ ?_ | refine bNe ?_ ?_) <;> intro hh <;> try (exfalso; omega)) | (refine iaI (by omega) (by omega) gj ?_) | (refine iaI (by omega) (by omega) g2 ?_) | (refine wrEq hconv ?_) | refine wIn (by omega) ?_ | refine nI (by omega) ?_) <;> conv => whnf))
        refine ⟨j + 1, ?_, by omega, by omega⟩
        rw [hsu]; exact (meets_id (by (repeat' apply And.intro) <;> first | rfl | exact True.intro | (intro hh; cases hh)))
    · have hje : j = can.length := by omega
      have e3 := p125 ((can.take j).count (2 ^ (w.slots m).length - 1) : Nat) ↑((iN can).map jAV).length
      (conv => whnf); (repeat' ((first | refine bT ?_ | refine bF ?_ | refine bN ?_ | ((first | refine bD ?_ ?_ | refine bEq ?_ ?_ | refine bNe ?_ ?_) <;> intro hh <;> try (exfalso; omega)) | (refine (e3).callq rfl rfl fun _ h => ?_; subst h) | refine wIn (by omega) ?_ | refine nI (by omega) ?_) <;> conv => whnf))
      all_goals rw [hje, List.take_length]
theorem p79 (w : Shop) (l : List Int) (hs : w.sps.length ≤ 1000000) (hl : l.length ≤ 1000000) : FnA Try.prog 79 [.agg w.cells, .isl (l.map jAV)] (· = .bool (w.isLi l)) := by
  have l1 : (l.map jAV).length = l.length := by simp
  have e2 := p50 l hl
  refine fnA 1 ok79 (by simp) ?_
  (conv => whnf); (repeat' ((first | refine bT ?_ | refine bF ?_ | refine bN ?_ | ((first | refine bD ?_ ?_ | refine bEq ?_ ?_ | refine bNe ?_ ?_) <;> intro hh <;> try (exfalso; omega)) | refine wIn (by omega) ?_ | refine nI (by omega) ?_) <;> conv => whnf))
  refine loop_i (α := Nat) (fun k => [(5, .int .i64 k), (2, .own 0 0), (1, .isl (l.map jAV))]) (fun k => [.box false w.cells]) (fun k => k ≤ l.length ∧ ∀ j, j < k → w.isSp (l.getD j 0) = true) (fun k => l.length - k) 0 (meets_id (by (repeat' apply And.intro) <;> first | rfl | exact True.intro | (intro hh; cases hh))) ⟨by omega, fun i hi => by omega⟩ ?_
  rintro k ⟨hk0, hin⟩
  conv => whnf
  refine bD (fun h4 => ?_) (fun h4 => ?_)
  · have hk : k < l.length := by omega
    have gk := jget hk
    have e1 := p47 w (l.getD k 0) hs
    cases hx : w.isSp (l.getD k 0) with
    | true =>
      rw [hx] at e1
      (conv => whnf); (repeat' ((first | refine bT ?_ | refine bF ?_ | refine bN ?_ | ((first | refine bD ?_ ?_ | refine bEq ?_ ?_ | refine bNe ?_ ?_) <;> intro hh <;> try (exfalso; omega)) | (refine iaI (by omega) (by omega) gk ?_) | (refine (e1).callq rfl rfl fun _ h => ?_; subst h) | refine wIn (by omega) ?_ | refine nI (by omega) ?_) <;> conv => whnf))
      refine ⟨k + 1, (meets_id (by (repeat' apply And.intro) <;> first | rfl | exact True.intro | (intro hh; cases hh))), ⟨by omega, fun i hi => ?_⟩, by omega⟩
      by_cases e : i = k
      · rw [e]; exact hx
      · exact hin i (by omega)
    | false =>
      rw [hx] at e1
      have h0 : w.isLi l = false := by
        unfold Shop.isLi
        rw [Bool.and_eq_false_iff]; right
        rw [List.all_eq_false]
        exact ⟨_, getD_memI hk, by rw [hx]; simp⟩
      rw [h0]
      (conv => whnf); (repeat' ((first | refine bT ?_ | refine bF ?_ | refine bN ?_ | ((first | refine bD ?_ ?_ | refine bEq ?_ ?_ | refine bNe ?_ ?_) <;> intro hh <;> try (exfalso; omega)) | (refine iaI (by omega) (by omega) gk ?_) | (refine (e1).callq rfl rfl fun _ h => ?_; subst h) | refine wIn (by omega) ?_ | refine nI (by omega) ?_) <;> conv => whnf))
      all_goals rfl
  · have hkl : k = l.length := by omega
    have h0 : w.isLi l = ascB l := by
      unfold Shop.isLi
      have : l.all w.isSp = true := by
        rw [List.all_eq_true]; intro x hx
        obtain ⟨j, hj, rfl⟩ := List.getElem_of_mem hx
        have := hin j (by omega)
        have e : l.getD j 0 = l[j] := by simp [List.getD_eq_getElem?_getD, hj]
        rwa [e] at this
      rw [this, Bool.and_true]
    rw [h0]
    (conv => whnf); (repeat' ((first | refine bT ?_ | refine bF ?_ | refine bN ?_ | ((first | refine bD ?_ ?_ | refine bEq ?_ ?_ | refine bNe ?_ ?_) <;> intro hh <;> try (exfalso; omega)) | (refine (e2).callq rfl rfl fun _ h => ?_; subst h) | refine wIn (by omega) ?_ | refine nI (by omega) ?_) <;> conv => whnf))
    all_goals rfl
theorem p25 (w : Shop) (hB : Big w) (l : List Int) (m : Int) (hl : l.length ≤ 1000000) (h : w.eO (w.isLi l && w.isMk m) = 0) : FnA Try.prog 25 [.agg w.cells, .isl (l.map jAV), .int .i64 m] (· = .tup [.int .i64 (w.mendsV l m), .int .i64 0]) := by
  have hv := eO_v h
  rw [Bool.and_eq_true] at hv
  obtain ⟨hi, hm⟩ := hv
  rw [hi, hm] at h
  have hk := chk_ok (chk_0 h)
  have e1 := p79 w l hB.s hl
  have e2 := p80 w m hB.m
  rw [hi] at e1; rw [hm] at e2
  have e3 := p71 w hB true
  have h' : w.eO true = 0 := h
  rw [h'] at e3
  have hsp : ∀ x ∈ l, w.isSp x = true := by
    unfold Shop.isLi at hi
    rw [Bool.and_eq_true] at hi
    exact List.all_eq_true.1 hi.2
  have e4 := p82 w hk m hm
  have e5 := p81 w hk l m hl hsp hm (fun x hx => can_ex h' hx)
  refine fnA 2 ok25 (by simp) ?_
  (conv => whnf); (repeat' ((first | refine bT ?_ | refine bF ?_ | refine bN ?_ | ((first | refine bD ?_ ?_ | refine bEq ?_ ?_ | refine bNe ?_ ?_) <;> intro hh <;> try (exfalso; omega)) | (refine (e1).callq rfl rfl fun _ h => ?_; subst h) | (refine (e2).callq rfl rfl fun _ h => ?_; subst h) | (refine (e3).callq rfl rfl fun _ h => ?_; subst h) | (refine (e4).callzq rfl rfl fun _ h => ?_; subst h) | (refine (e5).callq rfl rfl fun _ h => ?_; subst h) | refine wIn (by omega) ?_ | refine nI (by omega) ?_) <;> conv => whnf))
  all_goals rfl
theorem p25e (w : Shop) (hB : Big w) (l : List Int) (m : Int) (hl : l.length ≤ 1000000) (h : w.eO (w.isLi l && w.isMk m) ≠ 0) : FnA Try.prog 25 [.agg w.cells, .isl (l.map jAV), .int .i64 m] (· = .tup [.int .i64 0, .int .i64 (w.eO (w.isLi l && w.isMk m))]) := by
  have e1 := p79 w l hB.s hl
  have e2 := p80 w m hB.m
  have e3 := p71 w hB (w.isLi l && w.isMk m)
  refine fnA 2 ok25 (by simp) ?_
  cases hi : w.isLi l with
  | false =>
    rw [hi] at e1 e3 h
    rw [Bool.false_and] at e3 h
    (conv => whnf); (repeat' ((first | refine bT ?_ | refine bF ?_ | refine bN ?_ | ((first | refine bD ?_ ?_ | refine bEq ?_ ?_ | refine bNe ?_ ?_) <;> intro hh <;> try (exfalso; omega)) | (refine (e1).callq rfl rfl fun _ h => ?_; subst h) | (refine (e3).callq rfl rfl fun _ h => ?_; subst h) | refine wIn (by omega) ?_ | refine nI (by omega) ?_) <;> conv => whnf))
    all_goals rfl
  | true =>
    rw [hi] at e1 e3 h
    rw [Bool.true_and] at e3 h
    (conv => whnf); (repeat' ((first | refine bT ?_ | refine bF ?_ | refine bN ?_ | ((first | refine bD ?_ ?_ | refine bEq ?_ ?_ | refine bNe ?_ ?_) <;> intro hh <;> try (exfalso; omega)) | (refine (e1).callq rfl rfl fun _ h => ?_; subst h) | (refine (e2).callq rfl rfl fun _ h => ?_; subst h) | (refine (e3).callq rfl rfl fun _ h => ?_; subst h) | refine wIn (by omega) ?_ | refine nI (by omega) ?_) <;> conv => whnf))
    all_goals rfl
/-- PartsMends -/
theorem k4 (w : Shop) (l : List Int) (m : Int) : FnA Try.prog 4 [.agg w.cells, .isl (l.map jAV), .int .i64 m] (· = .bool true) := by
  have e1 := p14 w
  have ll : (l.map jAV).length = l.length := by simp
  cases hf : w.far with
  | true =>
    rw [hf] at e1
    refine fnA 6 ok4 (by simp) ?_
    (conv => whnf); (repeat' ((first | refine bT ?_ | refine bF ?_ | refine bN ?_ | ((first | refine bD ?_ ?_ | refine bEq ?_ ?_ | refine bNe ?_ ?_) <;> intro hh <;> try (exfalso; omega)) | (refine (e1).callq rfl rfl fun _ h => ?_; subst h) | (refine (p15).callq rfl rfl fun _ h => ?_; subst h) | refine wIn (by omega) ?_ | refine nI (by omega) ?_) <;> conv => whnf))
    all_goals rfl
  | false =>
    rw [hf] at e1
    have hB := sz_big (far_sz hf)
    have e2 := p16 w hB
    by_cases hl : l.length ≤ 20
    case neg =>
      refine fnA 6 ok4 (by simp) ?_
      (conv => whnf); (repeat' ((first | refine bT ?_ | refine bF ?_ | refine bN ?_ | ((first | refine bD ?_ ?_ | refine bEq ?_ ?_ | refine bNe ?_ ?_) <;> intro hh <;> try (exfalso; omega)) | (refine (e1).callq rfl rfl fun _ h => ?_; subst h) | (refine (p15).callq rfl rfl fun _ h => ?_; subst h) | refine wIn (by omega) ?_ | refine nI (by omega) ?_) <;> conv => whnf))
      all_goals rfl
    by_cases h1 : w.eO (w.isLi l && w.isMk m) = 0
    · have a1 := p24 w l m hB.s hB.m (by omega) h1
      have a2 := p25 w hB l m (by omega) h1
      refine fnA 6 ok4 (by simp) ?_
      (conv => whnf); (repeat' ((first | refine bT ?_ | refine bF ?_ | refine bN ?_ | ((first | refine bD ?_ ?_ | refine bEq ?_ ?_ | refine bNe ?_ ?_) <;> intro hh <;> try (exfalso; omega)) | (refine (e1).callq rfl rfl fun _ h => ?_; subst h) | (refine (e2).callzq rfl rfl fun _ h => ?_; subst h) | (refine apI (j_one l) (by simp only [ll, List.length_nil]; omega) ?_) | (refine (a1).lendq rfl fun _ h => ?_; subst h; refine ⟨rfl, ?_⟩) | (refine (a2).callq rfl rfl fun _ h => ?_; subst h) | (refine (p15).callq rfl rfl fun _ h => ?_; subst h) | refine wIn (by omega) ?_ | refine nI (by omega) ?_) <;> conv => whnf))
      all_goals rfl
    · have a1 := p24e w l m hB.s hB.m (by omega) h1
      have a2 := p25e w hB l m (by omega) h1
      refine fnA 6 ok4 (by simp) ?_
      (conv => whnf); (repeat' ((first | refine bT ?_ | refine bF ?_ | refine bN ?_ | ((first | refine bD ?_ ?_ | refine bEq ?_ ?_ | refine bNe ?_ ?_) <;> intro hh <;> try (exfalso; omega)) | (refine (e1).callq rfl rfl fun _ h => ?_; subst h) | (refine (e2).callzq rfl rfl fun _ h => ?_; subst h) | (refine apI (j_one l) (by simp only [ll, List.length_nil]; omega) ?_) | (refine (a1).lendq rfl fun _ h => ?_; subst h; refine ⟨rfl, ?_⟩) | (refine (a2).callq rfl rfl fun _ h => ?_; subst h) | (refine (p15).callq rfl rfl fun _ h => ?_; subst h) | refine wIn (by omega) ?_ | refine nI (by omega) ?_) <;> conv => whnf))
      all_goals rfl
theorem rch_bits {w : Shop} (hk : Ok w) {m : Int} {l : List Int} (hm : w.isMk m = true) (hsp : ∀ x ∈ l, w.isSp x = true) (hc : ∀ x, w.isSp x = true → ∃ n, w.can x n = true) {s : Nat} (hs : s < (w.slots m).length) : ∀ {k b : Nat}, k ≤ l.length → w.rch m (w.slots m).length l k b → (∃ j, j < k ∧ w.sure (l.getD j 0) m (s : Nat) = true) → b.testBit s = true
  | 0, b, _, _, h => by obtain ⟨j, h, _⟩ := h; omega
  | k + 1, b, hkl, hr, h => by
    obtain ⟨b0, n, h1, h2, rfl⟩ := hr
    rw [Nat.testBit_or, cov_bit, Bool.or_eq_true]
    obtain ⟨j, hj, hj2⟩ := h
    by_cases e : j = k
    · subst e
      right
      have hx := hsp _ (getD_memI (l := l) (j := j) (by omega))
      have hsl : w.isSl m (s : Nat) = true := isSl_iff.2 ⟨hm, by omega, by omega⟩
      unfold Shop.sure at hj2
      have := (fits_1 hk hx hsl (hc _ hx)).1 (by simpa using hj2) n h2
      rw [this, Bool.and_true]; exact decide_eq_true hs
    · left
      exact rch_bits hk hm hsp hc hs (by omega) h1 ⟨j, by omega, hj2⟩
theorem rch_ltK {w : Shop} {m : Int} {K : Nat} {l : List Int} : ∀ {k b : Nat}, w.rch m K l k b → b < 2 ^ K
  | 0, b, h => by have : b = 0 := h; subst this; exact Nat.pow_pos (by omega)
  | k + 1, b, h => by
    obtain ⟨b0, n, h1, _, rfl⟩ := h
    exact Nat.or_lt_two_pow (rch_ltK h1) (cov_lt _ _ _ _ _)
open Classical in
theorem mends_sure {w : Shop} (hk : Ok w) {m : Int} {l : List Int} (hm : w.isMk m = true) (hsp : ∀ x ∈ l, w.isSp x = true) (hc : ∀ x, w.isSp x = true → ∃ n, w.can x n = true) : w.mendsV l m = 1 ↔ ∀ s, s < (w.slots m).length → ∃ x ∈ l, w.sure x m (s : Nat) = true := by
  have hT : ∃ T : Int → Int, ∀ x ∈ l, w.can x (T x) = true :=
    ⟨fun x => if h : ∃ n, w.can x n = true then h.choose else 0, fun x hx => by
      have h := hc x (hsp x hx)
      simp only [h, dif_pos]; exact h.choose_spec⟩
  constructor
  · intro h s hs
    apply byContradiction
    intro hn
    have hno : ∀ x ∈ l, ∃ n, w.can x n = true ∧ w.fit x n m (s : Nat) = false := fun x hx => by
      have hx' := hsp x hx
      have hsl : w.isSl m (s : Nat) = true := isSl_iff.2 ⟨hm, by omega, by omega⟩
      apply byContradiction
      intro h2
      apply hn
      refine ⟨x, hx, ?_⟩
      unfold Shop.sure
      have : w.fitsV x m (s : Nat) = 1 := (fits_1 hk hx' hsl (hc x hx')).2 fun n h3 => by
        cases h4 : w.fit x n m (s : Nat) with
        | true => rfl
        | false => exact absurd ⟨n, h3, h4⟩ h2
      rw [this]; rfl
    let T : Int → Int := fun x => if h : ∃ n, w.can x n = true ∧ w.fit x n m (s : Nat) = false then h.choose else 0
    have hT1 : ∀ x ∈ l, w.can x (T x) = true ∧ w.fit x (T x) m (s : Nat) = false := fun x hx => by
      have h5 := hno x hx
      have : T x = h5.choose := by simp only [T, dif_pos h5]
      rw [this]; exact h5.choose_spec
    have h6 := mends_1 h (T := T) (fun x hx => (hT1 x hx).1)
    unfold mended at h6
    rw [List.all_eq_true] at h6
    have h7 := h6 s (List.mem_range.2 hs)
    rw [List.any_eq_true] at h7
    obtain ⟨x, hx, h8⟩ := h7
    rw [(hT1 x hx).2] at h8; cases h8
  · intro h
    have hall : ∀ b, w.rch m (w.slots m).length l l.length b → b = 2 ^ (w.slots m).length - 1 := fun b hb => by
      rw [full_iff (rch_ltK hb)]
      intro s hs
      obtain ⟨x, hx, h2⟩ := h s hs
      obtain ⟨j, hj, rfl⟩ := List.getElem_of_mem hx
      refine rch_bits hk hm hsp hc hs (Nat.le_refl _) hb ⟨j, hj, ?_⟩
      have e : l.getD j 0 = l[j] := by simp [List.getD_eq_getElem?_getD, hj]
      rw [e]; exact h2
    obtain ⟨T, hT⟩ := hT
    have hr := orN_rch (w := w) (m := m) (K := (w.slots m).length) (T := T) (Nat.le_refl l.length) hT
    have he := hall _ hr
    rw [he] at hr
    unfold Shop.mendsV
    rw [if_neg (fun h => h hr), if_pos hall]
theorem mem_needK {w : Shop} {f : List Int} : ∀ {n : Nat}, f ∈ w.needK n ↔ ∃ m, m < n ∧ ∃ s, s < (w.slots (m : Nat)).length ∧ w.sures (m : Nat) (s : Nat) = f
  | 0 => by simp [Shop.needK]
  | n + 1 => by
    simp only [Shop.needK, List.mem_append, mem_needK (n := n), Shop.needM, List.mem_map, List.mem_range, Shop.sl]
    constructor
    · rintro (⟨m, a, b⟩ | ⟨s, a, b⟩)
      · exact ⟨m, by omega, b⟩
      · exact ⟨n, by omega, s, a, b⟩
    · rintro ⟨m, a, s, b, c⟩
      by_cases e : m = n
      · subst e; exact .inr ⟨s, b, c⟩
      · exact .inl ⟨m, by omega, s, b, c⟩
/-- all makes are surely mended, up to one -/
noncomputable def allB (w : Shop) (l : List Int) (k : Nat) : Bool := (List.range k).all fun m : Nat => decide (w.mendsV l (m : Nat) = 1)
theorem good_all {w : Shop} (hk : Ok w) {l : List Int} (hsp : ∀ x ∈ l, w.isSp x = true) (hc : ∀ x, w.isSp x = true → ∃ n, w.can x n = true) : w.good l = allB w l w.mks.length := by
  rw [Bool.eq_iff_iff]
  unfold Shop.good allB Shop.needs
  simp only [List.all_eq_true, List.any_eq_true, List.mem_range, decide_eq_true_eq]
  constructor
  · intro h m hm
    have hmk : w.isMk (m : Nat) = true := isMk_iff.2 (by omega)
    rw [mends_sure hk hmk hsp hc]
    intro s hs
    obtain ⟨x, hx, h2⟩ := h _ (mem_needK.2 ⟨m, hm, s, hs, rfl⟩)
    exact ⟨x, hx, (mem_numF.1 h2).2⟩
  · intro h f hf
    obtain ⟨m, hm, s, hs, rfl⟩ := mem_needK.1 hf
    have hmk : w.isMk (m : Nat) = true := isMk_iff.2 (by omega)
    obtain ⟨x, hx, h2⟩ := (mends_sure hk hmk hsp hc).1 (h m hm) s hs
    have := isSp_iff.1 (hsp x hx)
    exact ⟨x, hx, mem_numF.2 ⟨by omega, h2⟩⟩
theorem sub_sp {w : Shop} {b : Nat} : ∀ x ∈ w.sub b, w.isSp x = true := fun x hx => isSp_iff.2 (by have := (mem_numF.1 hx).1; omega)
theorem numF_asc (n : Nat) (p : Int → Bool) : ascB (numF n p) = true := by
  have hp : (numF n p).Pairwise (· < ·) := by
    unfold numF
    refine List.Pairwise.sublist List.filter_sublist ?_
    rw [List.pairwise_map]
    exact List.Pairwise.imp (fun h => by omega) (List.pairwise_lt_range (n := n))
  rw [ascB_iff]
  intro i hi
  have := List.pairwise_iff_getElem.1 hp i (i + 1) (by omega) hi (by omega)
  have e1 : (numF n p).getD i 0 = (numF n p)[i] := by simp [List.getD_eq_getElem?_getD, show i < (numF n p).length by omega]
  have e2 : (numF n p).getD (i + 1) 0 = (numF n p)[i + 1] := by simp [List.getD_eq_getElem?_getD, hi]
  rw [e1, e2]; exact this
theorem goods_ok {w : Shop} {l : List Int} (h : l ∈ w.goods) : w.good l = true ∧ w.isLi l = true ∧ ∀ x ∈ l, w.isSp x = true := by
  unfold Shop.goods Shop.goodK at h
  obtain ⟨h1, h2⟩ := List.mem_filter.1 h
  obtain ⟨b, _, rfl⟩ := List.mem_map.1 h1
  refine ⟨h2, ?_, sub_sp⟩
  unfold Shop.isLi
  rw [show ascB (w.sub b) = true from numF_asc _ _, Bool.true_and, List.all_eq_true]
  exact sub_sp
theorem keep_mem {w : Shop} (h : w.eF = 0) : w.keep ∈ w.mins := by
  have := (eF_0 h).2
  unfold Shop.keep
  rw [List.getD_eq_getElem?_getD, List.getElem?_eq_getElem this]; exact List.getElem_mem this
/-- the number whose bits say what holds -/
def bOf (p : Int → Bool) : Nat → Nat
  | 0 => 0
  | k + 1 => (if p (k : Nat) then 2 ^ k else 0) + bOf p k
theorem bOf_lt (p : Int → Bool) : ∀ k, bOf p k < 2 ^ k
  | 0 => by simp [bOf]
  | k + 1 => by
    have := bOf_lt p k
    unfold bOf
    rw [Nat.pow_succ]
    split <;> omega
theorem bOf_bit (p : Int → Bool) : ∀ K s : Nat, (bOf p K).testBit s = (decide (s < K) && p (s : Nat))
  | 0, s => by simp [bOf]
  | K + 1, s => by
    have ih := bOf_bit p K s
    unfold bOf
    cases hf : p (K : Nat) with
    | true =>
      rw [if_pos rfl, Nat.add_comm, ← or_pow (bOf_lt p K), Nat.testBit_or, ih, Nat.testBit_two_pow]
      by_cases h : s = K
      · subst h; simp [hf]
      · have h1 : decide (K = s) = false := decide_eq_false (fun e => h e.symm)
        have h2 : decide (s < K + 1) = decide (s < K) := decide_eq_decide.2 (by omega)
        rw [h1, h2, Bool.or_false]
    | false =>
      simp only [Bool.false_eq_true, if_false, Nat.zero_add]
      rw [ih]
      by_cases h : s = K
      · subst h; simp [hf]
      · have h2 : decide (s < K + 1) = decide (s < K) := decide_eq_decide.2 (by omega)
        rw [h2]
theorem bitB_test (b s : Nat) : bitB b (s : Nat) = b.testBit s := by
  unfold bitB
  rw [Nat.testBit_eq_decide_div_mod_eq]
  rfl
theorem sub_of {w : Shop} (p : Int → Bool) : ∃ b, b < 2 ^ w.sps.length ∧ w.sub b = numF w.sps.length p := by
  refine ⟨bOf p w.sps.length, bOf_lt _ _, ?_⟩
  unfold Shop.sub
  apply numF_congr
  intro x h1 h2
  show bitB _ ((x : Nat) : Int) = p ((x : Nat) : Int)
  rw [bitB_test, bOf_bit, decide_eq_true (by omega), Bool.true_and]
theorem asc_pw {l : List Int} (h : ascB l = true) : l.Pairwise (· < ·) := by
  rw [ascB_iff] at h
  induction l with
  | nil => exact List.Pairwise.nil
  | cons a l ih =>
    have h' : ∀ i, i + 1 < l.length → l.getD i 0 < l.getD (i + 1) 0 := fun i hi => by simpa using h (i + 1) (by simpa using hi)
    have ihh := ih h'
    refine List.Pairwise.cons (fun x hx => ?_) ihh
    cases l with
    | nil => cases hx
    | cons b r =>
      have hab : a < b := by simpa using h 0 (by simp)
      rcases List.mem_cons.1 hx with rfl | hx
      · exact hab
      · exact Int.lt_trans hab ((List.pairwise_cons.1 ihh).1 x hx)
theorem pw_ext : ∀ {a b : List Int}, a.Pairwise (· < ·) → b.Pairwise (· < ·) → (∀ x, x ∈ a ↔ x ∈ b) → a = b
  | [], [], _, _, _ => rfl
  | [], y :: b, _, _, h => absurd ((h y).2 (by simp)) (by simp)
  | x :: a, [], _, _, h => absurd ((h x).1 (by simp)) (by simp)
  | x :: a, y :: b, ha, hb, h => by
    have ha' := List.pairwise_cons.1 ha
    have hb' := List.pairwise_cons.1 hb
    have hxy : x = y := by
      have h1 := (h x).1 (by simp)
      have h2 := (h y).2 (by simp)
      rcases List.mem_cons.1 h1 with e | e
      · exact e
      · rcases List.mem_cons.1 h2 with e2 | e2
        · exact e2.symm
        · have := hb'.1 x e; have := ha'.1 y e2; omega
    subst hxy
    congr 1
    refine pw_ext ha'.2 hb'.2 fun z => ?_
    constructor
    · intro hz
      rcases List.mem_cons.1 ((h z).1 (by simp [hz])) with e | e
      · have := ha'.1 z hz; omega
      · exact e
    · intro hz
      rcases List.mem_cons.1 ((h z).2 (by simp [hz])) with e | e
      · have := hb'.1 z hz; omega
      · exact e
theorem isLi_sub {w : Shop} {l : List Int} (h : w.isLi l = true) : ∃ b, b < 2 ^ w.sps.length ∧ w.sub b = l := by
  unfold Shop.isLi at h
  rw [Bool.and_eq_true, List.all_eq_true] at h
  obtain ⟨b, hb, e⟩ := sub_of (w := w) fun x => decide (x ∈ l)
  refine ⟨b, hb, ?_⟩
  rw [e]
  refine pw_ext (asc_pw (numF_asc _ _)) (asc_pw h.1) fun x => ?_
  rw [mem_numF, decide_eq_true_iff]
  constructor
  · exact fun h => h.2
  · intro hx
    have := isSp_iff.1 (h.2 x hx)
    exact ⟨by omega, hx⟩
theorem mem_goods {w : Shop} {l : List Int} (h : w.isLi l = true) (hg : w.good l = true) : l ∈ w.goods := by
  obtain ⟨b, hb, rfl⟩ := isLi_sub h
  unfold Shop.goods Shop.goodK
  exact List.mem_filter.2 ⟨List.mem_map.2 ⟨b, List.mem_range.2 hb, rfl⟩, hg⟩
theorem bestL_inv {ys : List (List Int)} : ∀ {k : Nat}, k ≤ ys.length → (0 < k → 0 < (bestL (ys.take k)).length) ∧ (∀ y ∈ ys.take k, ((bestL (ys.take k)).getD 0 []).length ≤ y.length ∧ (y.length = ((bestL (ys.take k)).getD 0 []).length → y ∈ bestL (ys.take k))) ∧ ∀ a ∈ bestL (ys.take k), a.length = ((bestL (ys.take k)).getD 0 []).length
  | 0, _ => by simp [bestL]
  | k + 1, hk => by
    obtain ⟨h1, h2, h3⟩ := bestL_inv (ys := ys) (k := k) (by omega)
    rw [bestL_succ (by omega : k < ys.length), List.take_succ_eq_append_getElem (by omega : k < ys.length)]
    have hk0 : k = 0 → bestL (ys.take k) = [] := by rintro rfl; rfl
    generalize bestL (ys.take k) = acc at *
    generalize ys[k] = q at *
    unfold stepB
    split
    · rename_i h
      refine ⟨fun _ => h.1, ?_, h3⟩
      intro y hy
      rcases List.mem_append.1 hy with hy | hy
      · exact h2 y hy
      · rw [List.mem_singleton.1 hy]; exact ⟨by omega, fun e => by omega⟩
    · rename_i hn
      split
      · rename_i h
        refine ⟨fun _ => by simp, ?_, by simp⟩
        intro y hy
        rcases List.mem_append.1 hy with hy | hy
        · have := (h2 y hy).1
          exact ⟨by simp; omega, fun e => by simp at e; omega⟩
        · rw [List.mem_singleton.1 hy]; exact ⟨by simp, fun _ => by simp⟩
      · rename_i hn2
        by_cases h0 : acc.length = 0
        · have : k = 0 := by
            apply Classical.byContradiction; intro hne
            have := h1 (by omega); omega
          have ha : acc = [] := hk0 this
          subst ha
          subst this
          refine ⟨fun _ => by simp, ?_, by simp⟩
          intro y hy
          have : y = q := by simpa using hy
          subst this; simp
        · have hg : (acc ++ [q]).getD 0 [] = acc.getD 0 [] := by
            rw [List.getD_eq_getElem?_getD, List.getD_eq_getElem?_getD, List.getElem?_append_left (by omega)]
          have hq : q.length = (acc.getD 0 []).length := by
            apply Classical.byContradiction; intro hne
            rcases Nat.lt_or_gt_of_ne hne with h | h
            · exact hn2 ⟨by omega, h⟩
            · exact hn ⟨by omega, h⟩
          rw [hg]
          refine ⟨fun _ => by simp, ?_, ?_⟩
          · intro y hy
            rcases List.mem_append.1 hy with hy | hy
            · exact ⟨(h2 y hy).1, fun e => List.mem_append.2 (.inl ((h2 y hy).2 e))⟩
            · rw [List.mem_singleton.1 hy]; exact ⟨by omega, fun _ => by simp⟩
          · intro a ha
            rcases List.mem_append.1 ha with ha | ha
            · exact h3 a ha
            · rw [List.mem_singleton.1 ha]; exact hq
theorem numF_mono {p q : Int → Bool} (h : ∀ x, p x = true → q x = true) : ∀ n, (numF n p).length ≤ (numF n q).length
  | 0 => by simp [numF]
  | n + 1 => by
    have ih := numF_mono h n
    cases hp : p (n : Nat) with
    | true => rw [numF_yes hp, numF_yes (h _ hp)]; simp; exact ih
    | false =>
      rw [numF_no hp]
      cases hq : q (n : Nat) with
      | true => rw [numF_yes hq]; simp; omega
      | false => rw [numF_no hq]; exact ih
theorem mins_inv {w : Shop} {l : List Int} (h : l ∈ w.goods) : 0 < w.mins.length ∧ w.keep.length ≤ l.length ∧ (l.length = w.keep.length → l ∈ w.mins) := by
  have h1 := bestL_inv (ys := w.goods) (k := w.goods.length) (Nat.le_refl _)
  rw [List.take_length] at h1
  obtain ⟨a, b, c⟩ := h1
  exact ⟨a (List.length_pos_of_mem h), (b l h).1, (b l h).2⟩
theorem needed_sub {w : Shop} {l : List Int} (h : l ∈ w.mins) : ∀ x ∈ w.needed, x ∈ l := fun x hx => by
  have := (mem_numF.1 hx).2
  unfold Shop.needB at this
  exact of_decide_eq_true (List.all_eq_true.1 this l h)
theorem needed_len {w : Shop} (h : w.eF = 0) : w.needed.length ≤ w.keep.length := by
  have hm := mins_goods (keep_mem h)
  have hs := needed_sub (keep_mem h)
  unfold Shop.goods Shop.goodK at hm
  obtain ⟨b, _, e⟩ := List.mem_map.1 (List.mem_filter.1 hm).1
  have hn : w.needed = numF w.sps.length fun x => w.needB x && bitB b x := by
    unfold Shop.needed
    apply numF_congr
    intro x h1 h2
    cases hx : w.needB x with
    | false => rfl
    | true =>
      have := hs x (mem_numF.2 ⟨⟨by omega, by omega⟩, hx⟩)
      rw [← e] at this
      rw [(mem_numF.1 this).2]; rfl
  rw [hn, ← e]
  exact numF_mono (fun x hx => (Bool.and_eq_true _ _ ▸ hx : _ ∧ _).2) _
theorem p48 (w : Shop) (hB : Big w) (h0 : w.eO true = 0) (l : List Int) (hl : l.length ≤ 1000000) (hli : w.isLi l = true) : FnA Try.prog 48 [.agg w.cells, .isl (l.map jAV)] (· = .bool (allB w l w.mks.length)) := by
  have hk := chk_ok (chk_0 h0)
  have hm1 := hk.m1
  have l2 : (w.mks.map mkAV).length = w.mks.length := by simp
  refine fnA 1 ok48 (by simp) ?_
  (conv => whnf); (repeat' ((first | refine bT ?_ | refine bF ?_ | refine bN ?_ | ((first | refine bD ?_ ?_ | refine bEq ?_ ?_ | refine bNe ?_ ?_) <;> intro hh <;> try (exfalso; omega)) | refine wIn (by omega) ?_ | refine nI (by omega) ?_) <;> conv => whnf))
  refine loop_i (α := Nat) (fun k => [(5, .int .i64 k), (2, .own 0 0), (1, .isl (l.map jAV))]) (fun k => [.box false w.cells]) (fun k => k ≤ w.mks.length ∧ ∀ m, m < k → w.mendsV l (m : Nat) = 1) (fun k => w.mks.length - k) 0 (meets_id (by (repeat' apply And.intro) <;> first | rfl | exact True.intro | (intro hh; cases hh))) ⟨Nat.zero_le _, fun m hm => by omega⟩ ?_
  rintro k ⟨hk0, hin⟩
  conv => whnf
  refine bD (fun h3 => ?_) (fun h3 => ?_)
  · have hkl : k < w.mks.length := by omega
    have hmk : w.isMk (k : Nat) = true := isMk_iff.2 (by omega)
    have hE : w.eO (w.isLi l && w.isMk (k : Nat)) = 0 := by rw [hli, hmk]; exact h0
    have e1 := p24 w l k hB.s hB.m hl hE
    by_cases hv : w.mendsV l (k : Nat) = 1
    · rw [hv] at e1
      (conv => whnf); (repeat' ((first | refine bT ?_ | refine bF ?_ | refine bN ?_ | ((first | refine bD ?_ ?_ | refine bEq ?_ ?_ | refine bNe ?_ ?_) <;> intro hh <;> try (exfalso; omega)) | (refine (e1).callq rfl rfl fun _ h => ?_; subst h) | refine wIn (by omega) ?_ | refine nI (by omega) ?_) <;> conv => whnf))
      refine ⟨k + 1, (meets_id (by (repeat' apply And.intro) <;> first | rfl | exact True.intro | (intro hh; cases hh))), ⟨by omega, fun m hm => ?_⟩, by omega⟩
      by_cases e : m = k
      · rw [e]; exact hv
      · exact hin m (by omega)
    · have h0 : allB w l w.mks.length = false := by
        unfold allB
        rw [List.all_eq_false]
        exact ⟨k, List.mem_range.2 hkl, by simp [hv]⟩
      rw [h0]
      (conv => whnf); (repeat' ((first | refine bT ?_ | refine bF ?_ | refine bN ?_ | ((first | refine bD ?_ ?_ | refine bEq ?_ ?_ | refine bNe ?_ ?_) <;> intro hh <;> try (exfalso; omega)) | (refine (e1).callq rfl rfl fun _ h => ?_; subst h) | refine wIn (by omega) ?_ | refine nI (by omega) ?_) <;> conv => whnf))
      all_goals rfl
  · have hke : k = w.mks.length := by omega
    have h0 : allB w l w.mks.length = true := by
      unfold allB
      rw [List.all_eq_true]
      intro m hm
      exact decide_eq_true (hin m (by have := List.mem_range.1 hm; omega))
    rw [h0]
    (conv => whnf); (repeat' ((first | refine bT ?_ | refine bF ?_ | refine bN ?_ | ((first | refine bD ?_ ?_ | refine bEq ?_ ?_ | refine bNe ?_ ?_) <;> intro hh <;> try (exfalso; omega)) | refine wIn (by omega) ?_ | refine nI (by omega) ?_) <;> conv => whnf))
    all_goals rfl
def subB (a b : List Int) : Bool := a.all fun x => decide (x ∈ b)
theorem p49 (a b : List Int) (ha : a.length ≤ 1000000) (hb : b.length ≤ 1000000) : FnA Try.prog 49 [.isl (a.map jAV), .isl (b.map jAV)] (· = .bool (subB a b)) := by
  have l1 : (a.map jAV).length = a.length := by simp
  refine fnA 0 ok49 (by simp) ?_
  (conv => whnf); (repeat' ((first | refine bT ?_ | refine bF ?_ | refine bN ?_ | ((first | refine bD ?_ ?_ | refine bEq ?_ ?_ | refine bNe ?_ ?_) <;> intro hh <;> try (exfalso; omega)) | refine wIn (by omega) ?_ | refine nI (by omega) ?_) <;> conv => whnf))
  refine loop_i (α := Nat) (fun k => [(5, .int .i64 k), (1, .isl (b.map jAV)), (0, .isl (a.map jAV))]) (fun k => []) (fun k => k ≤ a.length ∧ ∀ j, j < k → a.getD j 0 ∈ b) (fun k => a.length - k) 0 (meets_id (by (repeat' apply And.intro) <;> first | rfl | exact True.intro | (intro hh; cases hh))) ⟨Nat.zero_le _, fun m hm => by omega⟩ ?_
  rintro k ⟨hk0, hin⟩
  conv => whnf
  refine bD (fun h3 => ?_) (fun h3 => ?_)
  · have hkl : k < a.length := by omega
    have gk := jget hkl
    have e1 := p51 b (a.getD k 0) hb
    by_cases hv : a.getD k 0 ∈ b
    · rw [decide_eq_true hv] at e1
      (conv => whnf); (repeat' ((first | refine bT ?_ | refine bF ?_ | refine bN ?_ | ((first | refine bD ?_ ?_ | refine bEq ?_ ?_ | refine bNe ?_ ?_) <;> intro hh <;> try (exfalso; omega)) | (refine iaI (by omega) (by omega) gk ?_) | (refine (e1).callq rfl rfl fun _ h => ?_; subst h) | refine wIn (by omega) ?_ | refine nI (by omega) ?_) <;> conv => whnf))
      refine ⟨k + 1, (meets_id (by (repeat' apply And.intro) <;> first | rfl | exact True.intro | (intro hh; cases hh))), ⟨by omega, fun m hm => ?_⟩, by omega⟩
      by_cases e : m = k
      · rw [e]; exact hv
      · exact hin m (by omega)
    · rw [decide_eq_false hv] at e1
      have h0 : subB a b = false := by
        unfold subB
        rw [List.all_eq_false]
        exact ⟨_, getD_memI hkl, by simpa using hv⟩
      rw [h0]
      (conv => whnf); (repeat' ((first | refine bT ?_ | refine bF ?_ | refine bN ?_ | ((first | refine bD ?_ ?_ | refine bEq ?_ ?_ | refine bNe ?_ ?_) <;> intro hh <;> try (exfalso; omega)) | (refine iaI (by omega) (by omega) gk ?_) | (refine (e1).callq rfl rfl fun _ h => ?_; subst h) | refine wIn (by omega) ?_ | refine nI (by omega) ?_) <;> conv => whnf))
      all_goals rfl
  · have hke : k = a.length := by omega
    have h0 : subB a b = true := by
      unfold subB
      rw [List.all_eq_true]
      intro x hx
      obtain ⟨j, hj, rfl⟩ := List.getElem_of_mem hx
      have e : a.getD j 0 = a[j] := by simp [List.getD_eq_getElem?_getD, hj]
      have := hin j (by omega)
      rw [e] at this; exact decide_eq_true this
    rw [h0]
    (conv => whnf); (repeat' ((first | refine bT ?_ | refine bF ?_ | refine bN ?_ | ((first | refine bD ?_ ?_ | refine bEq ?_ ?_ | refine bNe ?_ ?_) <;> intro hh <;> try (exfalso; omega)) | refine wIn (by omega) ?_ | refine nI (by omega) ?_) <;> conv => whnf))
    all_goals rfl
theorem subB_1 {a b : List Int} (h : ∀ x ∈ a, x ∈ b) : subB a b = true := by
  unfold subB; rw [List.all_eq_true]; exact fun x hx => decide_eq_true (h x hx)
/-- what is said of the lists that mend all -/
theorem lists_ok (w : Shop) (h0 : w.eO true = 0) : ∃ (f e : Int) (nd kp : List Int), FnA Try.prog 26 [.agg w.cells] (· = .tup [.int .i64 f, .int .i64 e]) ∧ FnA Try.prog 28 [.agg w.cells] (· = .tup [.isl (nd.map jAV), .int .i64 e]) ∧ FnA Try.prog 30 [.agg w.cells] (· = .tup [.isl (kp.map jAV), .int .i64 e]) ∧ nd.length ≤ f ∧ f = kp.length ∧ kp.length ≤ 10 ∧
    ((e = 0 ∧ w.isLi kp = true ∧ allB w kp w.mks.length = true ∧ subB nd kp = true ∧ ∀ l, w.isLi l = true → allB w l w.mks.length = true → f ≤ l.length ∧ (l.length = f → subB nd l = true)) ∨
     (e = 3 ∧ ∀ l, w.isLi l = true → allB w l w.mks.length = false)) := by
  have hk := chk_ok (chk_0 h0)
  have hs1 := hk.s1
  have hcx : ∀ x, w.isSp x = true → ∃ n, w.can x n = true := fun x hx => can_ex h0 hx
  have hsp : ∀ l, w.isLi l = true → ∀ x ∈ l, w.isSp x = true := fun l hl => by
    unfold Shop.isLi at hl
    rw [Bool.and_eq_true] at hl
    exact List.all_eq_true.1 hl.2
  by_cases h : w.eF = 0
  · have hkm := keep_mem h
    have hkl := goods_sub (mins_goods hkm)
    obtain ⟨q1, q2, q3⟩ := goods_ok (mins_goods hkm)
    have hnk := needed_len h
    refine ⟨w.keep.length, 0, w.needed, w.keep, p26 w h, p28 w h, p30 w h, by omega, rfl, by omega, .inl ⟨rfl, q2, ?_, subB_1 (needed_sub hkm), fun l hl ha => ?_⟩⟩
    · rw [← good_all hk q3 hcx]; exact q1
    · rw [← good_all hk (hsp l hl) hcx] at ha
      obtain ⟨_, b, c⟩ := mins_inv (mem_goods hl ha)
      exact ⟨by omega, fun e => subB_1 (needed_sub (c (by omega)))⟩
  · have h3 : w.eF = 3 := by
      unfold Shop.eF at h ⊢
      rw [if_neg (by simpa using h0)] at h ⊢
      split
      · rfl
      · rename_i h2; rw [if_neg h2] at h; exact absurd rfl h
    have hm0 : w.mins.length = 0 := by
      unfold Shop.eF at h
      rw [if_neg (by simpa using h0)] at h
      split at h
      · assumption
      · exact absurd rfl h
    have a1 := p26e w h
    have a2 := p28e w h
    have a3 := p30e w h
    rw [h3] at a1 a2 a3
    refine ⟨0, 3, [], [], a1, a2, a3, by simp, by simp, by simp, .inr ⟨rfl, fun l hl => ?_⟩⟩
    rw [← good_all hk (hsp l hl) hcx, Bool.eq_false_iff]
    intro ha
    have := (mins_inv (mem_goods hl ha)).1
    omega
set_option maxHeartbeats 1000000 in
/-- PartsLists -/
theorem k9 (w : Shop) (l : List Int) : FnA Try.prog 9 [.agg w.cells, .isl (l.map jAV)] (· = .bool true) := by
  have e1 := p41 w
  have ll : (l.map jAV).length = l.length := by simp
  cases hr : w.ready with
  | false =>
    rw [hr] at e1
    refine fnA 3 ok9 (by simp) ?_
    (conv => whnf); (repeat' ((first | refine bT ?_ | refine bF ?_ | refine bN ?_ | ((first | refine bD ?_ ?_ | refine bEq ?_ ?_ | refine bNe ?_ ?_) <;> intro hh <;> try (exfalso; omega)) | (refine (e1).callq rfl rfl fun _ h => ?_; subst h) | (refine (p15).callq rfl rfl fun _ h => ?_; subst h) | refine wIn (by omega) ?_ | refine nI (by omega) ?_) <;> conv => whnf))
    all_goals rfl
  | true =>
  rw [hr] at e1
  obtain ⟨hf, h0, hk⟩ := ready_ok hr
  have hB := hk.big
  by_cases hl : l.length ≤ 20
  case neg =>
    refine fnA 3 ok9 (by simp) ?_
    (conv => whnf); (repeat' ((first | refine bT ?_ | refine bF ?_ | refine bN ?_ | ((first | refine bD ?_ ?_ | refine bEq ?_ ?_ | refine bNe ?_ ?_) <;> intro hh <;> try (exfalso; omega)) | (refine (e1).callq rfl rfl fun _ h => ?_; subst h) | (refine (p15).callq rfl rfl fun _ h => ?_; subst h) | refine wIn (by omega) ?_ | refine nI (by omega) ?_) <;> conv => whnf))
    all_goals rfl
  obtain ⟨f, e, nd, kp, a1, a2, a3, b1, b2, b3, hc⟩ := lists_ok w h0
  have ln : (nd.map jAV).length = nd.length := by simp
  have lk : (kp.map jAV).length = kp.length := by simp
  have a5 := p49 nd kp (by omega) (by omega)
  have a6 := p50 l (by omega)
  have a7 := p49 nd l (by omega) (by omega)
  refine fnA 3 ok9 (by simp) ?_
  rcases hc with ⟨rfl, c1, c2, c3, c4⟩ | ⟨rfl, c4⟩
  · have a4 := p48 w hB h0 kp (by omega) c1
    rw [c2] at a4
    rw [c3] at a5
    (conv => whnf); (repeat' ((first | refine bT ?_ | refine bF ?_ | refine bN ?_ | ((first | refine bD ?_ ?_ | refine bEq ?_ ?_ | refine bNe ?_ ?_) <;> intro hh <;> try (exfalso; omega)) | (refine (e1).callq rfl rfl fun _ h => ?_; subst h) | (refine (a1).callq rfl rfl fun _ h => ?_; subst h) | (refine (a2).callzq rfl rfl fun _ h => ?_; subst h) | (refine (a3).callzq rfl rfl fun _ h => ?_; subst h) | (refine (a4).callq rfl rfl fun _ h => ?_; subst h) | (refine (a5).callq rfl rfl fun _ h => ?_; subst h) | refine wIn (by omega) ?_ | refine nI (by omega) ?_) <;> conv => whnf))
    refine loop_i (α := Nat) (fun k => [(11, .int .i64 k), (7, .isl (nd.map jAV)), (6, .int .i64 0), (5, .int .i64 f), (2, .own 0 0), (1, .isl (l.map jAV))]) (fun k => [.box false w.cells, .fresh, .fresh]) (fun k => k ≤ l.length ∧ ∀ j, j < k → w.isSp (l.getD j 0) = true) (fun k => l.length - k) 0 (meets_id (by (repeat' apply And.intro) <;> first | rfl | exact True.intro | (intro hh; cases hh))) ⟨Nat.zero_le _, fun m hm => by omega⟩ ?_
    rintro k ⟨hk0, hin⟩
    conv => whnf
    refine bD (fun h3 => ?_) (fun h3 => ?_)
    · have hkl : k < l.length := by omega
      have gk := jget hkl
      have e2 := p47 w (l.getD k 0) hB.s
      cases hx : w.isSp (l.getD k 0) with
      | true =>
        rw [hx] at e2
        (conv => whnf); (repeat' ((first | refine bT ?_ | refine bF ?_ | refine bN ?_ | ((first | refine bD ?_ ?_ | refine bEq ?_ ?_ | refine bNe ?_ ?_) <;> intro hh <;> try (exfalso; omega)) | (refine iaI (by omega) (by omega) gk ?_) | (refine (e2).callq rfl rfl fun _ h => ?_; subst h) | refine wIn (by omega) ?_ | refine nI (by omega) ?_) <;> conv => whnf))
        refine ⟨k + 1, (meets_id (by (repeat' apply And.intro) <;> first | rfl | exact True.intro | (intro hh; cases hh))), ⟨by omega, fun i hi => ?_⟩, by omega⟩
        by_cases e : i = k
        · rw [e]; exact hx
        · exact hin i (by omega)
      | false =>
        rw [hx] at e2
        (conv => whnf); (repeat' ((first | refine bT ?_ | refine bF ?_ | refine bN ?_ | ((first | refine bD ?_ ?_ | refine bEq ?_ ?_ | refine bNe ?_ ?_) <;> intro hh <;> try (exfalso; omega)) | (refine iaI (by omega) (by omega) gk ?_) | (refine (e2).callq rfl rfl fun _ h => ?_; subst h) | (refine (p15).callq rfl rfl fun _ h => ?_; subst h) | refine wIn (by omega) ?_ | refine nI (by omega) ?_) <;> conv => whnf))
        all_goals rfl
    · have hke : k = l.length := by omega
      have hall : l.all w.isSp = true := by
        rw [List.all_eq_true]; intro x hx
        obtain ⟨j, hj, rfl⟩ := List.getElem_of_mem hx
        have := hin j (by omega)
        have e : l.getD j 0 = l[j] := by simp [List.getD_eq_getElem?_getD, hj]
        rwa [e] at this
      cases hA : ascB l with
      | false =>
        rw [hA] at a6
        (conv => whnf); (repeat' ((first | refine bT ?_ | refine bF ?_ | refine bN ?_ | ((first | refine bD ?_ ?_ | refine bEq ?_ ?_ | refine bNe ?_ ?_) <;> intro hh <;> try (exfalso; omega)) | (refine (a6).callq rfl rfl fun _ h => ?_; subst h) | (refine (p15).callq rfl rfl fun _ h => ?_; subst h) | refine wIn (by omega) ?_ | refine nI (by omega) ?_) <;> conv => whnf))
        all_goals rfl
      | true =>
        rw [hA] at a6
        have hli : w.isLi l = true := by unfold Shop.isLi; rw [hA, hall]; rfl
        have a8 := p48 w hB h0 l (by omega) hli
        have hc5 := c4 l hli
        cases hG : allB w l w.mks.length with
        | false =>
          rw [hG] at a8
          (conv => whnf); (repeat' ((first | refine bT ?_ | refine bF ?_ | refine bN ?_ | ((first | refine bD ?_ ?_ | refine bEq ?_ ?_ | refine bNe ?_ ?_) <;> intro hh <;> try (exfalso; omega)) | (refine (a6).callq rfl rfl fun _ h => ?_; subst h) | (refine (a8).callq rfl rfl fun _ h => ?_; subst h) | (refine (p15).callq rfl rfl fun _ h => ?_; subst h) | refine wIn (by omega) ?_ | refine nI (by omega) ?_) <;> conv => whnf))
          all_goals rfl
        | true =>
          rw [hG] at a8
          obtain ⟨d1, d2⟩ := hc5 hG
          by_cases hle : (l.length : Int) = f
          · rw [d2 hle] at a7
            (conv => whnf); (repeat' ((first | refine bT ?_ | refine bF ?_ | refine bN ?_ | ((first | refine bD ?_ ?_ | refine bEq ?_ ?_ | refine bNe ?_ ?_) <;> intro hh <;> try (exfalso; omega)) | (refine (a6).callq rfl rfl fun _ h => ?_; subst h) | (refine (a8).callq rfl rfl fun _ h => ?_; subst h) | (refine (a7).callq rfl rfl fun _ h => ?_; subst h) | (refine (p15).callq rfl rfl fun _ h => ?_; subst h) | refine wIn (by omega) ?_ | refine nI (by omega) ?_) <;> conv => whnf))
            all_goals rfl
          · (conv => whnf); (repeat' ((first | refine bT ?_ | refine bF ?_ | refine bN ?_ | ((first | refine bD ?_ ?_ | refine bEq ?_ ?_ | refine bNe ?_ ?_) <;> intro hh <;> try (exfalso; omega)) | (refine (a6).callq rfl rfl fun _ h => ?_; subst h) | (refine (a8).callq rfl rfl fun _ h => ?_; subst h) | (refine (a7).callq rfl rfl fun _ h => ?_; subst h) | (refine (p15).callq rfl rfl fun _ h => ?_; subst h) | refine wIn (by omega) ?_ | refine nI (by omega) ?_) <;> conv => whnf))
            all_goals rfl
  · (conv => whnf); (repeat' ((first | refine bT ?_ | refine bF ?_ | refine bN ?_ | ((first | refine bD ?_ ?_ | refine bEq ?_ ?_ | refine bNe ?_ ?_) <;> intro hh <;> try (exfalso; omega)) | (refine (e1).callq rfl rfl fun _ h => ?_; subst h) | (refine (a1).callq rfl rfl fun _ h => ?_; subst h) | (refine (a2).callzq rfl rfl fun _ h => ?_; subst h) | (refine (a3).callzq rfl rfl fun _ h => ?_; subst h) | refine wIn (by omega) ?_ | refine nI (by omega) ?_) <;> conv => whnf))
    refine loop_i (α := Nat) (fun k => [(11, .int .i64 k), (7, .isl (nd.map jAV)), (6, .int .i64 3), (5, .int .i64 f), (2, .own 0 0), (1, .isl (l.map jAV))]) (fun k => [.box false w.cells, .fresh, .fresh]) (fun k => k ≤ l.length ∧ ∀ j, j < k → w.isSp (l.getD j 0) = true) (fun k => l.length - k) 0 (meets_id (by (repeat' apply And.intro) <;> first | rfl | exact True.intro | (intro hh; cases hh))) ⟨Nat.zero_le _, fun m hm => by omega⟩ ?_
    rintro k ⟨hk0, hin⟩
    conv => whnf
    refine bD (fun h3 => ?_) (fun h3 => ?_)
    · have hkl : k < l.length := by omega
      have gk := jget hkl
      have e2 := p47 w (l.getD k 0) hB.s
      cases hx : w.isSp (l.getD k 0) with
      | true =>
        rw [hx] at e2
        (conv => whnf); (repeat' ((first | refine bT ?_ | refine bF ?_ | refine bN ?_ | ((first | refine bD ?_ ?_ | refine bEq ?_ ?_ | refine bNe ?_ ?_) <;> intro hh <;> try (exfalso; omega)) | (refine iaI (by omega) (by omega) gk ?_) | (refine (e2).callq rfl rfl fun _ h => ?_; subst h) | refine wIn (by omega) ?_ | refine nI (by omega) ?_) <;> conv => whnf))
        refine ⟨k + 1, (meets_id (by (repeat' apply And.intro) <;> first | rfl | exact True.intro | (intro hh; cases hh))), ⟨by omega, fun i hi => ?_⟩, by omega⟩
        by_cases e : i = k
        · rw [e]; exact hx
        · exact hin i (by omega)
      | false =>
        rw [hx] at e2
        (conv => whnf); (repeat' ((first | refine bT ?_ | refine bF ?_ | refine bN ?_ | ((first | refine bD ?_ ?_ | refine bEq ?_ ?_ | refine bNe ?_ ?_) <;> intro hh <;> try (exfalso; omega)) | (refine iaI (by omega) (by omega) gk ?_) | (refine (e2).callq rfl rfl fun _ h => ?_; subst h) | (refine (p15).callq rfl rfl fun _ h => ?_; subst h) | refine wIn (by omega) ?_ | refine nI (by omega) ?_) <;> conv => whnf))
        all_goals rfl
    · have hke : k = l.length := by omega
      have hall : l.all w.isSp = true := by
        rw [List.all_eq_true]; intro x hx
        obtain ⟨j, hj, rfl⟩ := List.getElem_of_mem hx
        have := hin j (by omega)
        have e : l.getD j 0 = l[j] := by simp [List.getD_eq_getElem?_getD, hj]
        rwa [e] at this
      cases hA : ascB l with
      | false =>
        rw [hA] at a6
        (conv => whnf); (repeat' ((first | refine bT ?_ | refine bF ?_ | refine bN ?_ | ((first | refine bD ?_ ?_ | refine bEq ?_ ?_ | refine bNe ?_ ?_) <;> intro hh <;> try (exfalso; omega)) | (refine (a6).callq rfl rfl fun _ h => ?_; subst h) | (refine (p15).callq rfl rfl fun _ h => ?_; subst h) | refine wIn (by omega) ?_ | refine nI (by omega) ?_) <;> conv => whnf))
        all_goals rfl
      | true =>
        rw [hA] at a6
        have hli : w.isLi l = true := by unfold Shop.isLi; rw [hA, hall]; rfl
        have a8 := p48 w hB h0 l (by omega) hli
        rw [c4 l hli] at a8
        (conv => whnf); (repeat' ((first | refine bT ?_ | refine bF ?_ | refine bN ?_ | ((first | refine bD ?_ ?_ | refine bEq ?_ ?_ | refine bNe ?_ ?_) <;> intro hh <;> try (exfalso; omega)) | (refine (a6).callq rfl rfl fun _ h => ?_; subst h) | (refine (a8).callq rfl rfl fun _ h => ?_; subst h) | (refine (p15).callq rfl rfl fun _ h => ?_; subst h) | refine wIn (by omega) ?_ | refine nI (by omega) ?_) <;> conv => whnf))
        all_goals rfl
end Go.Proofs
