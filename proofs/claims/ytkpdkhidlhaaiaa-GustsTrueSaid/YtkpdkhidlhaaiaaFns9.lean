/- What each function of this program answers, proved by walking its body: further contracts that the law rests on. -/
import Derived.Test.YtkpdkhidlhaaiaaFns4
set_option linter.unusedSimpArgs false
set_option linter.unusedVariables false
set_option linter.unusedSectionVars false
namespace Go.Proofs
open Go.Eng
attribute [local irreducible] Go.Eng.brB Go.Eng.need Go.Eng.wrE Go.Eng.iaE Go.Eng.slE Go.Eng.apE Go.Eng.CallZ Go.Eng.CallE Go.Eng.VCallE Go.Eng.YldE Go.Eng.GoC Go.Eng.MeetsE Go.Eng.FnA Go.Eng.FnV Go.Eng.ItA
set_option maxRecDepth 100000

theorem tmod_up {n : Nat} (x : Int) (h : 0 < n) : (x.tmod n + n).tmod n = ar n x := by
  have h1 := Int.lt_tmod_of_pos x (show (0 : Int) < n by omega)
  rw [Int.tmod_eq_emod_of_nonneg (by omega), Int.add_emod_right]
  unfold ar
  rw [Int.tmod_def, Int.sub_mul_emod_self_left]
/-- a truth of a dome -/
structure Of (d : Dm) (t : Tr) : Prop where
  ok : t.ok
  len : t.ss.length = d.rs.length
  sh : t.sh = d.sh
theorem g20 (d : Dm) (t : Tr) (g : Gu) (i : Nat) (H : Of d t) (hg : g.ok d.rs.length) (hi : i < d.rs.length) : FnA Try.prog 20 [.agg d.cells, .agg g.av, .int .i64 t.L, .int .i64 i] (· = .int .i64 (t.ld g i)) := by
  have hl := H.ok.2.1
  have hsh := H.ok.2.2.1
  have hLn := H.len
  have hA := hg.2
  have hL : (d.rs.map s2).length = d.rs.length := by simp
  have hS : (d.sh.map i1).length = t.sh.length := by rw [H.sh]; simp
  have hp := prod_bd H.ok (n := d.rs.length) hg
  have hb := ar_bd (n := d.rs.length) (i - g.A) (by omega)
  have hs := share_bd H.ok (ar d.rs.length (i - g.A))
  have hq := hp.2 _ hs.1 hs.2
  have e1 : ((i : Int) - g.A + (d.rs.map s2).length).tmod (d.rs.map s2).length = ar d.rs.length (i - g.A) := by
    rw [hL]
    rw [Int.tmod_eq_emod_of_nonneg (by omega), Int.add_emod_right]; rfl
  have e2 : (d.sh.map i1).getD (((i : Int) - g.A + (d.rs.map s2).length).tmod (d.rs.map s2).length).toNat [] = [.int .i64 (t.share (ar d.rs.length (i - g.A)))] := by
    rw [e1, getD_mapD i1 d.sh _ 0 (by rw [← H.sh]; omega)]
    unfold Tr.share; rw [H.sh]; rfl
  have hdv := Int.tdiv_eq_ediv_of_nonneg (b := 100) hq.1
  have hld : t.ld g i = (g.F * t.L * t.share (ar d.rs.length (i - g.A))).tdiv 100 := by
    unfold Tr.ld; rw [hdv, hLn]
  have hdb : 0 ≤ (g.F * t.L * t.share (ar d.rs.length (i - g.A))).tdiv 100 ∧ (g.F * t.L * t.share (ar d.rs.length (i - g.A))).tdiv 100 ≤ 19602 := by rw [hdv]; omega
  rw [hld]
  have w1 : -9223372036854775808 ≤ ((i : Int) - g.A + (d.rs.map s2).length).tmod (d.rs.map s2).length ∧ ((i : Int) - g.A + (d.rs.map s2).length).tmod (d.rs.map s2).length ≤ 9223372036854775807 := by rw [e1]; omega
  refine fnA 2 ok20 (by simp) ?_
  (conv => whnf); (repeat' (first | (refine bT ?_; conv => whnf) | (refine bF ?_; conv => whnf) | (refine bN ?_) | (refine bD (fun hh => ?_) (fun hh => ?_) <;> first | (exfalso; omega) | (conv => whnf)) | (refine bEq (fun hh => ?_) (fun hh => ?_) <;> first | (exfalso; omega) | (conv => whnf)) | (refine bNe (fun hh => ?_) (fun hh => ?_) <;> first | (exfalso; omega) | (conv => whnf)) | (refine wIn w1 ?_; conv => whnf) | (refine iaI (by omega) (by omega) e2 ?_; conv => whnf) | (refine wIn (by omega) ?_; conv => whnf) | (refine nI (by omega) ?_; conv => whnf)))
  all_goals rfl
theorem sumr_congr {l1 l2 : Int → Int} {gs : List Bool} {n : Nat} (hn : 0 < n) (h : ∀ x : Int, 0 ≤ x → x < n → l1 x = l2 x) (i s : Int) : ∀ k j, sumr l1 gs n i s k j = sumr l2 gs n i s k j
  | 0, _ => rfl
  | k + 1, j => by
    have hb := ar_bd (n := n) (i + j * s) hn
    unfold sumr
    rw [h _ hb.1 hb.2, sumr_congr hn h i s k (j + 1)]
theorem g46 (t : Tr) (g : Gu) (gs : List Bool) (ls : List Int) (i : Nat) (s : Int) (h : t.ok) (hg : g.ok t.ss.length) (hgs : gs.length = t.ss.length) (hls : ls = (List.range t.ss.length).map fun i => t.ld g (i : Nat)) (hi : i < t.ss.length) (hs : s = -1 ∨ s = 1) : FnA Try.prog 46 [.isl (ls.map i1), .isl (gs.map b1), .int .i64 i, .int .i64 s] (· = .int .i64 (sside (t.ld g) gs t.ss.length i s)) := by
  have hl := h.2.1
  have hlen : ls.length = t.ss.length := by rw [hls]; simp
  have hL : (ls.map i1).length = t.ss.length := by rw [List.length_map, hlen]
  have hL2 : (gs.map b1).length = t.ss.length := by rw [List.length_map, hgs]
  have hld := fun i => ld_bd h hg i
  have hb := fun k j => sumr_bd hld (by omega) gs t.ss.length i s k j
  have htot := hb (t.ss.length - 1) 1
  have hss : sside (t.ld g) gs t.ss.length i s = sumr (t.ld g) gs t.ss.length i s (t.ss.length - 1) 1 := rfl
  have e19 : (19602 : Int) * ((t.ss.length - 1 : Nat) : Int) ≤ 19602 * 10 := by omega
  refine fnA 0 ok46 (by simp) ?_
  (conv => whnf); (repeat' (first | (refine bT ?_; conv => whnf) | (refine bF ?_; conv => whnf) | (refine bN ?_) | (refine bD (fun hh => ?_) (fun hh => ?_) <;> first | (exfalso; omega) | (conv => whnf)) | (refine bEq (fun hh => ?_) (fun hh => ?_) <;> first | (exfalso; omega) | (conv => whnf)) | (refine bNe (fun hh => ?_) (fun hh => ?_) <;> first | (exfalso; omega) | (conv => whnf)) | (refine wIn (by omega) ?_; conv => whnf) | (refine nI (by omega) ?_; conv => whnf)))
  refine loop_i (α := Nat × Int) (fun x => [(11, .int .i64 x.1), (10, .int .i64 x.2), (9, .int .i64 (ls.map i1).length), (3, .int .i64 s), (2, .int .i64 i), (1, .isl (gs.map b1)), (0, .isl (ls.map i1))]) (fun x => []) (fun x => 1 ≤ x.1 ∧ x.1 ≤ t.ss.length ∧ 0 ≤ x.2 ∧ x.2 + sumr (t.ld g) gs t.ss.length i s (t.ss.length - x.1) x.1 = sside (t.ld g) gs t.ss.length i s) (fun x => t.ss.length - x.1) (1, 0) (meets_id (by (repeat' apply And.intro) <;> first | rfl | exact True.intro | (intro hh; cases hh))) ⟨by simp, by simp only; omega, by simp, by simp [sside]⟩ ?_
  rintro ⟨k, x⟩ ⟨hk1, hk2, hx0, hx⟩
  simp only at hk1 hk2 hx0 hx ⊢
  have hsum := hb (t.ss.length - k) k
  conv => whnf
  refine bD (fun h3 => ?_) (fun h3 => ?_)
  · have hlt : k < t.ss.length := by omega
    obtain ⟨m, hm⟩ : ∃ m, t.ss.length - k = m + 1 := ⟨t.ss.length - k - 1, by omega⟩
    have hm2 : t.ss.length - (k + 1) = m := by omega
    have hn0 : 0 < t.ss.length := by omega
    have hp := ar_bd (n := t.ss.length) (i + k * s) hn0
    have hks : -10 ≤ (k : Int) * s ∧ (k : Int) * s ≤ 10 := by rcases hs with rfl | rfl <;> omega
    have t1 := Int.lt_tmod_of_pos ((i : Int) + k * s) (show (0 : Int) < (ls.map i1).length by omega)
    have t2 := Int.tmod_lt_of_pos ((i : Int) + k * s) (show (0 : Int) < (ls.map i1).length by omega)
    have ei : (((i : Int) + k * s).tmod (ls.map i1).length + (ls.map i1).length).tmod (ls.map i1).length = ar t.ss.length (i + k * s) := by
      rw [tmod_up _ (by omega), hL]
    have w3 : -9223372036854775808 ≤ (((i : Int) + k * s).tmod (ls.map i1).length + (ls.map i1).length).tmod (ls.map i1).length ∧ (((i : Int) + k * s).tmod (ls.map i1).length + (ls.map i1).length).tmod (ls.map i1).length ≤ 9223372036854775807 := by rw [ei]; omega
    have eg : (gs.map b1).getD ((((i : Int) + k * s).tmod (ls.map i1).length + (ls.map i1).length).tmod (ls.map i1).length).toNat [] = [.bool (gs.getD (ar t.ss.length (i + k * s)).toNat false)] := by
      rw [ei, getD_mapD b1 gs _ false (by omega)]; rfl
    have el : (ls.map i1).getD ((((i : Int) + k * s).tmod (ls.map i1).length + (ls.map i1).length).tmod (ls.map i1).length).toNat [] = [.int .i64 (t.ld g (ar t.ss.length (i + k * s)))] := by
      rw [ei, getD_mapD i1 ls _ 0 (by omega), hls]
      have : (ar t.ss.length (i + k * s)).toNat < t.ss.length := by omega
      simp only [List.getD_eq_getElem?_getD, List.getElem?_map, List.getElem?_range this, Option.map_some, Option.getD_some]
      rw [ar_nat hn0]; rfl
    have hlp := hld (ar t.ss.length (i + k * s))
    rw [hm] at hx hsum
    cases hgv : gs.getD (ar t.ss.length (i + k * s)).toNat false with
    | true =>
      rw [hgv] at eg
      rw [show sumr (t.ld g) gs t.ss.length i s (m + 1) k = t.ld g (ar t.ss.length (i + k * s)) + sumr (t.ld g) gs t.ss.length i s m (k + 1) from by rw [sumr, if_pos hgv]] at hx
      have hsum2 := hb m (k + 1)
      have hm3 : (19602 : Int) * (m : Int) ≤ 196020 := by omega
      (conv => whnf); (repeat' (first | (refine bT ?_; conv => whnf) | (refine bF ?_; conv => whnf) | (refine bN ?_) | (refine bD (fun hh => ?_) (fun hh => ?_) <;> first | (exfalso; omega) | (conv => whnf)) | (refine bEq (fun hh => ?_) (fun hh => ?_) <;> first | (exfalso; omega) | (conv => whnf)) | (refine bNe (fun hh => ?_) (fun hh => ?_) <;> first | (exfalso; omega) | (conv => whnf)) | (refine wIn w3 ?_; conv => whnf) | (refine iaI (by omega) (by omega) eg ?_; conv => whnf) | (refine iaI (by omega) (by omega) el ?_; conv => whnf) | (refine wIn (by omega) ?_; conv => whnf) | (refine nI (by omega) ?_; conv => whnf)))
      refine ⟨(k + 1, x + t.ld g (ar t.ss.length (i + k * s))), (meets_id (by (repeat' apply And.intro) <;> first | rfl | exact True.intro | (intro hh; cases hh))), ⟨by simp only; omega, by simp only; omega, by simp only; omega, by simp only; rw [hm2]; omega⟩, by simp only; omega⟩
    | false =>
      rw [hgv] at eg
      rw [sumr_none hgv] at hx
      (conv => whnf); (repeat' (first | (refine bT ?_; conv => whnf) | (refine bF ?_; conv => whnf) | (refine bN ?_) | (refine bD (fun hh => ?_) (fun hh => ?_) <;> first | (exfalso; omega) | (conv => whnf)) | (refine bEq (fun hh => ?_) (fun hh => ?_) <;> first | (exfalso; omega) | (conv => whnf)) | (refine bNe (fun hh => ?_) (fun hh => ?_) <;> first | (exfalso; omega) | (conv => whnf)) | (refine wIn w3 ?_; conv => whnf) | (refine iaI (by omega) (by omega) eg ?_; conv => whnf) | (refine wIn (by omega) ?_; conv => whnf) | (refine nI (by omega) ?_; conv => whnf)))
      all_goals (rw [← hx]; simp)
  · have : k = t.ss.length := by omega
    subst this
    rw [Nat.sub_self] at hx
    (conv => whnf); (repeat' (first | (refine bT ?_; conv => whnf) | (refine bF ?_; conv => whnf) | (refine bN ?_) | (refine bD (fun hh => ?_) (fun hh => ?_) <;> first | (exfalso; omega) | (conv => whnf)) | (refine bEq (fun hh => ?_) (fun hh => ?_) <;> first | (exfalso; omega) | (conv => whnf)) | (refine bNe (fun hh => ?_) (fun hh => ?_) <;> first | (exfalso; omega) | (conv => whnf)) | (refine wIn (by omega) ?_; conv => whnf) | (refine nI (by omega) ?_; conv => whnf)))
    all_goals (rw [← hx]; simp [sumr])

/-- the first k are of b, the others of a -/
def mix {α : Type} (n : Nat) (a b : Nat → α) (k : Nat) : List α := (List.range n).map fun i => if i < k then b i else a i
theorem mix_len {α : Type} (n : Nat) (a b : Nat → α) (k : Nat) : (mix n a b k).length = n := by simp [mix]
theorem mix_zero {α : Type} (n : Nat) (a b : Nat → α) : mix n a b 0 = (List.range n).map a := by simp [mix]
theorem mix_full {α : Type} (n : Nat) (a b : Nat → α) : mix n a b n = (List.range n).map b := by
  unfold mix; refine List.map_congr_left fun i hi => ?_
  rw [if_pos (by simpa using hi)]
theorem mix_succ {α : Type} (n : Nat) (a b : Nat → α) (k : Nat) : mix n a b (k + 1) = (mix n a b k).set k (b k) := by
  refine List.ext_getElem (by simp [mix]) fun i h1 h2 => ?_
  rw [List.getElem_set]
  by_cases e : k = i
  · subst e; rw [if_pos rfl]; simp [mix]
  · rw [if_neg e]
    have : (i < k + 1) ↔ i < k := by omega
    simp only [mix, List.getElem_map, List.getElem_range, this]
theorem mix_same {α : Type} (n : Nat) (a b : Nat → α) (k : Nat) (h : a k = b k) : mix n a b (k + 1) = mix n a b k := by
  unfold mix; refine List.map_congr_left fun i _ => ?_
  by_cases e : i = k
  · subst e; simp [h]
  · have : (i < k + 1) ↔ i < k := by omega
    simp only [this]
theorem mix_get {α : Type} (n : Nat) (a b : Nat → α) (k : Nat) (z : α) {i : Nat} (hi : i < n) : (mix n a b k).getD i z = if i < k then b i else a i := by
  simp [mix, List.getD_eq_getElem?_getD, hi]
theorem map_getD {α : Type} (l : List α) (z : α) : l = (List.range l.length).map fun i => l.getD i z := by
  refine List.ext_getElem (by simp) fun i h1 h2 => ?_
  simp [List.getD_eq_getElem?_getD, h1]
/-- in which round each goes, so far -/
def Tr.out (t : Tr) (g : Gu) : Nat → List Int
  | 0 => List.replicate t.ss.length 0
  | r + 1 => (List.range t.ss.length).map fun i => if t.cond g (t.G g r) i then ((r + 1 : Nat) : Int) else (t.out g r).getD i 0
theorem out_len (t : Tr) (g : Gu) : ∀ r, (t.out g r).length = t.ss.length
  | 0 => by simp [Tr.out]
  | r + 1 => by simp [Tr.out]
def Tr.lds (t : Tr) (g : Gu) : List Int := (List.range t.ss.length).map fun i => t.ld g (i : Nat)
def Tr.tc (t : Tr) : List AV := [.int .i64 t.L, .isl (t.ss.map i1)]
theorem lds_len (t : Tr) (g : Gu) : (t.lds g).length = t.ss.length := by simp [Tr.lds]
theorem lds_get {t : Tr} {g : Gu} {i : Nat} (h : i < t.ss.length) : (t.lds g).getD i 0 = t.ld g i := by simp [Tr.lds, List.getD_eq_getElem?_getD, h]
set_option maxHeartbeats 4000000 in
theorem g19 (d : Dm) (t : Tr) (g : Gu) (H : Of d t) (hg : g.ok d.rs.length) : FnO Try.prog 19 [.agg d.cells, .agg g.av, .agg t.tc] (fun r rows => r = .row 5 ∧ rows = [(5, .row false 3 1 ((t.out g t.ss.length).map i1))]) := by
  have hl := H.ok.2.1
  have hLn := H.len
  have hgt : g.ok t.ss.length := by rw [hLn]; exact hg
  have hL : (d.rs.map s2).length = t.ss.length := by rw [hLn]; simp
  have hLs : (t.ss.map i1).length = t.ss.length := by simp
  have hld := fun i => ld_bd H.ok (n := d.rs.length) hg i
  refine fnO 8 ok19 (by simp) ?_
  (conv => whnf); (repeat' (first | (refine bT ?_; conv => whnf) | (refine bF ?_; conv => whnf) | (refine bN ?_) | (refine bD (fun hh => ?_) (fun hh => ?_) <;> first | (exfalso; omega) | (conv => whnf)) | (refine bEq (fun hh => ?_) (fun hh => ?_) <;> first | (exfalso; omega) | (conv => whnf)) | (refine bNe (fun hh => ?_) (fun hh => ?_) <;> first | (exfalso; omega) | (conv => whnf)) | (refine mkI (by omega) (by omega) (by omega) ?_; conv => whnf) | (refine wIn (by omega) ?_; conv => whnf) | (refine nI (by omega) ?_; conv => whnf)))
  refine loop_i (α := Nat) (fun k => [(11, .int .i64 k), (10, .row 5), (9, .row 4), (8, .row 3), (7, .int .i64 (d.rs.map s2).length), (5, .own 2 0), (4, .own 1 0), (3, .own 0 0)]) (fun k => [.box false d.cells, .box false g.av, .box false t.tc, .row false 3 1 ((mix t.ss.length (fun _ => 0) (fun i => t.ld g (i : Nat)) k).map i1), .row false 4 1 ((t.G g 0).map b1), .row false 3 1 ((t.out g 0).map i1), .fresh, .fresh]) (fun k => k ≤ t.ss.length) (fun k => t.ss.length - k) 0 ?_ (by omega) ?_
  · have e1 : (mix t.ss.length (fun _ => 0) (fun i => t.ld g (i : Nat)) 0).map i1 = List.replicate ((d.rs.map s2).length : Int).toNat [.int .i64 0] := by
      rw [mix_zero, hL]; refine List.ext_getElem (by simp) fun i h1 h2 => ?_; simp [i1]
    have e2 : (t.G g 0).map b1 = List.replicate ((d.rs.map s2).length : Int).toNat [.bool false] := by rw [hL]; simp [Tr.G, b1]
    have e3 : (t.out g 0).map i1 = List.replicate ((d.rs.map s2).length : Int).toNat [.int .i64 0] := by rw [hL]; simp [Tr.out, i1]
    rw [e1, e2, e3]; exact (meets_id (by (repeat' apply And.intro) <;> first | rfl | exact True.intro | (intro hh; cases hh)))
  intro k hk
  conv => whnf
  refine bD (fun h3 => ?_) (fun h3 => ?_)
  · have hlt : k < t.ss.length := by omega
    have hmx : ((mix t.ss.length (fun _ => 0) (fun i => t.ld g (i : Nat)) k).map i1).length = t.ss.length := by rw [List.length_map, mix_len]
    have em : ((mix t.ss.length (fun _ => (0 : Int)) (fun i => t.ld g (i : Nat)) k).map i1).getD (k : Int).toNat [] = [.int .i64 0] := by
      rw [Int.toNat_natCast, getD_mapD i1 _ k 0 (by rw [mix_len]; exact hlt), mix_get _ _ _ _ _ hlt, if_neg (by omega)]; rfl
    (conv => whnf); (repeat' (first | (refine bT ?_; conv => whnf) | (refine bF ?_; conv => whnf) | (refine bN ?_) | (refine bD (fun hh => ?_) (fun hh => ?_) <;> first | (exfalso; omega) | (conv => whnf)) | (refine bEq (fun hh => ?_) (fun hh => ?_) <;> first | (exfalso; omega) | (conv => whnf)) | (refine bNe (fun hh => ?_) (fun hh => ?_) <;> first | (exfalso; omega) | (conv => whnf)) | (refine (g20 d t g k H hg (by omega)).callq rfl rfl (fun r (hr : r = _) => ?_); subst hr; conv => whnf) | (refine iaI (by omega) (by omega) em ?_; conv => whnf) | (refine wIn (by omega) ?_; conv => whnf) | (refine nI (by omega) ?_; conv => whnf)))
    refine ⟨k + 1, ?_, by omega, by omega⟩
    rw [mix_succ, List.map_set]
    simp only [Int.natCast_add, Int.natCast_one]
    exact (meets_id (by (repeat' apply And.intro) <;> first | rfl | exact True.intro | (intro hh; cases hh)))
  · have : k = t.ss.length := by omega
    subst this
    rw [mix_full]
    conv => whnf
    refine loop_i (α := Nat) (fun r => [(12, .int .i64 (r + 1 : Nat)), (10, .row 5), (9, .row 4), (8, .row 3), (7, .int .i64 (d.rs.map s2).length), (5, .own 2 0), (4, .own 1 0), (3, .own 0 0)]) (fun r => [.box false d.cells, .box false g.av, .box false t.tc, .row false 3 1 ((t.lds g).map i1), .row false 4 1 ((t.G g r).map b1), .row false 3 1 ((t.out g r).map i1), .fresh, .fresh]) (fun r => r ≤ t.ss.length) (fun r => t.ss.length - r) 0 (meets_id (by (repeat' apply And.intro) <;> first | rfl | exact True.intro | (intro hh; cases hh))) (by omega) ?_
    intro r hr
    have hG := G_len t g r
    have hG1 := G_len t g (r + 1)
    have hO := out_len t g r
    have hO1 := out_len t g (r + 1)
    have hGm : ((t.G g r).map b1).length = (t.G g r).length := by simp
    conv => whnf
    refine bD (fun h4 => ?_) (fun h4 => ?_)
    · have hrn : r < t.ss.length := by omega
      (conv => whnf); (repeat' (first | (refine bT ?_; conv => whnf) | (refine bF ?_; conv => whnf) | (refine bN ?_) | (refine bD (fun hh => ?_) (fun hh => ?_) <;> first | (exfalso; omega) | (conv => whnf)) | (refine bEq (fun hh => ?_) (fun hh => ?_) <;> first | (exfalso; omega) | (conv => whnf)) | (refine bNe (fun hh => ?_) (fun hh => ?_) <;> first | (exfalso; omega) | (conv => whnf)) | (refine wIn (by omega) ?_; conv => whnf) | (refine nI (by omega) ?_; conv => whnf)))
      refine apI (fun e he => ?_) (by simp; omega) ?_
      · obtain ⟨s, _, rfl⟩ := List.mem_map.1 he; exact ⟨rfl, rfl⟩
      (conv => whnf); (repeat' (first | (refine bT ?_; conv => whnf) | (refine bF ?_; conv => whnf) | (refine bN ?_) | (refine bD (fun hh => ?_) (fun hh => ?_) <;> first | (exfalso; omega) | (conv => whnf)) | (refine bEq (fun hh => ?_) (fun hh => ?_) <;> first | (exfalso; omega) | (conv => whnf)) | (refine bNe (fun hh => ?_) (fun hh => ?_) <;> first | (exfalso; omega) | (conv => whnf)) | (refine wIn (by omega) ?_; conv => whnf) | (refine nI (by omega) ?_; conv => whnf)))
      refine loop_i (α := Nat) (fun k => [(14, .int .i64 k), (13, .row 7), (12, .int .i64 (r + 1 : Nat)), (10, .row 5), (9, .row 4), (8, .row 3), (7, .int .i64 (d.rs.map s2).length), (5, .own 2 0), (4, .own 1 0), (3, .own 0 0)]) (fun k => [.box false d.cells, .box false g.av, .box false t.tc, .row false 3 1 ((t.lds g).map i1), .row false 4 1 ((t.G g r).map b1), .row false 3 1 ((mix t.ss.length (fun i => (t.out g r).getD i 0) (fun i => (t.out g (r + 1)).getD i 0) k).map i1), .fresh, .row false 4 1 ((mix t.ss.length (fun i => (t.G g r).getD i false) (fun i => (t.G g (r + 1)).getD i false) k).map b1)]) (fun k => k ≤ t.ss.length) (fun k => t.ss.length - k) 0 ?_ (by omega) ?_
      · have e1 : (mix t.ss.length (fun i => (t.out g r).getD i 0) (fun i => (t.out g (r + 1)).getD i 0) 0).map i1 = (t.out g r).map i1 := by
          rw [mix_zero, ← hO, ← map_getD]
        have e2 : (mix t.ss.length (fun i => (t.G g r).getD i false) (fun i => (t.G g (r + 1)).getD i false) 0).map b1 = [] ++ (t.G g r).map b1 := by
          rw [mix_zero, ← hG, ← map_getD]; rfl
        rw [e1, e2]; exact (meets_id (by (repeat' apply And.intro) <;> first | rfl | exact True.intro | (intro hh; cases hh)))
      intro k hk
      conv => whnf
      refine bD (fun h5 => ?_) (fun h5 => ?_)
      · have hlt : k < t.ss.length := by omega
        have eg : ((t.G g r).map b1).getD (k : Int).toNat [] = [.bool ((t.G g r).getD k false)] := by
          rw [Int.toNat_natCast, getD_mapD b1 _ k false (by omega)]; rfl
        have hb1 : (t.G g (r + 1)).getD k false = ((t.G g r).getD k false || t.cond g (t.G g r) k) := G_succ t g r k hlt
        have ho1 : (t.out g (r + 1)).getD k 0 = if t.cond g (t.G g r) k then ((r + 1 : Nat) : Int) else (t.out g r).getD k 0 := by
          simp [Tr.out, List.getD_eq_getElem?_getD, hlt]
        cases hgk : (t.G g r).getD k false with
        | true =>
          have hcn : t.cond g (t.G g r) k = false := by unfold Tr.cond; rw [hgk]; rfl
          rw [hgk] at eg
          (conv => whnf); (repeat' (first | (refine bT ?_; conv => whnf) | (refine bF ?_; conv => whnf) | (refine bN ?_) | (refine bD (fun hh => ?_) (fun hh => ?_) <;> first | (exfalso; omega) | (conv => whnf)) | (refine bEq (fun hh => ?_) (fun hh => ?_) <;> first | (exfalso; omega) | (conv => whnf)) | (refine bNe (fun hh => ?_) (fun hh => ?_) <;> first | (exfalso; omega) | (conv => whnf)) | (refine iaI (by omega) (by omega) eg ?_; conv => whnf) | (refine wIn (by omega) ?_; conv => whnf) | (refine nI (by omega) ?_; conv => whnf)))
          refine ⟨k + 1, ?_, by omega, by omega⟩
          rw [mix_same _ _ _ k (by show (t.out g r).getD k 0 = _; rw [ho1, hcn]; rfl), mix_same _ _ _ k (by show (t.G g r).getD k false = _; rw [hb1, hcn, hgk]; rfl)]
          simp only [Int.natCast_add, Int.natCast_one]
          exact (meets_id (by (repeat' apply And.intro) <;> first | rfl | exact True.intro | (intro hh; cases hh)))
        | false =>
          rw [hgk] at eg
          have el : ((t.lds g).map i1).getD (k : Int).toNat [] = [.int .i64 (t.ld g k)] := by
            rw [Int.toNat_natCast, getD_mapD i1 _ k 0 (by rw [lds_len]; exact hlt), lds_get hlt]; rfl
          have hLl : ((t.lds g).map i1).length = t.ss.length := by rw [List.length_map, lds_len]
          have es : (t.ss.map i1).getD (k : Int).toNat [] = [.int .i64 (t.ss.getD k 0)] := by
            rw [Int.toNat_natCast, getD_mapD i1 _ k 0 hlt]; rfl
          have ca := g46 t g (t.G g r) (t.lds g) k (-1) H.ok hgt hG rfl hlt (.inl rfl)
          have cb := g46 t g (t.G g r) (t.lds g) k 1 H.ok hgt hG rfl hlt (.inr rfl)
          have hlk := hld k
          have bd : ∀ s : Int, 0 ≤ (sside (t.ld g) (t.G g r) t.ss.length k s).tdiv 2 ∧ (sside (t.ld g) (t.G g r) t.ss.length k s).tdiv 2 ≤ 98010 ∧ (sside (t.ld g) (t.G g r) t.ss.length k s).tdiv 2 = sside (t.ld g) (t.G g r) t.ss.length k s / 2 := fun s => by
            have h1 := sumr_bd hld (by omega) (t.G g r) t.ss.length k s (t.ss.length - 1) 1
            have h2 : (19602 : Int) * ((t.ss.length - 1 : Nat) : Int) ≤ 19602 * 10 := by omega
            have h3 : 0 ≤ sside (t.ld g) (t.G g r) t.ss.length k s ∧ sside (t.ld g) (t.G g r) t.ss.length k s ≤ 196020 := by unfold sside; omega
            rw [Int.tdiv_eq_ediv_of_nonneg h3.1]; omega
          have ba := bd (-1)
          have bb := bd 1
          have hcond : t.cond g (t.G g r) k = decide (t.ss.getD k 0 < t.ld g k + (sside (t.ld g) (t.G g r) t.ss.length k (-1)).tdiv 2 + (sside (t.ld g) (t.G g r) t.ss.length k 1).tdiv 2) := by
            unfold Tr.cond hand
            rw [hgk, ba.2.2, bb.2.2, Int.add_assoc]; rfl
          have e7 : ((mix t.ss.length (fun i => (t.G g r).getD i false) (fun i => (t.G g (r + 1)).getD i false) k).map b1).getD (k : Int).toNat [] = [.bool false] := by
            rw [Int.toNat_natCast, getD_mapD b1 _ k false (by rw [mix_len]; exact hlt), mix_get _ _ _ _ _ hlt, if_neg (by omega), hgk]; rfl
          have e5 : ((mix t.ss.length (fun i => (t.out g r).getD i 0) (fun i => (t.out g (r + 1)).getD i 0) k).map i1).getD (k : Int).toNat [] = [.int .i64 ((t.out g r).getD k 0)] := by
            rw [Int.toNat_natCast, getD_mapD i1 _ k 0 (by rw [mix_len]; exact hlt), mix_get _ _ _ _ _ hlt, if_neg (by omega)]; rfl
          have l7 : ((mix t.ss.length (fun i => (t.G g r).getD i false) (fun i => (t.G g (r + 1)).getD i false) k).map b1).length = t.ss.length := by rw [List.length_map, mix_len]
          have l5 : ((mix t.ss.length (fun i => (t.out g r).getD i 0) (fun i => (t.out g (r + 1)).getD i 0) k).map i1).length = t.ss.length := by rw [List.length_map, mix_len]
          by_cases hc : t.ss.getD k 0 < t.ld g k + (sside (t.ld g) (t.G g r) t.ss.length k (-1)).tdiv 2 + (sside (t.ld g) (t.G g r) t.ss.length k 1).tdiv 2
          · rw [decide_eq_true hc] at hcond
            (conv => whnf); (repeat' (first | (refine bT ?_; conv => whnf) | (refine bF ?_; conv => whnf) | (refine bN ?_) | (refine bD (fun hh => ?_) (fun hh => ?_) <;> first | (exfalso; omega) | (conv => whnf)) | (refine bEq (fun hh => ?_) (fun hh => ?_) <;> first | (exfalso; omega) | (conv => whnf)) | (refine bNe (fun hh => ?_) (fun hh => ?_) <;> first | (exfalso; omega) | (conv => whnf)) | (refine iaI (by omega) (by omega) eg ?_; conv => whnf) | (refine iaI (by omega) (by omega) el ?_; conv => whnf) | (refine iaI (by omega) (by omega) es ?_; conv => whnf) | (refine iaI (by omega) (by omega) e7 ?_; conv => whnf) | (refine iaI (by omega) (by omega) e5 ?_; conv => whnf) | (refine (ca).lendq rfl (fun r (hr : r = _) => ?_); subst hr; refine ⟨rfl, ?_⟩; conv => whnf) | (refine (cb).lendq rfl (fun r (hr : r = _) => ?_); subst hr; refine ⟨rfl, ?_⟩; conv => whnf) | (refine wIn (by omega) ?_; conv => whnf) | (refine nI (by omega) ?_; conv => whnf)))
            refine ⟨k + 1, ?_, by omega, by omega⟩
            rw [mix_succ, mix_succ, List.map_set, List.map_set, hb1, ho1, hcond, hgk]
            simp only [Int.natCast_add, Int.natCast_one]
            exact (meets_id (by (repeat' apply And.intro) <;> first | rfl | exact True.intro | (intro hh; cases hh)))
          · rw [decide_eq_false hc] at hcond
            (conv => whnf); (repeat' (first | (refine bT ?_; conv => whnf) | (refine bF ?_; conv => whnf) | (refine bN ?_) | (refine bD (fun hh => ?_) (fun hh => ?_) <;> first | (exfalso; omega) | (conv => whnf)) | (refine bEq (fun hh => ?_) (fun hh => ?_) <;> first | (exfalso; omega) | (conv => whnf)) | (refine bNe (fun hh => ?_) (fun hh => ?_) <;> first | (exfalso; omega) | (conv => whnf)) | (refine iaI (by omega) (by omega) eg ?_; conv => whnf) | (refine iaI (by omega) (by omega) el ?_; conv => whnf) | (refine iaI (by omega) (by omega) es ?_; conv => whnf) | (refine (ca).lendq rfl (fun r (hr : r = _) => ?_); subst hr; refine ⟨rfl, ?_⟩; conv => whnf) | (refine (cb).lendq rfl (fun r (hr : r = _) => ?_); subst hr; refine ⟨rfl, ?_⟩; conv => whnf) | (refine wIn (by omega) ?_; conv => whnf) | (refine nI (by omega) ?_; conv => whnf)))
            refine ⟨k + 1, ?_, by omega, by omega⟩
            rw [mix_same _ _ _ k (by show (t.out g r).getD k 0 = _; rw [ho1, hcond]; rfl), mix_same _ _ _ k (by show (t.G g r).getD k false = _; rw [hb1, hcond, hgk]; rfl)]
            simp only [Int.natCast_add, Int.natCast_one]
            exact (meets_id (by (repeat' apply And.intro) <;> first | rfl | exact True.intro | (intro hh; cases hh)))
      · have : k = t.ss.length := by omega
        subst this
        rw [mix_full, mix_full]
        have e1 : (List.range t.ss.length).map (fun i => (t.out g (r + 1)).getD i 0) = t.out g (r + 1) := by
          have := map_getD (t.out g (r + 1)) 0
          rw [hO1] at this; exact this.symm
        have e2 : (List.range t.ss.length).map (fun i => (t.G g (r + 1)).getD i false) = t.G g (r + 1) := by
          have := map_getD (t.G g (r + 1)) false
          rw [hG1] at this; exact this.symm
        rw [e1, e2]
        (conv => whnf); (repeat' (first | (refine bT ?_; conv => whnf) | (refine bF ?_; conv => whnf) | (refine bN ?_) | (refine bD (fun hh => ?_) (fun hh => ?_) <;> first | (exfalso; omega) | (conv => whnf)) | (refine bEq (fun hh => ?_) (fun hh => ?_) <;> first | (exfalso; omega) | (conv => whnf)) | (refine bNe (fun hh => ?_) (fun hh => ?_) <;> first | (exfalso; omega) | (conv => whnf)) | (refine wIn (by omega) ?_; conv => whnf) | (refine nI (by omega) ?_; conv => whnf)))
        refine ⟨r + 1, ?_, by omega, by omega⟩
        simp only [Int.natCast_add, Int.natCast_one]
        exact (meets_ren 4 7 (by (repeat' apply And.intro) <;> first | rfl | exact True.intro | (intro hh; cases hh)))
    · have : r = t.ss.length := by omega
      subst this
      (conv => whnf); (repeat' (first | (refine bT ?_; conv => whnf) | (refine bF ?_; conv => whnf) | (refine bN ?_) | (refine bD (fun hh => ?_) (fun hh => ?_) <;> first | (exfalso; omega) | (conv => whnf)) | (refine bEq (fun hh => ?_) (fun hh => ?_) <;> first | (exfalso; omega) | (conv => whnf)) | (refine bNe (fun hh => ?_) (fun hh => ?_) <;> first | (exfalso; omega) | (conv => whnf)) | (refine wIn (by omega) ?_; conv => whnf) | (refine nI (by omega) ?_; conv => whnf)))
      all_goals exact ⟨rfl, rfl⟩

theorem g_ex {t : Tr} {g : Gu} (h0 : ∀ i, 0 ≤ t.ld g i) {i : Nat} : i ∈ t.gone g ↔ ∃ r, (t.G g r).getD i false = true :=
  ⟨fun h => ⟨_, (gone_mem.1 h).2⟩, fun ⟨r, h⟩ => gone_mem.2 ⟨G_in t g r i h, G_mono ⟨rfl, fun _ => Int.le_refl _, h0, fun _ => Int.le_refl _⟩ r i h⟩⟩
theorem out_succ (t : Tr) (g : Gu) (r i : Nat) (hi : i < t.ss.length) : (t.out g (r + 1)).getD i 0 = if t.cond g (t.G g r) i then ((r + 1 : Nat) : Int) else (t.out g r).getD i 0 := by
  simp [Tr.out, List.getD_eq_getElem?_getD, hi]
theorem out_pos (t : Tr) (g : Gu) {i : Nat} (hi : i < t.ss.length) : ∀ r, (0 ≤ (t.out g r).getD i 0 ∧ (t.out g r).getD i 0 ≤ r) ∧ (1 ≤ (t.out g r).getD i 0 ↔ (t.G g r).getD i false = true)
  | 0 => by
    have : (t.out g 0).getD i 0 = 0 := by simp [Tr.out, List.getD_eq_getElem?_getD, hi]
    rw [this, G0]; simp
  | r + 1 => by
    have ih := out_pos t g hi r
    rw [out_succ t g r i hi, G_succ t g r i hi]
    cases t.cond g (t.G g r) i
    · simp only [Bool.false_eq_true, if_false, Bool.or_false]
      refine ⟨by omega, ih.2⟩
    · simp only [if_true, Bool.or_true, iff_true]; omega
theorem out_one (t : Tr) (g : Gu) {i : Nat} (hi : i < t.ss.length) : ∀ r, ((t.out g (r + 1)).getD i 0 = 1 ↔ t.tw g i = true)
  | 0 => by
    rw [out_succ t g 0 i hi, cond0]
    have : (t.out g 0).getD i 0 = 0 := by simp [Tr.out, List.getD_eq_getElem?_getD, hi]
    rw [this]
    cases t.tw g i <;> simp
  | r + 1 => by
    rw [out_succ t g (r + 1) i hi]
    cases hc : t.cond g (t.G g (r + 1)) i
    · simp only [Bool.false_eq_true, if_false]; exact out_one t g hi r
    · simp only [if_true]
      refine ⟨fun h => by omega, fun h => ?_⟩
      have h1 : (t.G g 1).getD i false = true := by rw [G_succ t g 0 i hi, cond0, h]; simp
      have h2 := G_le t g i 1 r h1
      rw [Nat.add_comm 1 r] at h2
      rw [cond_new hc] at h2; cases h2
theorem out_gone {t : Tr} {g : Gu} (h0 : ∀ i, 0 ≤ t.ld g i) {i : Nat} (hi : i < t.ss.length) : 1 ≤ (t.out g t.ss.length).getD i 0 ↔ i ∈ t.gone g := by
  rw [(out_pos t g hi _).2, g_ex h0]
  refine ⟨fun h => ⟨_, h⟩, fun h => ?_⟩
  have h1 := (gone_mem.1 ((g_ex h0).2 h)).2
  have h2 := G_le t g i (t.K g) (t.ss.length - t.K g) h1
  have h3 := (K_ok t g).2.2
  rwa [show t.K g + (t.ss.length - t.K g) = t.ss.length from by omega] at h2
def wnt (o : List Int) (m : Int) : List Nat := lst o.length fun i => decide (1 ≤ o.getD i 0 ∧ o.getD i 0 ≤ m)
theorem wnt_gone {t : Tr} {g : Gu} (h0 : ∀ i, 0 ≤ t.ld g i) : wnt (t.out g t.ss.length) t.ss.length = t.gone g := by
  unfold wnt Tr.gone lst
  rw [out_len]
  refine List.filter_congr fun i hi => ?_
  have hi' : i < t.ss.length := by simpa using hi
  have h1 := out_gone h0 hi'
  have h2 := (out_pos t g hi' t.ss.length).1
  rw [gone_mem] at h1
  rw [Bool.eq_iff_iff]
  simp only [decide_eq_true_eq]
  exact ⟨fun h => (h1.1 h.1).2, fun h => ⟨h1.2 ⟨hi', h⟩, h2.2⟩⟩
theorem g47 (o : List Int) (m : Int) (hn : o.length ≤ 1000) : FnO Try.prog 47 [.isl (o.map i1), .int .i64 m] (fun r rows => r = .row 2 ∧ rows = [(2, .row false 3 1 ((wnt o m).map n1))]) := by
  have hL : (o.map i1).length = o.length := by simp
  refine fnO 3 ok47 (by simp) ?_
  conv => whnf
  refine loop_i (α := Nat) (fun k => [(6, .int .i64 k), (5, .row 2), (1, .int .i64 m), (0, .isl (o.map i1))]) (fun k => [.fresh, .fresh, .row false 3 1 ((lst k fun i => decide (1 ≤ o.getD i 0 ∧ o.getD i 0 ≤ m)).map n1)]) (fun k => k ≤ o.length) (fun k => o.length - k) 0 (meets_nil 2 (by (repeat' apply And.intro) <;> first | rfl | exact True.intro | (intro hh; cases hh))) (by omega) ?_
  intro k hk
  conv => whnf
  refine bD (fun h3 => ?_) (fun h3 => ?_)
  · have hlt : k < o.length := by omega
    have hs := lst_succ k fun i => decide (1 ≤ o.getD i 0 ∧ o.getD i 0 ≤ m)
    have hlen := lst_le k fun i => decide (1 ≤ o.getD i 0 ∧ o.getD i 0 ≤ m)
    have eo : (o.map i1).getD (k : Int).toNat [] = [.int .i64 (o.getD k 0)] := by
      rw [Int.toNat_natCast, getD_mapD i1 o k 0 hlt]; rfl
    have c := g34 (o.getD k 0) 1 m
    by_cases hc : 1 ≤ o.getD k 0 ∧ o.getD k 0 ≤ m
    · rw [decide_eq_true hc] at c
      rw [if_pos (decide_eq_true hc)] at hs
      (conv => whnf); (repeat' (first | (refine bT ?_; conv => whnf) | (refine bF ?_; conv => whnf) | (refine bN ?_) | (refine bD (fun hh => ?_) (fun hh => ?_) <;> first | (exfalso; omega) | (conv => whnf)) | (refine bEq (fun hh => ?_) (fun hh => ?_) <;> first | (exfalso; omega) | (conv => whnf)) | (refine bNe (fun hh => ?_) (fun hh => ?_) <;> first | (exfalso; omega) | (conv => whnf)) | (refine iaI (by omega) (by omega) eo ?_; conv => whnf) | (refine (c).callq rfl rfl (fun r (hr : r = _) => ?_); subst hr; conv => whnf) | (refine wIn (by omega) ?_; conv => whnf) | (refine nI (by omega) ?_; conv => whnf)))
      refine apI (by simp [AV.one]) (by rw [List.length_map]; simp only [List.length_cons, List.length_nil]; omega) ?_
      (conv => whnf); (repeat' (first | (refine bT ?_; conv => whnf) | (refine bF ?_; conv => whnf) | (refine bN ?_) | (refine bD (fun hh => ?_) (fun hh => ?_) <;> first | (exfalso; omega) | (conv => whnf)) | (refine bEq (fun hh => ?_) (fun hh => ?_) <;> first | (exfalso; omega) | (conv => whnf)) | (refine bNe (fun hh => ?_) (fun hh => ?_) <;> first | (exfalso; omega) | (conv => whnf)) | (refine wIn (by omega) ?_; conv => whnf) | (refine nI (by omega) ?_; conv => whnf)))
      refine ⟨k + 1, ?_, by omega, by omega⟩
      have e : (lst (k + 1) fun i => decide (1 ≤ o.getD i 0 ∧ o.getD i 0 ≤ m)).map n1 = (lst k fun i => decide (1 ≤ o.getD i 0 ∧ o.getD i 0 ≤ m)).map n1 ++ [[.int .i64 k]] := by rw [hs]; simp [n1]
      rw [e]
      simp only [Int.natCast_add, Int.natCast_one]
      exact (meets_ren 2 1 (by (repeat' apply And.intro) <;> first | rfl | exact True.intro | (intro hh; cases hh)))
    · rw [decide_eq_false hc] at c
      rw [if_neg (by rw [decide_eq_false hc]; simp)] at hs
      (conv => whnf); (repeat' (first | (refine bT ?_; conv => whnf) | (refine bF ?_; conv => whnf) | (refine bN ?_) | (refine bD (fun hh => ?_) (fun hh => ?_) <;> first | (exfalso; omega) | (conv => whnf)) | (refine bEq (fun hh => ?_) (fun hh => ?_) <;> first | (exfalso; omega) | (conv => whnf)) | (refine bNe (fun hh => ?_) (fun hh => ?_) <;> first | (exfalso; omega) | (conv => whnf)) | (refine iaI (by omega) (by omega) eo ?_; conv => whnf) | (refine (c).callq rfl rfl (fun r (hr : r = _) => ?_); subst hr; conv => whnf) | (refine wIn (by omega) ?_; conv => whnf) | (refine nI (by omega) ?_; conv => whnf)))
      refine ⟨k + 1, ?_, by omega, by omega⟩
      rw [hs]
      simp only [Int.natCast_add, Int.natCast_one]
      exact (meets_id (by (repeat' apply And.intro) <;> first | rfl | exact True.intro | (intro hh; cases hh)))
  · have : k = o.length := by omega
    subst this
    (conv => whnf); (repeat' (first | (refine bT ?_; conv => whnf) | (refine bF ?_; conv => whnf) | (refine bN ?_) | (refine bD (fun hh => ?_) (fun hh => ?_) <;> first | (exfalso; omega) | (conv => whnf)) | (refine bEq (fun hh => ?_) (fun hh => ?_) <;> first | (exfalso; omega) | (conv => whnf)) | (refine bNe (fun hh => ?_) (fun hh => ?_) <;> first | (exfalso; omega) | (conv => whnf)) | (refine wIn (by omega) ?_; conv => whnf) | (refine nI (by omega) ?_; conv => whnf)))
    all_goals exact ⟨rfl, rfl⟩
theorem g22 (d : Dm) (t : Tr) (l : List Gu) (H : Of d t) (hl : l.length ≤ 1000) (hg : ∀ g ∈ l, g.ok d.rs.length) : FnA Try.prog 22 [.agg d.cells, .isl (l.map Gu.av), .agg t.tc] (· = .bool (t.stands l)) := by
  have hL : (l.map Gu.av).length = l.length := by simp
  have hR : (d.rs.map s2).length = t.ss.length := by rw [H.len]; simp
  have hn := H.ok.2.1
  refine fnA 4 ok22 (by simp) ?_
  conv => whnf
  refine loop_i (α := Nat) (fun k => [(7, .int .i64 k), (5, .own 1 0), (3, .own 0 0), (1, .isl (l.map Gu.av))]) (fun k => [.box false d.cells, .box false t.tc, .fresh, .fresh]) (fun k => k ≤ l.length ∧ ∀ g ∈ l.take k, (t.weak g).isEmpty = true) (fun k => l.length - k) 0 (meets_id (by (repeat' apply And.intro) <;> first | rfl | exact True.intro | (intro hh; cases hh))) ⟨by omega, by simp⟩ ?_
  rintro k ⟨hk, hp⟩
  conv => whnf
  refine bD (fun h3 => ?_) (fun h3 => ?_)
  · have hlt : k < l.length := by omega
    have hgk := hg l[k] (List.getElem_mem hlt)
    have h0 : ∀ i, 0 ≤ t.ld l[k] i := fun i => (ld_bd H.ok (n := d.rs.length) hgk i).1
    have c47 := g47 (t.out l[k] t.ss.length) t.ss.length (by rw [out_len]; omega)
    rw [wnt_gone h0, ← hR] at c47
    have c19 := g19 d t l[k] H hgk
    rw [← hR] at c19
    have hlg : ((t.gone l[k]).map n1).length = (t.gone l[k]).length := by simp
    cases hw : (t.weak l[k]).isEmpty with
    | true =>
      have hge : t.gone l[k] = [] := weak_nil (by simpa using hw)
      rw [hge] at c47
      (conv => whnf); (repeat' (first | (refine bT ?_; conv => whnf) | (refine bF ?_; conv => whnf) | (refine bN ?_) | (refine bD (fun hh => ?_) (fun hh => ?_) <;> first | (exfalso; omega) | (conv => whnf)) | (refine bEq (fun hh => ?_) (fun hh => ?_) <;> first | (exfalso; omega) | (conv => whnf)) | (refine bNe (fun hh => ?_) (fun hh => ?_) <;> first | (exfalso; omega) | (conv => whnf)) | (refine iaI (by omega) (by omega) (getD_map Gu.av l k hlt) ?_; conv => whnf) | (refine (c19).callzq rfl rfl (fun r rows (hr : r = _ ∧ rows = _) => ?_); obtain ⟨hr1, hr2⟩ := hr; subst hr1; subst hr2; refine ⟨rfl, ?_⟩; conv => whnf) | (refine (c47).callzq rfl rfl (fun r rows (hr : r = _ ∧ rows = _) => ?_); obtain ⟨hr1, hr2⟩ := hr; subst hr1; subst hr2; refine ⟨rfl, ?_⟩; conv => whnf) | (refine wIn (by omega) ?_; conv => whnf) | (refine nI (by omega) ?_; conv => whnf)))
      refine ⟨k + 1, ?_, ⟨by omega, gtake_all (p := fun g => (t.weak g).isEmpty) hlt hp hw⟩, by omega⟩
      simp only [Int.natCast_add, Int.natCast_one]
      exact (meets_id (by (repeat' apply And.intro) <;> first | rfl | exact True.intro | (intro hh; cases hh)))
    | false =>
      have hge : 1 ≤ (t.gone l[k]).length := by
        cases hh : t.gone l[k] with
        | nil => rw [gone_nil.1 hh] at hw; cases hw
        | cons x m => simp
      (conv => whnf); (repeat' (first | (refine bT ?_; conv => whnf) | (refine bF ?_; conv => whnf) | (refine bN ?_) | (refine bD (fun hh => ?_) (fun hh => ?_) <;> first | (exfalso; omega) | (conv => whnf)) | (refine bEq (fun hh => ?_) (fun hh => ?_) <;> first | (exfalso; omega) | (conv => whnf)) | (refine bNe (fun hh => ?_) (fun hh => ?_) <;> first | (exfalso; omega) | (conv => whnf)) | (refine iaI (by omega) (by omega) (getD_map Gu.av l k hlt) ?_; conv => whnf) | (refine (c19).callzq rfl rfl (fun r rows (hr : r = _ ∧ rows = _) => ?_); obtain ⟨hr1, hr2⟩ := hr; subst hr1; subst hr2; refine ⟨rfl, ?_⟩; conv => whnf) | (refine (c47).callzq rfl rfl (fun r rows (hr : r = _ ∧ rows = _) => ?_); obtain ⟨hr1, hr2⟩ := hr; subst hr1; subst hr2; refine ⟨rfl, ?_⟩; conv => whnf) | (refine wIn (by omega) ?_; conv => whnf) | (refine nI (by omega) ?_; conv => whnf)))
      all_goals (refine congrArg AV.bool ?_; exact (all_false (p := fun g => (t.weak g).isEmpty) hlt hw).symm)
  · have : k = l.length := by omega
    subst this
    rw [List.take_length] at hp
    have e : t.stands l = true := by unfold Tr.stands; exact List.all_eq_true.2 hp
    rw [e]
    (conv => whnf); (repeat' (first | (refine bT ?_; conv => whnf) | (refine bF ?_; conv => whnf) | (refine bN ?_) | (refine bD (fun hh => ?_) (fun hh => ?_) <;> first | (exfalso; omega) | (conv => whnf)) | (refine bEq (fun hh => ?_) (fun hh => ?_) <;> first | (exfalso; omega) | (conv => whnf)) | (refine bNe (fun hh => ?_) (fun hh => ?_) <;> first | (exfalso; omega) | (conv => whnf)) | (refine wIn (by omega) ?_; conv => whnf) | (refine nI (by omega) ?_; conv => whnf)))
    all_goals rfl

theorem g13 (d : Dm) (a s : Int) (h : d.f.ok) (ha : 1 ≤ a ∧ a ≤ 2000) (hs : 0 ≤ s ∧ s ≤ 2000) : FnA Try.prog 13 [.agg d.cells, .agg [.int .i64 a, .int .i64 s]] (· = .int .i64 (lf (rq (cosQ d.f.lo (a, s))))) := by
  have hlo := lo_bd h
  have hb := cos_bd2 hlo ha hs
  have hr := red_bd hb.1 hb.2
  have hk := k38 d.f.lo a s hlo ha hs
  change FnA Try.prog 38 [.int .i64 d.f.lo, .agg [.int .i64 a, .int .i64 s]] (· = .tup [.agg [.int .i64 (redN (cosN d.f.lo a s) (cosD d.f.lo a)), .int .i64 (redD (cosN d.f.lo a s) (cosD d.f.lo a))], .bool true]) at hk
  have e : lf (rq (cosQ d.f.lo (a, s))) = lf (redN (cosN d.f.lo a s) (cosD d.f.lo a), redD (cosN d.f.lo a s) (cosD d.f.lo a)) := rfl
  rw [e]
  generalize redN (cosN d.f.lo a s) (cosD d.f.lo a) = N at *
  generalize redD (cosN d.f.lo a s) (cosD d.f.lo a) = D at *
  have hq := lf_eq (n := N) hr.2.1
  have hf := tdiv_floor (a := 100 * N) hr.2.1
  have h1 := tdiv_abs (a := 100 * N) hr.2.1 10000000000 (by omega) (by omega)
  rw [hq]
  refine fnA 3 ok13 (by simp) ?_
  (conv => whnf); (repeat' (first | (refine bT ?_; conv => whnf) | (refine bF ?_; conv => whnf) | (refine bN ?_) | (refine bD (fun hh => ?_) (fun hh => ?_) <;> first | (exfalso; omega) | (conv => whnf)) | (refine bEq (fun hh => ?_) (fun hh => ?_) <;> first | (exfalso; omega) | (conv => whnf)) | (refine bNe (fun hh => ?_) (fun hh => ?_) <;> first | (exfalso; omega) | (conv => whnf)) | (refine (hk).callq rfl rfl (fun r (hr : r = _) => ?_); subst hr; conv => whnf) | (refine wIn (by omega) ?_; conv => whnf) | (refine nI (by omega) ?_; conv => whnf)))
  · simp only [if_true, Bool.false_eq_true, if_false]; rw [hf, if_pos (by assumption)]
  · simp only [if_true, Bool.false_eq_true, if_false]; rw [hf, if_neg (by assumption)]
/-- a pair and strengths are those of a truth -/
def Dm.isT (d : Dm) (a s : Int) (ss : List Int) : Prop := ss.length = d.rs.length ∧ (∀ i < d.rs.length, (d.rs.getD i (0, 0)).1 ≤ ss.getD i 0 ∧ ss.getD i 0 ≤ (d.rs.getD i (0, 0)).2) ∧ (a, s) ∈ d.f.s0.sides
theorem g11 (d : Dm) (a s : Int) (ss : List Int) (h : d.f.ok) (hn : d.rs.length ≤ 1000) (hl : ss.length ≤ 9223372036854775807) : FnA Try.prog 11 [.agg d.cells, .agg [.int .i64 a, .int .i64 s], .isl (ss.map i1)] (fun r => ∃ b : Bool, r = .bool b ∧ (b = true → d.isT a s ss)) := by
  have hL : (d.rs.map s2).length = d.rs.length := by simp
  have hS : (ss.map i1).length = ss.length := by simp
  refine fnA 2 ok11 (by simp) ?_
  conv => whnf
  refine loop_i (α := Nat) (fun k => [(7, .int .i64 k), (4, .own 1 0), (3, .own 0 0), (2, .isl (ss.map i1))]) (fun k => [.box false d.cells, .box false [.int .i64 a, .int .i64 s]]) (fun k => k ≤ ss.length ∧ k ≤ d.rs.length ∧ ∀ i < k, (d.rs.getD i (0, 0)).1 ≤ ss.getD i 0 ∧ ss.getD i 0 ≤ (d.rs.getD i (0, 0)).2) (fun k => d.rs.length - k) 0 (meets_id (by (repeat' apply And.intro) <;> first | rfl | exact True.intro | (intro hh; cases hh))) ⟨by omega, by omega, fun i hi => by omega⟩ ?_
  rintro k ⟨hk1, hk2, hk3⟩
  by_cases hlt : k < ss.length ∧ k < d.rs.length
  · have e1 : (ss.map i1).getD (k : Int).toNat [] = [.int .i64 (ss.getD k 0)] := by
      rw [Int.toNat_natCast, getD_mapD i1 ss k 0 hlt.1]; rfl
    have e2 : (d.rs.map s2).getD (k : Int).toNat [] = s2 (d.rs.getD k (0, 0)) := by
      rw [Int.toNat_natCast, getD_mapD s2 d.rs k (0, 0) hlt.2]
    have c := g34 (ss.getD k 0) (d.rs.getD k (0, 0)).1 (d.rs.getD k (0, 0)).2
    by_cases hc : (d.rs.getD k (0, 0)).1 ≤ ss.getD k 0 ∧ ss.getD k 0 ≤ (d.rs.getD k (0, 0)).2
    · rw [decide_eq_true hc] at c
      (conv => whnf); (repeat' (first | (refine bT ?_; conv => whnf) | (refine bF ?_; conv => whnf) | (refine bN ?_) | (refine bD (fun hh => ?_) (fun hh => ?_) <;> first | (exfalso; omega) | (conv => whnf)) | (refine bEq (fun hh => ?_) (fun hh => ?_) <;> first | (exfalso; omega) | (conv => whnf)) | (refine bNe (fun hh => ?_) (fun hh => ?_) <;> first | (exfalso; omega) | (conv => whnf)) | (refine iaI (by omega) (by omega) e1 ?_; conv => whnf) | (refine iaI (by omega) (by omega) e2 ?_; conv => whnf) | (refine (c).callq rfl rfl (fun r (hr : r = _) => ?_); subst hr; conv => whnf) | (refine wIn (by omega) ?_; conv => whnf) | (refine nI (by omega) ?_; conv => whnf)))
      refine ⟨k + 1, ?_, ⟨by omega, by omega, fun i hi => ?_⟩, by omega⟩
      · simp only [Int.natCast_add, Int.natCast_one]
        exact (meets_id (by (repeat' apply And.intro) <;> first | rfl | exact True.intro | (intro hh; cases hh)))
      · by_cases e : i = k
        · subst e; exact hc
        · exact hk3 i (by omega)
    · rw [decide_eq_false hc] at c
      (conv => whnf); (repeat' (first | (refine bT ?_; conv => whnf) | (refine bF ?_; conv => whnf) | (refine bN ?_) | (refine bD (fun hh => ?_) (fun hh => ?_) <;> first | (exfalso; omega) | (conv => whnf)) | (refine bEq (fun hh => ?_) (fun hh => ?_) <;> first | (exfalso; omega) | (conv => whnf)) | (refine bNe (fun hh => ?_) (fun hh => ?_) <;> first | (exfalso; omega) | (conv => whnf)) | (refine iaI (by omega) (by omega) e1 ?_; conv => whnf) | (refine iaI (by omega) (by omega) e2 ?_; conv => whnf) | (refine (c).callq rfl rfl (fun r (hr : r = _) => ?_); subst hr; conv => whnf) | (refine wIn (by omega) ?_; conv => whnf) | (refine nI (by omega) ?_; conv => whnf)))
      all_goals exact ⟨false, rfl, fun h => by cases h⟩
  · by_cases hlen : ss.length = d.rs.length
    · have hkk : k = d.rs.length := by omega
      subst hkk
      have h1 := h.1
      have c := k36 d.f 0 a s h (by omega)
      have hside : decide (((d.f.sec 0).al ≤ a ∧ a ≤ (d.f.sec 0).ah) ∧ (d.f.sec 0).sl ≤ s ∧ s ≤ (d.f.sec 0).sh) = true → (a, s) ∈ d.f.s0.sides := fun hd => mem_sides.2 (of_decide_eq_true hd)
      (conv => whnf); (repeat' (first | (refine bT ?_; conv => whnf) | (refine bF ?_; conv => whnf) | (refine bN ?_) | (refine bD (fun hh => ?_) (fun hh => ?_) <;> first | (exfalso; omega) | (conv => whnf)) | (refine bEq (fun hh => ?_) (fun hh => ?_) <;> first | (exfalso; omega) | (conv => whnf)) | (refine bNe (fun hh => ?_) (fun hh => ?_) <;> first | (exfalso; omega) | (conv => whnf)) | (refine (c).callq rfl rfl (fun r (hr : r = _) => ?_); subst hr; conv => whnf) | (refine wIn (by omega) ?_; conv => whnf) | (refine nI (by omega) ?_; conv => whnf)))
      all_goals exact ⟨_, rfl, fun hd => ⟨hlen, hk3, hside hd⟩⟩
    · (conv => whnf); (repeat' (first | (refine bT ?_; conv => whnf) | (refine bF ?_; conv => whnf) | (refine bN ?_) | (refine bD (fun hh => ?_) (fun hh => ?_) <;> first | (exfalso; omega) | (conv => whnf)) | (refine bEq (fun hh => ?_) (fun hh => ?_) <;> first | (exfalso; omega) | (conv => whnf)) | (refine bNe (fun hh => ?_) (fun hh => ?_) <;> first | (exfalso; omega) | (conv => whnf)) | (refine wIn (by omega) ?_; conv => whnf) | (refine nI (by omega) ?_; conv => whnf)))
      all_goals exact ⟨false, rfl, fun h => by cases h⟩
theorem g15 (d : Dm) (g : Gu) (hn : d.rs.length ≤ 1000) (hs : d.sh.length ≤ 1000) (h : d.errC [g] = 0) : FnO Try.prog 15 [.agg d.cells, .agg g.av] (fun r rows => r = .tup [.row 11, .int .i64 0] ∧ rows = [(11, .row false 45 2 (((List.range d.rs.length).map fun i => (d.best.ld g (i : Nat), d.worst.ld g (i : Nat))).map s2))]) := by
  obtain ⟨h1, h2⟩ := errC_ok h
  have hg := (okCl_g h2).2 g (by simp)
  have hL : (d.rs.map s2).length = d.rs.length := by simp
  have hb := best_len d
  have hw := worst_len d
  have hbo := best_ok h1
  have hwo := worst_ok h1
  refine fnO 12 ok15 (by simp) ?_
  (conv => whnf); (repeat' (first | (refine bT ?_; conv => whnf) | (refine bF ?_; conv => whnf) | (refine bN ?_) | (refine bD (fun hh => ?_) (fun hh => ?_) <;> first | (exfalso; omega) | (conv => whnf)) | (refine bEq (fun hh => ?_) (fun hh => ?_) <;> first | (exfalso; omega) | (conv => whnf)) | (refine bNe (fun hh => ?_) (fun hh => ?_) <;> first | (exfalso; omega) | (conv => whnf)) | (refine (g41 d [g] hn hs h).callzq rfl rfl (fun r rows (hr : r = _ ∧ rows = _) => ?_); obtain ⟨hr1, hr2⟩ := hr; subst hr1; subst hr2; refine ⟨rfl, ?_⟩; conv => whnf) | (refine wIn (by omega) ?_; conv => whnf) | (refine nI (by omega) ?_; conv => whnf)))
  refine loop_i (α := Nat) (fun k => [(25, .int .i64 k), (24, .int .i64 (d.rs.map s2).length), (9, .row 11), (7, .own 8 0), (6, .own 7 0), (3, .own 1 0)]) (fun k => [.fresh, .box false g.av, .fresh, .row false 3 1 (d.best.ss.map i1), .row false 3 1 (d.worst.ss.map i1), .fresh, .fresh, .box false [.int .i64 d.f.l0, .row 3, .isl (d.sh.map i1)], .box false [.int .i64 d.f.l1, .row 4, .isl (d.sh.map i1)], .fresh, .fresh, .row false 45 2 (((List.range k).map fun i => (d.best.ld g (i : Nat), d.worst.ld g (i : Nat))).map s2)]) (fun k => k ≤ d.rs.length) (fun k => d.rs.length - k) 0 (meets_nil 11 (by (repeat' apply And.intro) <;> first | rfl | exact True.intro | (intro hh; cases hh))) (by omega) ?_
  intro k hk
  conv => whnf
  refine bD (fun h3 => ?_) (fun h3 => ?_)
  · have hlt : k < d.rs.length := by omega
    have c1 := g42 d.best g k hbo (by rw [hb]; exact hg) (by omega) (by omega)
    have c2 := g42 d.worst g k hwo (by rw [hw]; exact hg) (by omega) (by omega)
    (conv => whnf); (repeat' (first | (refine bT ?_; conv => whnf) | (refine bF ?_; conv => whnf) | (refine bN ?_) | (refine bD (fun hh => ?_) (fun hh => ?_) <;> first | (exfalso; omega) | (conv => whnf)) | (refine bEq (fun hh => ?_) (fun hh => ?_) <;> first | (exfalso; omega) | (conv => whnf)) | (refine bNe (fun hh => ?_) (fun hh => ?_) <;> first | (exfalso; omega) | (conv => whnf)) | (refine (c1).lendq rfl (fun r (hr : r = _) => ?_); subst hr; refine ⟨rfl, ?_⟩; conv => whnf) | (refine (c2).lendq rfl (fun r (hr : r = _) => ?_); subst hr; refine ⟨rfl, ?_⟩; conv => whnf) | (refine wIn (by omega) ?_; conv => whnf) | (refine nI (by omega) ?_; conv => whnf)))
    refine apI (by simp [AV.one]) (by simp; omega) ?_
    (conv => whnf); (repeat' (first | (refine bT ?_; conv => whnf) | (refine bF ?_; conv => whnf) | (refine bN ?_) | (refine bD (fun hh => ?_) (fun hh => ?_) <;> first | (exfalso; omega) | (conv => whnf)) | (refine bEq (fun hh => ?_) (fun hh => ?_) <;> first | (exfalso; omega) | (conv => whnf)) | (refine bNe (fun hh => ?_) (fun hh => ?_) <;> first | (exfalso; omega) | (conv => whnf)) | (refine wIn (by omega) ?_; conv => whnf) | (refine nI (by omega) ?_; conv => whnf)))
    refine ⟨k + 1, ?_, by omega, by omega⟩
    have e : ((List.range (k + 1)).map fun i => (d.best.ld g (i : Nat), d.worst.ld g (i : Nat))).map s2 = ((List.range k).map fun i => (d.best.ld g (i : Nat), d.worst.ld g (i : Nat))).map s2 ++ [[.int .i64 (d.best.ld g k), .int .i64 (d.worst.ld g k)]] := by
      rw [List.range_succ]; simp [s2]
    rw [e]
    simp only [Int.natCast_add, Int.natCast_one]
    exact (meets_ren 11 10 (by (repeat' apply And.intro) <;> first | rfl | exact True.intro | (intro hh; cases hh)))
  · have : k = d.rs.length := by omega
    subst this
    (conv => whnf); (repeat' (first | (refine bT ?_; conv => whnf) | (refine bF ?_; conv => whnf) | (refine bN ?_) | (refine bD (fun hh => ?_) (fun hh => ?_) <;> first | (exfalso; omega) | (conv => whnf)) | (refine bEq (fun hh => ?_) (fun hh => ?_) <;> first | (exfalso; omega) | (conv => whnf)) | (refine bNe (fun hh => ?_) (fun hh => ?_) <;> first | (exfalso; omega) | (conv => whnf)) | (refine wIn (by omega) ?_; conv => whnf) | (refine nI (by omega) ?_; conv => whnf)))
    all_goals exact ⟨rfl, rfl⟩
end Go.Proofs
