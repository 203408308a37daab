/- What each function of this program answers, proved by walking its body: the contracts that the law rests on, part 3. -/
import Derived.Test.YtkpdkhidlhaaiaaGreatFns2
set_option linter.unusedSimpArgs false
set_option linter.unusedVariables false
set_option linter.unusedSectionVars false
namespace Go.Proofs
open Go.Eng
attribute [local irreducible] Go.Eng.brB Go.Eng.need Go.Eng.wrE Go.Eng.iaE Go.Eng.slE Go.Eng.apE Go.Eng.CallZ Go.Eng.CallE Go.Eng.VCallE Go.Eng.YldE Go.Eng.GoC Go.Eng.MeetsE Go.Eng.FnA Go.Eng.FnV Go.Eng.ItA
set_option maxRecDepth 100000

theorem sumr_mono {l1 l2 : Int → Int} {g1 g2 : List Bool} (hl0 : ∀ i, 0 ≤ l1 i) (hl : ∀ i, l1 i ≤ l2 i) (hg : ∀ i, g1.getD i false = true → g2.getD i false = true) (n : Nat) (i s : Int) : ∀ k j, sumr l1 g1 n i s k j ≤ sumr l2 g2 n i s k j
  | 0, j => by simp [sumr]
  | k + 1, j => by
    have ih := sumr_mono hl0 hl hg n i s k (j + 1)
    have h0 := hl (ar n (i + j * s))
    have hb : ∀ k j, 0 ≤ sumr l2 g2 n i s k j := fun k => by
      induction k with
      | zero => intro j; simp [sumr]
      | succ k ih =>
        intro j
        have := ih (j + 1)
        have h1 := hl0 (ar n (i + j * s))
        have h2 := hl (ar n (i + j * s))
        unfold sumr; split <;> omega
    unfold sumr
    by_cases h1 : g1.getD (ar n (i + j * s)).toNat false = true
    · rw [if_pos h1, if_pos (hg _ h1)]; omega
    · rw [if_neg h1]
      have := hb (k + 1) j
      unfold sumr at this
      exact this
theorem sside_nn {l : Int → Int} (h : ∀ i, 0 ≤ l i) (gs : List Bool) (n : Nat) (i s : Int) : 0 ≤ sside l gs n i s := by
  have : ∀ k j, 0 ≤ sumr l gs n i s k j := fun k => by
    induction k with
    | zero => intro j; simp [sumr]
    | succ k ih => intro j; have := ih (j + 1); have h1 := h (ar n (i + j * s)); unfold sumr; split <;> omega
  exact this _ _
theorem hand_mono {l1 l2 : Int → Int} {g1 g2 : List Bool} (hl0 : ∀ i, 0 ≤ l1 i) (hl : ∀ i, l1 i ≤ l2 i) (hg : ∀ i, g1.getD i false = true → g2.getD i false = true) (n : Nat) (i : Int) : hand l1 g1 n i ≤ hand l2 g2 n i := by
  have h1 := sumr_mono hl0 hl hg n i (-1) (n - 1) 1
  have h2 := sumr_mono hl0 hl hg n i 1 (n - 1) 1
  unfold hand sside; omega
/-- a truth that stands no less than another one -/
structure Leq (t u : Tr) (g h : Gu) : Prop where
  len : t.ss.length = u.ss.length
  ss : ∀ i, u.ss.getD i 0 ≤ t.ss.getD i 0
  ld0 : ∀ i, 0 ≤ t.ld g i
  ld : ∀ i, t.ld g i ≤ u.ld h i
theorem cond_mono {t u : Tr} {g h : Gu} (hle : Leq t u g h) {g1 g2 : List Bool} (hg : ∀ i, g1.getD i false = true → g2.getD i false = true) {i : Nat} (hc : t.cond g g1 i = true) : g2.getD i false = true ∨ u.cond h g2 i = true := by
  by_cases h2 : g2.getD i false = true
  · exact .inl h2
  · refine .inr ?_
    have h2' : g2.getD i false = false := by simpa using h2
    unfold Tr.cond at hc ⊢
    simp only [Bool.and_eq_true, decide_eq_true_eq] at hc
    rw [h2']
    simp only [Bool.not_false, Bool.true_and, decide_eq_true_eq]
    have a := hand_mono hle.ld0 hle.ld hg t.ss.length i
    have b := hle.ss i
    have c := hle.ld i
    have e := hle.len
    rw [← e]
    omega
theorem G_stop (t : Tr) (g : Gu) (i : Nat) (hi : i < t.ss.length) : t.cond g (t.G g (t.K g)) i = false := by
  rw [Bool.eq_false_iff]; intro h
  have : i ∈ t.go g (t.G g (t.K g)) := go_mem.2 ⟨hi, h⟩
  rw [(K_ok t g).2.1] at this; cases this
theorem G_in (t : Tr) (g : Gu) (r i : Nat) (h : (t.G g r).getD i false = true) : i < t.ss.length := by
  refine Classical.byContradiction fun hn => ?_
  rw [List.getD_eq_getElem?_getD, List.getElem?_eq_none (by rw [G_len]; omega)] at h; simp at h
theorem G_succ (t : Tr) (g : Gu) (r i : Nat) (hi : i < t.ss.length) : (t.G g (r + 1)).getD i false = ((t.G g r).getD i false || t.cond g (t.G g r) i) := stp_get hi
theorem G_mono {t u : Tr} {g h : Gu} (hle : Leq t u g h) : ∀ r i, (t.G g r).getD i false = true → (u.G h (u.K h)).getD i false = true
  | 0, i, hi => by
    have := G_in t g 0 i hi
    simp only [Tr.G, List.getD_eq_getElem?_getD, List.getElem?_replicate, if_pos this] at hi
    simp at hi
  | r + 1, i, hi => by
    have hin := G_in t g (r + 1) i hi
    rw [G_succ t g r i hin, Bool.or_eq_true] at hi
    rcases hi with hi | hi
    · exact G_mono hle r i hi
    · rcases cond_mono hle (G_mono hle r) hi with h1 | h1
      · exact h1
      · rw [G_stop u h i (by rw [← hle.len]; exact hin)] at h1; cases h1
theorem gone_mem {t : Tr} {g : Gu} {i : Nat} : i ∈ t.gone g ↔ i < t.ss.length ∧ (t.G g (t.K g)).getD i false = true := lst_mem
theorem gone_mono {t u : Tr} {g h : Gu} (hle : Leq t u g h) {i : Nat} (hi : i ∈ t.gone g) : i ∈ u.gone h := by
  rw [gone_mem] at hi ⊢
  exact ⟨by rw [← hle.len]; exact hi.1, G_mono hle _ i hi.2⟩
theorem G_le (t : Tr) (g : Gu) (i r : Nat) : ∀ k, (t.G g r).getD i false = true → (t.G g (r + k)).getD i false = true
  | 0, h => h
  | k + 1, h => by
    have h1 := G_le t g i r k h
    have hin := G_in t g _ i h1
    show (t.G g (r + k + 1)).getD i false = true
    rw [G_succ t g _ i hin, h1]; rfl
/-- nothing is handed where none is gone -/
theorem sumr_none {l : Int → Int} {gs : List Bool} {n : Nat} {i s : Int} {k j : Nat} (h : gs.getD (ar n (i + j * s)).toNat false = false) : sumr l gs n i s k j = 0 := by
  cases k with
  | zero => rfl
  | succ k => rw [sumr, if_neg (by rw [h]; simp)]
theorem G0 (t : Tr) (g : Gu) (i : Nat) : (t.G g 0).getD i false = false := by
  simp only [Tr.G, List.getD_eq_getElem?_getD, List.getElem?_replicate]; split <;> rfl
theorem cond0 (t : Tr) (g : Gu) (i : Nat) : t.cond g (t.G g 0) i = t.tw g i := by
  unfold Tr.cond Tr.tw hand sside
  rw [G0, sumr_none (G0 t g _), sumr_none (G0 t g _)]
  simp
theorem weak_go (t : Tr) (g : Gu) : t.weak g = t.go g (t.G g 0) := by
  unfold Tr.weak Tr.go; congr 1; funext i; exact (cond0 t g i).symm
theorem weak_gone {t : Tr} {g : Gu} {i : Nat} (h : i ∈ t.weak g) : i ∈ t.gone g := by
  rw [weak_go, go_mem] at h
  rw [gone_mem]
  refine ⟨h.1, ?_⟩
  have h1 : (t.G g 1).getD i false = true := by rw [G_succ t g 0 i h.1, h.2]; simp
  cases hk : t.K g with
  | zero =>
    have := (K_ok t g).2.1
    rw [hk] at this
    have h2 := go_mem.2 h
    rw [this] at h2; cases h2
  | succ k => rw [Nat.add_comm k 1]; exact G_le t g i 1 k h1
theorem weak_nil {t : Tr} {g : Gu} (h : t.weak g = []) : t.gone g = [] := by
  rw [weak_go] at h
  have : t.K g = 0 := by
    cases hk : t.K g with
    | zero => rfl
    | succ k => exact absurd h ((K_ok t g).1 0 (by omega))
  refine List.eq_nil_iff_forall_not_mem.2 fun i hi => ?_
  have := (gone_mem.1 hi).2
  rw [‹t.K g = 0›, G0] at this; cases this
theorem gone_nil {t : Tr} {g : Gu} : t.gone g = [] ↔ t.weak g = [] :=
  ⟨fun h => List.eq_nil_iff_forall_not_mem.2 fun i hi => (by have := weak_gone hi; rw [h] at this; cases this), weak_nil⟩
/-- one that goes later has a neighbour that is gone -/
theorem gone_nb {t : Tr} {g : Gu} {i : Nat} (hi : i ∈ t.gone g) (hw : i ∉ t.weak g) : (ar t.ss.length (i + 1)).toNat ∈ t.gone g ∨ (ar t.ss.length (i - 1)).toNat ∈ t.gone g := by
  rw [gone_mem] at hi
  have hin := hi.1
  have key : ∀ r, (t.G g r).getD i false = true → ∃ r' < r, t.cond g (t.G g r') i = true := fun r => by
    induction r with
    | zero => intro h; rw [G0] at h; cases h
    | succ r ih =>
      intro h
      rw [G_succ t g r i hin, Bool.or_eq_true] at h
      rcases h with h | h
      · obtain ⟨r', h1, h2⟩ := ih h; exact ⟨r', by omega, h2⟩
      · exact ⟨r, by omega, h⟩
  obtain ⟨r, hr, hc⟩ := key _ hi.2
  have hup : ∀ j, (t.G g r).getD j false = true → j ∈ t.gone g := fun j hj => by
    rw [gone_mem]
    refine ⟨G_in t g r j hj, ?_⟩
    have := G_le t g j r (t.K g - r) hj
    rwa [show r + (t.K g - r) = t.K g from by omega] at this
  have htw : t.tw g i = false := by
    rw [Bool.eq_false_iff]; intro h; exact hw (lst_mem.2 ⟨hin, h⟩)
  unfold Tr.cond at hc
  simp only [Bool.and_eq_true, decide_eq_true_eq] at hc
  unfold Tr.tw at htw
  simp only [decide_eq_false_iff_not] at htw
  by_cases a : (t.G g r).getD (ar t.ss.length (i + (1 : Nat) * 1)).toNat false = true
  · refine .inl (hup _ ?_); simpa using a
  · by_cases b : (t.G g r).getD (ar t.ss.length (i + (1 : Nat) * (-1))).toNat false = true
    · refine .inr (hup _ ?_)
      rwa [show (i : Int) - 1 = i + (1 : Nat) * (-1) from by omega]
    · exfalso
      have e1 := sumr_none (l := t.ld g) (k := t.ss.length - 1) (show (t.G g r).getD (ar t.ss.length (i + (1 : Nat) * 1)).toNat false = false by simpa using a)
      have e2 := sumr_none (l := t.ld g) (k := t.ss.length - 1) (show (t.G g r).getD (ar t.ss.length (i + (1 : Nat) * (-1))).toNat false = false by simpa using b)
      have : hand (t.ld g) (t.G g r) t.ss.length i = 0 := by unfold hand sside; rw [e1, e2]; rfl
      rw [this] at hc; omega

theorem ediv_mono2 {a b c d : Int} (hb : 1 ≤ b) (hd : 1 ≤ d) (h : a * d ≤ c * b) : a / b ≤ c / d := by
  refine Int.le_ediv_of_mul_le (by omega) ?_
  have h1 : a / b * b ≤ a := Int.ediv_mul_le _ (by omega)
  have h2 : a / b * b * d ≤ a * d := Int.mul_le_mul_of_nonneg_right h1 (by omega)
  have h3 : a / b * d * b ≤ c * b := by rw [Int.mul_right_comm]; omega
  exact Int.le_of_mul_le_mul_right h3 (by omega)
theorem lf_mono {x y : Int × Int} (hx : 1 ≤ x.2) (hy : 1 ≤ y.2) (h : x.1 * y.2 ≤ y.1 * x.2) : lf x ≤ lf y := by
  have key : max 0 (100 * (x.2 + x.1)) / x.2 ≤ max 0 (100 * (y.2 + y.1)) / y.2 := by
    refine ediv_mono2 hx hy ?_
    by_cases h0 : 100 * (x.2 + x.1) ≤ 0
    · rw [show max 0 (100 * (x.2 + x.1)) = 0 from by omega, Int.zero_mul]
      exact Int.mul_nonneg (by omega) (by omega)
    · rw [show max 0 (100 * (x.2 + x.1)) = 100 * (x.2 + x.1) from by omega]
      refine Int.le_trans ?_ (Int.mul_le_mul_of_nonneg_right (show 100 * (y.2 + y.1) ≤ max 0 (100 * (y.2 + y.1)) by omega) (by omega))
      rw [Int.mul_assoc, Int.mul_assoc, Int.add_mul, Int.add_mul, Int.mul_comm y.2 x.2]; omega
  unfold lf; omega
theorem lf_red {q : Int × Int} (h : 1 ≤ q.2) : lf (rq q) = lf q := by
  obtain ⟨n, d⟩ := q
  simp only at h
  obtain ⟨e1, e2, e3⟩ := red_eq (n := n) h
  have hg := (gcd_bd (n := n) h).1
  unfold lf rq
  simp only
  generalize (Int.gcd n d : Int) = G at *
  generalize redN n d = n' at *
  generalize redD n d = d' at *
  subst e1 e2
  congr 1
  have e : 100 * (G * d' + G * n') = G * (100 * (d' + n')) := by rw [← Int.mul_add, Int.mul_left_comm]
  rw [e]
  by_cases h0 : 100 * (d' + n') ≤ 0
  · have : G * (100 * (d' + n')) ≤ 0 := Int.mul_nonpos_of_nonneg_of_nonpos (by omega) h0
    rw [show max 0 (100 * (d' + n')) = 0 from by omega, show max 0 (G * (100 * (d' + n'))) = 0 from by omega]
    simp
  · have : 0 ≤ G * (100 * (d' + n')) := Int.mul_nonneg (by omega) (by omega)
    rw [show max 0 (100 * (d' + n')) = 100 * (d' + n') from by omega, show max 0 (G * (100 * (d' + n'))) = G * (100 * (d' + n')) from by omega]
    rw [Int.mul_ediv_mul_of_pos _ _ (by omega)]
/-- the lift of an arm and a stretcher lies between the ends -/
theorem l01_side {f : Frm} (h : f.ok) {q : Int × Int} (hq : q ∈ f.s0.sides) : f.l0 ≤ lf (rq (cosQ f.lo q)) ∧ lf (rq (cosQ f.lo q)) ≤ f.l1 := by
  have hs := s0_ok h
  have hl := lo_bd h
  have hb := cosF_bd hs hl
  have hq2 := cos_rbd hs hl hq
  have he := cosF_ends hs hl hq
  unfold Frm.l0 Frm.l1
  rw [lf_red hb.1.2.1, lf_red hb.2.2.1, lf_red (q := cosQ f.lo q) hq2.2.1]
  exact ⟨lf_mono hb.1.2.1 hq2.2.1 he.1, lf_mono hq2.2.1 hb.2.2.1 he.2⟩
theorem l01_le {f : Frm} (h : f.ok) : f.l0 ≤ f.l1 := by
  have := l01_side h (fst_side (s0_ok h)); omega
/-- loads: a greater force or lift gives no less -/
theorem ld_mono {t u : Tr} (ht : t.ok) (hsh : t.sh = u.sh) (hlen : t.ss.length = u.ss.length) (hL : t.L ≤ u.L) {F F' A : Int} (hF0 : 0 ≤ F) (hF : F ≤ F') (i : Int) : t.ld ⟨F, A⟩ i ≤ u.ld ⟨F', A⟩ i := by
  unfold Tr.ld Tr.share
  rw [hsh, hlen]
  have hs := share_bd ht (ar u.ss.length (i - A))
  unfold Tr.share at hs
  rw [hsh] at hs
  refine Int.ediv_le_ediv (by omega) ?_
  refine Int.mul_le_mul_of_nonneg_right ?_ hs.1
  exact Int.le_trans (Int.mul_le_mul_of_nonneg_right hF ht.1.1) (Int.mul_le_mul_of_nonneg_left hL (Int.le_trans hF0 hF))
theorem leq_bw {d : Dm} (h : d.okB = true) {g : Gu} (hg : g.ok d.rs.length) : Leq d.best d.worst g g := by
  have hb := best_ok h
  have hL : d.best.L ≤ d.worst.L := by
    show d.f.l0 ≤ d.f.l1
    exact l01_le (okB_iff.1 h).1
  refine ⟨by rw [best_len, worst_len], fun i => ?_, fun i => ?_, fun i => ?_⟩
  · by_cases hi : i < d.rs.length
    · have := rib_mem h _ (List.getElem_mem hi)
      unfold okRib at this
      simp [Dm.best, Dm.worst, List.getD_eq_getElem?_getD, hi]
      omega
    · simp [Dm.best, Dm.worst, List.getD_eq_getElem?_getD, hi]
  · exact (ld_bd hb hg i).1
  · exact ld_mono (t := d.best) (u := d.worst) (F := g.F) (F' := g.F) (A := g.A) hb rfl (by rw [best_len, worst_len]) hL hg.1.1 (Int.le_refl _) i
theorem lst_mono_len {n : Nat} {p q : Nat → Bool} (h : ∀ i, i ∈ lst n p → i ∈ lst n q) : (lst n p).length ≤ (lst n q).length := by
  unfold lst
  rw [← List.countP_eq_length_filter, ← List.countP_eq_length_filter]
  refine cp_le fun x hx hp => ?_
  have hx' : x < n := by simpa using hx
  exact (lst_mem.1 (h x (lst_mem.2 ⟨hx', hp⟩))).2
theorem lst_lt (n : Nat) (p : Nat → Bool) : (lst n p).Pairwise (· < ·) := (List.pairwise_lt_range).sublist List.filter_sublist

theorem all_contains {l m : List Nat} (h : ∀ i ∈ l, i ∈ m) : l.all m.contains = true := by
  rw [List.all_eq_true]; intro x hx; simpa using h x hx
theorem gone_le (t : Tr) (g : Gu) : (t.gone g).length ≤ t.ss.length := lst_le _ _
theorem weak_le (t : Tr) (g : Gu) : (t.weak g).length ≤ t.ss.length := lst_le _ _
theorem ar_nat {n : Nat} (h : 0 < n) (r : Int) : (((ar n r).toNat : Nat) : Int) = ar n r := by
  have := ar_bd (n := n) r h; omega
theorem okCl1 {n : Nat} {g : Gu} (h : g.ok n) : okCl n [g] = true := by
  unfold okCl okGu; simp [h]

theorem tmod_up {n : Nat} (x : Int) (h : 0 < n) : (x.tmod n + n).tmod n = ar n x := by
  have h1 := Int.lt_tmod_of_pos x (show (0 : Int) < n by omega)
  rw [Int.tmod_eq_emod_of_nonneg (by omega), Int.add_emod_right]
  unfold ar
  rw [Int.tmod_def, Int.sub_mul_emod_self_left]
/-- a truth of a dome -/
structure Of (d : Dm) (t : Tr) : Prop where
  ok : t.ok
  len : t.ss.length = d.rs.length
  sh : t.sh = d.sh
theorem g20 (d : Dm) (t : Tr) (g : Gu) (i : Nat) (H : Of d t) (hg : g.ok d.rs.length) (hi : i < d.rs.length) : FnA Tryz.prog 36 [.agg d.cells, .agg g.av, .int .i64 t.L, .int .i64 i] (· = .int .i64 (t.ld g i)) := by
  have hl := H.ok.2.1
  have hsh := H.ok.2.2.1
  have hLn := H.len
  have hA := hg.2
  have hL : (d.rs.map s2).length = d.rs.length := by simp
  have hS : (d.sh.map i1).length = t.sh.length := by rw [H.sh]; simp
  have hp := prod_bd H.ok (n := d.rs.length) hg
  have hb := ar_bd (n := d.rs.length) (i - g.A) (by omega)
  have hs := share_bd H.ok (ar d.rs.length (i - g.A))
  have hq := hp.2 _ hs.1 hs.2
  have e1 : ((i : Int) - g.A + (d.rs.map s2).length).tmod (d.rs.map s2).length = ar d.rs.length (i - g.A) := by
    rw [hL]
    rw [Int.tmod_eq_emod_of_nonneg (by omega), Int.add_emod_right]; rfl
  have e2 : (d.sh.map i1).getD (((i : Int) - g.A + (d.rs.map s2).length).tmod (d.rs.map s2).length).toNat [] = [.int .i64 (t.share (ar d.rs.length (i - g.A)))] := by
    rw [e1, getD_mapD i1 d.sh _ 0 (by rw [← H.sh]; omega)]
    unfold Tr.share; rw [H.sh]; rfl
  have hdv := Int.tdiv_eq_ediv_of_nonneg (b := 100) hq.1
  have hld : t.ld g i = (g.F * t.L * t.share (ar d.rs.length (i - g.A))).tdiv 100 := by
    unfold Tr.ld; rw [hdv, hLn]
  have hdb : 0 ≤ (g.F * t.L * t.share (ar d.rs.length (i - g.A))).tdiv 100 ∧ (g.F * t.L * t.share (ar d.rs.length (i - g.A))).tdiv 100 ≤ 19602 := by rw [hdv]; omega
  rw [hld]
  have w1 : -9223372036854775808 ≤ ((i : Int) - g.A + (d.rs.map s2).length).tmod (d.rs.map s2).length ∧ ((i : Int) - g.A + (d.rs.map s2).length).tmod (d.rs.map s2).length ≤ 9223372036854775807 := by rw [e1]; omega
  refine fnA 2 ok36 (by simp) ?_
  (conv => whnf); (repeat' (first | (refine bT ?_; conv => whnf) | (refine bF ?_; conv => whnf) | (refine bN ?_) | (refine bD (fun hh => ?_) (fun hh => ?_) <;> first | (exfalso; omega) | (conv => whnf)) | (refine bEq (fun hh => ?_) (fun hh => ?_) <;> first | (exfalso; omega) | (conv => whnf)) | (refine bNe (fun hh => ?_) (fun hh => ?_) <;> first | (exfalso; omega) | (conv => whnf)) | (refine wIn w1 ?_; conv => whnf) | (refine iaI (by omega) (by omega) e2 ?_; conv => whnf) | (refine wIn (by omega) ?_; conv => whnf) | (refine nI (by omega) ?_; conv => whnf)))
  all_goals rfl
theorem sumr_congr {l1 l2 : Int → Int} {gs : List Bool} {n : Nat} (hn : 0 < n) (h : ∀ x : Int, 0 ≤ x → x < n → l1 x = l2 x) (i s : Int) : ∀ k j, sumr l1 gs n i s k j = sumr l2 gs n i s k j
  | 0, _ => rfl
  | k + 1, j => by
    have hb := ar_bd (n := n) (i + j * s) hn
    unfold sumr
    rw [h _ hb.1 hb.2, sumr_congr hn h i s k (j + 1)]
theorem g46 (t : Tr) (g : Gu) (gs : List Bool) (ls : List Int) (i : Nat) (s : Int) (h : t.ok) (hg : g.ok t.ss.length) (hgs : gs.length = t.ss.length) (hls : ls = (List.range t.ss.length).map fun i => t.ld g (i : Nat)) (hi : i < t.ss.length) (hs : s = -1 ∨ s = 1) : FnA Tryz.prog 68 [.isl (ls.map i1), .isl (gs.map b1), .int .i64 i, .int .i64 s] (· = .int .i64 (sside (t.ld g) gs t.ss.length i s)) := by
  have hl := h.2.1
  have hlen : ls.length = t.ss.length := by rw [hls]; simp
  have hL : (ls.map i1).length = t.ss.length := by rw [List.length_map, hlen]
  have hL2 : (gs.map b1).length = t.ss.length := by rw [List.length_map, hgs]
  have hld := fun i => ld_bd h hg i
  have hb := fun k j => sumr_bd hld (by omega) gs t.ss.length i s k j
  have htot := hb (t.ss.length - 1) 1
  have hss : sside (t.ld g) gs t.ss.length i s = sumr (t.ld g) gs t.ss.length i s (t.ss.length - 1) 1 := rfl
  have e19 : (19602 : Int) * ((t.ss.length - 1 : Nat) : Int) ≤ 19602 * 10 := by omega
  refine fnA 0 ok68 (by simp) ?_
  (conv => whnf); (repeat' (first | (refine bT ?_; conv => whnf) | (refine bF ?_; conv => whnf) | (refine bN ?_) | (refine bD (fun hh => ?_) (fun hh => ?_) <;> first | (exfalso; omega) | (conv => whnf)) | (refine bEq (fun hh => ?_) (fun hh => ?_) <;> first | (exfalso; omega) | (conv => whnf)) | (refine bNe (fun hh => ?_) (fun hh => ?_) <;> first | (exfalso; omega) | (conv => whnf)) | (refine wIn (by omega) ?_; conv => whnf) | (refine nI (by omega) ?_; conv => whnf)))
  refine loop_i (α := Nat × Int) (fun x => [(11, .int .i64 x.1), (10, .int .i64 x.2), (9, .int .i64 (ls.map i1).length), (3, .int .i64 s), (2, .int .i64 i), (1, .isl (gs.map b1)), (0, .isl (ls.map i1))]) (fun x => []) (fun x => 1 ≤ x.1 ∧ x.1 ≤ t.ss.length ∧ 0 ≤ x.2 ∧ x.2 + sumr (t.ld g) gs t.ss.length i s (t.ss.length - x.1) x.1 = sside (t.ld g) gs t.ss.length i s) (fun x => t.ss.length - x.1) (1, 0) (meets_id (by (repeat' apply And.intro) <;> first | rfl | exact True.intro | (intro hh; cases hh))) ⟨by simp, by simp only; omega, by simp, by simp [sside]⟩ ?_
  rintro ⟨k, x⟩ ⟨hk1, hk2, hx0, hx⟩
  simp only at hk1 hk2 hx0 hx ⊢
  have hsum := hb (t.ss.length - k) k
  conv => whnf
  refine bD (fun h3 => ?_) (fun h3 => ?_)
  · have hlt : k < t.ss.length := by omega
    obtain ⟨m, hm⟩ : ∃ m, t.ss.length - k = m + 1 := ⟨t.ss.length - k - 1, by omega⟩
    have hm2 : t.ss.length - (k + 1) = m := by omega
    have hn0 : 0 < t.ss.length := by omega
    have hp := ar_bd (n := t.ss.length) (i + k * s) hn0
    have hks : -10 ≤ (k : Int) * s ∧ (k : Int) * s ≤ 10 := by rcases hs with rfl | rfl <;> omega
    have t1 := Int.lt_tmod_of_pos ((i : Int) + k * s) (show (0 : Int) < (ls.map i1).length by omega)
    have t2 := Int.tmod_lt_of_pos ((i : Int) + k * s) (show (0 : Int) < (ls.map i1).length by omega)
    have ei : (((i : Int) + k * s).tmod (ls.map i1).length + (ls.map i1).length).tmod (ls.map i1).length = ar t.ss.length (i + k * s) := by
      rw [tmod_up _ (by omega), hL]
    have w3 : -9223372036854775808 ≤ (((i : Int) + k * s).tmod (ls.map i1).length + (ls.map i1).length).tmod (ls.map i1).length ∧ (((i : Int) + k * s).tmod (ls.map i1).length + (ls.map i1).length).tmod (ls.map i1).length ≤ 9223372036854775807 := by rw [ei]; omega
    have eg : (gs.map b1).getD ((((i : Int) + k * s).tmod (ls.map i1).length + (ls.map i1).length).tmod (ls.map i1).length).toNat [] = [.bool (gs.getD (ar t.ss.length (i + k * s)).toNat false)] := by
      rw [ei, getD_mapD b1 gs _ false (by omega)]; rfl
    have el : (ls.map i1).getD ((((i : Int) + k * s).tmod (ls.map i1).length + (ls.map i1).length).tmod (ls.map i1).length).toNat [] = [.int .i64 (t.ld g (ar t.ss.length (i + k * s)))] := by
      rw [ei, getD_mapD i1 ls _ 0 (by omega), hls]
      have : (ar t.ss.length (i + k * s)).toNat < t.ss.length := by omega
      simp only [List.getD_eq_getElem?_getD, List.getElem?_map, List.getElem?_range this, Option.map_some, Option.getD_some]
      rw [ar_nat hn0]; rfl
    have hlp := hld (ar t.ss.length (i + k * s))
    rw [hm] at hx hsum
    cases hgv : gs.getD (ar t.ss.length (i + k * s)).toNat false with
    | true =>
      rw [hgv] at eg
      rw [show sumr (t.ld g) gs t.ss.length i s (m + 1) k = t.ld g (ar t.ss.length (i + k * s)) + sumr (t.ld g) gs t.ss.length i s m (k + 1) from by rw [sumr, if_pos hgv]] at hx
      have hsum2 := hb m (k + 1)
      have hm3 : (19602 : Int) * (m : Int) ≤ 196020 := by omega
      (conv => whnf); (repeat' (first | (refine bT ?_; conv => whnf) | (refine bF ?_; conv => whnf) | (refine bN ?_) | (refine bD (fun hh => ?_) (fun hh => ?_) <;> first | (exfalso; omega) | (conv => whnf)) | (refine bEq (fun hh => ?_) (fun hh => ?_) <;> first | (exfalso; omega) | (conv => whnf)) | (refine bNe (fun hh => ?_) (fun hh => ?_) <;> first | (exfalso; omega) | (conv => whnf)) | (refine wIn w3 ?_; conv => whnf) | (refine iaI (by omega) (by omega) eg ?_; conv => whnf) | (refine iaI (by omega) (by omega) el ?_; conv => whnf) | (refine wIn (by omega) ?_; conv => whnf) | (refine nI (by omega) ?_; conv => whnf)))
      refine ⟨(k + 1, x + t.ld g (ar t.ss.length (i + k * s))), (meets_id (by (repeat' apply And.intro) <;> first | rfl | exact True.intro | (intro hh; cases hh))), ⟨by simp only; omega, by simp only; omega, by simp only; omega, by simp only; rw [hm2]; omega⟩, by simp only; omega⟩
    | false =>
      rw [hgv] at eg
      rw [sumr_none hgv] at hx
      (conv => whnf); (repeat' (first | (refine bT ?_; conv => whnf) | (refine bF ?_; conv => whnf) | (refine bN ?_) | (refine bD (fun hh => ?_) (fun hh => ?_) <;> first | (exfalso; omega) | (conv => whnf)) | (refine bEq (fun hh => ?_) (fun hh => ?_) <;> first | (exfalso; omega) | (conv => whnf)) | (refine bNe (fun hh => ?_) (fun hh => ?_) <;> first | (exfalso; omega) | (conv => whnf)) | (refine wIn w3 ?_; conv => whnf) | (refine iaI (by omega) (by omega) eg ?_; conv => whnf) | (refine wIn (by omega) ?_; conv => whnf) | (refine nI (by omega) ?_; conv => whnf)))
      all_goals (rw [← hx]; simp)
  · have : k = t.ss.length := by omega
    subst this
    rw [Nat.sub_self] at hx
    (conv => whnf); (repeat' (first | (refine bT ?_; conv => whnf) | (refine bF ?_; conv => whnf) | (refine bN ?_) | (refine bD (fun hh => ?_) (fun hh => ?_) <;> first | (exfalso; omega) | (conv => whnf)) | (refine bEq (fun hh => ?_) (fun hh => ?_) <;> first | (exfalso; omega) | (conv => whnf)) | (refine bNe (fun hh => ?_) (fun hh => ?_) <;> first | (exfalso; omega) | (conv => whnf)) | (refine wIn (by omega) ?_; conv => whnf) | (refine nI (by omega) ?_; conv => whnf)))
    all_goals (rw [← hx]; simp [sumr])

/-- the first k are of b, the others of a -/
def mix {α : Type} (n : Nat) (a b : Nat → α) (k : Nat) : List α := (List.range n).map fun i => if i < k then b i else a i
theorem mix_len {α : Type} (n : Nat) (a b : Nat → α) (k : Nat) : (mix n a b k).length = n := by simp [mix]
theorem mix_zero {α : Type} (n : Nat) (a b : Nat → α) : mix n a b 0 = (List.range n).map a := by simp [mix]
theorem mix_full {α : Type} (n : Nat) (a b : Nat → α) : mix n a b n = (List.range n).map b := by
  unfold mix; refine List.map_congr_left fun i hi => ?_
  rw [if_pos (by simpa using hi)]
theorem mix_succ {α : Type} (n : Nat) (a b : Nat → α) (k : Nat) : mix n a b (k + 1) = (mix n a b k).set k (b k) := by
  refine List.ext_getElem (by simp [mix]) fun i h1 h2 => ?_
  rw [List.getElem_set]
  by_cases e : k = i
  · subst e; rw [if_pos rfl]; simp [mix]
  · rw [if_neg e]
    have : (i < k + 1) ↔ i < k := by omega
    simp only [mix, List.getElem_map, List.getElem_range, this]
theorem mix_same {α : Type} (n : Nat) (a b : Nat → α) (k : Nat) (h : a k = b k) : mix n a b (k + 1) = mix n a b k := by
  unfold mix; refine List.map_congr_left fun i _ => ?_
  by_cases e : i = k
  · subst e; simp [h]
  · have : (i < k + 1) ↔ i < k := by omega
    simp only [this]
theorem mix_get {α : Type} (n : Nat) (a b : Nat → α) (k : Nat) (z : α) {i : Nat} (hi : i < n) : (mix n a b k).getD i z = if i < k then b i else a i := by
  simp [mix, List.getD_eq_getElem?_getD, hi]
theorem map_getD {α : Type} (l : List α) (z : α) : l = (List.range l.length).map fun i => l.getD i z := by
  refine List.ext_getElem (by simp) fun i h1 h2 => ?_
  simp [List.getD_eq_getElem?_getD, h1]
/-- in which round each goes, so far -/
def Tr.out (t : Tr) (g : Gu) : Nat → List Int
  | 0 => List.replicate t.ss.length 0
  | r + 1 => (List.range t.ss.length).map fun i => if t.cond g (t.G g r) i then ((r + 1 : Nat) : Int) else (t.out g r).getD i 0
theorem out_len (t : Tr) (g : Gu) : ∀ r, (t.out g r).length = t.ss.length
  | 0 => by simp [Tr.out]
  | r + 1 => by simp [Tr.out]
def Tr.lds (t : Tr) (g : Gu) : List Int := (List.range t.ss.length).map fun i => t.ld g (i : Nat)
def Tr.tc (t : Tr) : List AV := [.int .i64 t.L, .isl (t.ss.map i1)]
theorem lds_len (t : Tr) (g : Gu) : (t.lds g).length = t.ss.length := by simp [Tr.lds]
theorem lds_get {t : Tr} {g : Gu} {i : Nat} (h : i < t.ss.length) : (t.lds g).getD i 0 = t.ld g i := by simp [Tr.lds, List.getD_eq_getElem?_getD, h]
set_option maxHeartbeats 4000000 in
theorem g19 (d : Dm) (t : Tr) (g : Gu) (H : Of d t) (hg : g.ok d.rs.length) : FnO Tryz.prog 40 [.agg d.cells, .agg g.av, .agg t.tc] (fun r rows => r = .row 5 ∧ rows = [(5, .row false 3 1 ((t.out g t.ss.length).map i1))]) := by
  have hl := H.ok.2.1
  have hLn := H.len
  have hgt : g.ok t.ss.length := by rw [hLn]; exact hg
  have hL : (d.rs.map s2).length = t.ss.length := by rw [hLn]; simp
  have hLs : (t.ss.map i1).length = t.ss.length := by simp
  have hld := fun i => ld_bd H.ok (n := d.rs.length) hg i
  refine fnO 8 ok40 (by simp) ?_
  (conv => whnf); (repeat' (first | (refine bT ?_; conv => whnf) | (refine bF ?_; conv => whnf) | (refine bN ?_) | (refine bD (fun hh => ?_) (fun hh => ?_) <;> first | (exfalso; omega) | (conv => whnf)) | (refine bEq (fun hh => ?_) (fun hh => ?_) <;> first | (exfalso; omega) | (conv => whnf)) | (refine bNe (fun hh => ?_) (fun hh => ?_) <;> first | (exfalso; omega) | (conv => whnf)) | (refine mkI (by omega) (by omega) (by omega) ?_; conv => whnf) | (refine wIn (by omega) ?_; conv => whnf) | (refine nI (by omega) ?_; conv => whnf)))
  refine loop_i (α := Nat) (fun k => [(11, .int .i64 k), (10, .row 5), (9, .row 4), (8, .row 3), (7, .int .i64 (d.rs.map s2).length), (5, .own 2 0), (4, .own 1 0), (3, .own 0 0)]) (fun k => [.box false d.cells, .box false g.av, .box false t.tc, .row false 3 1 ((mix t.ss.length (fun _ => 0) (fun i => t.ld g (i : Nat)) k).map i1), .row false 4 1 ((t.G g 0).map b1), .row false 3 1 ((t.out g 0).map i1), .fresh, .fresh]) (fun k => k ≤ t.ss.length) (fun k => t.ss.length - k) 0 ?_ (by omega) ?_
  · have e1 : (mix t.ss.length (fun _ => 0) (fun i => t.ld g (i : Nat)) 0).map i1 = List.replicate ((d.rs.map s2).length : Int).toNat [.int .i64 0] := by
      rw [mix_zero, hL]; refine List.ext_getElem (by simp) fun i h1 h2 => ?_; simp [i1]
    have e2 : (t.G g 0).map b1 = List.replicate ((d.rs.map s2).length : Int).toNat [.bool false] := by rw [hL]; simp [Tr.G, b1]
    have e3 : (t.out g 0).map i1 = List.replicate ((d.rs.map s2).length : Int).toNat [.int .i64 0] := by rw [hL]; simp [Tr.out, i1]
    rw [e1, e2, e3]; exact (meets_id (by (repeat' apply And.intro) <;> first | rfl | exact True.intro | (intro hh; cases hh)))
  intro k hk
  conv => whnf
  refine bD (fun h3 => ?_) (fun h3 => ?_)
  · have hlt : k < t.ss.length := by omega
    have hmx : ((mix t.ss.length (fun _ => 0) (fun i => t.ld g (i : Nat)) k).map i1).length = t.ss.length := by rw [List.length_map, mix_len]
    have em : ((mix t.ss.length (fun _ => (0 : Int)) (fun i => t.ld g (i : Nat)) k).map i1).getD (k : Int).toNat [] = [.int .i64 0] := by
      rw [Int.toNat_natCast, getD_mapD i1 _ k 0 (by rw [mix_len]; exact hlt), mix_get _ _ _ _ _ hlt, if_neg (by omega)]; rfl
    (conv => whnf); (repeat' (first | (refine bT ?_; conv => whnf) | (refine bF ?_; conv => whnf) | (refine bN ?_) | (refine bD (fun hh => ?_) (fun hh => ?_) <;> first | (exfalso; omega) | (conv => whnf)) | (refine bEq (fun hh => ?_) (fun hh => ?_) <;> first | (exfalso; omega) | (conv => whnf)) | (refine bNe (fun hh => ?_) (fun hh => ?_) <;> first | (exfalso; omega) | (conv => whnf)) | (refine (g20 d t g k H hg (by omega)).callq rfl rfl (fun r (hr : r = _) => ?_); subst hr; conv => whnf) | (refine iaI (by omega) (by omega) em ?_; conv => whnf) | (refine wIn (by omega) ?_; conv => whnf) | (refine nI (by omega) ?_; conv => whnf)))
    refine ⟨k + 1, ?_, by omega, by omega⟩
    rw [mix_succ, List.map_set]
    simp only [Int.natCast_add, Int.natCast_one]
    exact (meets_id (by (repeat' apply And.intro) <;> first | rfl | exact True.intro | (intro hh; cases hh)))
  · have : k = t.ss.length := by omega
    subst this
    rw [mix_full]
    conv => whnf
    refine loop_i (α := Nat) (fun r => [(12, .int .i64 (r + 1 : Nat)), (10, .row 5), (9, .row 4), (8, .row 3), (7, .int .i64 (d.rs.map s2).length), (5, .own 2 0), (4, .own 1 0), (3, .own 0 0)]) (fun r => [.box false d.cells, .box false g.av, .box false t.tc, .row false 3 1 ((t.lds g).map i1), .row false 4 1 ((t.G g r).map b1), .row false 3 1 ((t.out g r).map i1), .fresh, .fresh]) (fun r => r ≤ t.ss.length) (fun r => t.ss.length - r) 0 (meets_id (by (repeat' apply And.intro) <;> first | rfl | exact True.intro | (intro hh; cases hh))) (by omega) ?_
    intro r hr
    have hG := G_len t g r
    have hG1 := G_len t g (r + 1)
    have hO := out_len t g r
    have hO1 := out_len t g (r + 1)
    have hGm : ((t.G g r).map b1).length = (t.G g r).length := by simp
    conv => whnf
    refine bD (fun h4 => ?_) (fun h4 => ?_)
    · have hrn : r < t.ss.length := by omega
      (conv => whnf); (repeat' (first | (refine bT ?_; conv => whnf) | (refine bF ?_; conv => whnf) | (refine bN ?_) | (refine bD (fun hh => ?_) (fun hh => ?_) <;> first | (exfalso; omega) | (conv => whnf)) | (refine bEq (fun hh => ?_) (fun hh => ?_) <;> first | (exfalso; omega) | (conv => whnf)) | (refine bNe (fun hh => ?_) (fun hh => ?_) <;> first | (exfalso; omega) | (conv => whnf)) | (refine wIn (by omega) ?_; conv => whnf) | (refine nI (by omega) ?_; conv => whnf)))
      refine apI (fun e he => ?_) (by simp; omega) ?_
      · obtain ⟨s, _, rfl⟩ := List.mem_map.1 he; exact ⟨rfl, rfl⟩
      (conv => whnf); (repeat' (first | (refine bT ?_; conv => whnf) | (refine bF ?_; conv => whnf) | (refine bN ?_) | (refine bD (fun hh => ?_) (fun hh => ?_) <;> first | (exfalso; omega) | (conv => whnf)) | (refine bEq (fun hh => ?_) (fun hh => ?_) <;> first | (exfalso; omega) | (conv => whnf)) | (refine bNe (fun hh => ?_) (fun hh => ?_) <;> first | (exfalso; omega) | (conv => whnf)) | (refine wIn (by omega) ?_; conv => whnf) | (refine nI (by omega) ?_; conv => whnf)))
      refine loop_i (α := Nat) (fun k => [(14, .int .i64 k), (13, .row 7), (12, .int .i64 (r + 1 : Nat)), (10, .row 5), (9, .row 4), (8, .row 3), (7, .int .i64 (d.rs.map s2).length), (5, .own 2 0), (4, .own 1 0), (3, .own 0 0)]) (fun k => [.box false d.cells, .box false g.av, .box false t.tc, .row false 3 1 ((t.lds g).map i1), .row false 4 1 ((t.G g r).map b1), .row false 3 1 ((mix t.ss.length (fun i => (t.out g r).getD i 0) (fun i => (t.out g (r + 1)).getD i 0) k).map i1), .fresh, .row false 4 1 ((mix t.ss.length (fun i => (t.G g r).getD i false) (fun i => (t.G g (r + 1)).getD i false) k).map b1)]) (fun k => k ≤ t.ss.length) (fun k => t.ss.length - k) 0 ?_ (by omega) ?_
      · have e1 : (mix t.ss.length (fun i => (t.out g r).getD i 0) (fun i => (t.out g (r + 1)).getD i 0) 0).map i1 = (t.out g r).map i1 := by
          rw [mix_zero, ← hO, ← map_getD]
        have e2 : (mix t.ss.length (fun i => (t.G g r).getD i false) (fun i => (t.G g (r + 1)).getD i false) 0).map b1 = [] ++ (t.G g r).map b1 := by
          rw [mix_zero, ← hG, ← map_getD]; rfl
        rw [e1, e2]; exact (meets_id (by (repeat' apply And.intro) <;> first | rfl | exact True.intro | (intro hh; cases hh)))
      intro k hk
      conv => whnf
      refine bD (fun h5 => ?_) (fun h5 => ?_)
      · have hlt : k < t.ss.length := by omega
        have eg : ((t.G g r).map b1).getD (k : Int).toNat [] = [.bool ((t.G g r).getD k false)] := by
          rw [Int.toNat_natCast, getD_mapD b1 _ k false (by omega)]; rfl
        have hb1 : (t.G g (r + 1)).getD k false = ((t.G g r).getD k false || t.cond g (t.G g r) k) := G_succ t g r k hlt
        have ho1 : (t.out g (r + 1)).getD k 0 = if t.cond g (t.G g r) k then ((r + 1 : Nat) : Int) else (t.out g r).getD k 0 := by
          simp [Tr.out, List.getD_eq_getElem?_getD, hlt]
        cases hgk : (t.G g r).getD k false with
        | true =>
          have hcn : t.cond g (t.G g r) k = false := by unfold Tr.cond; rw [hgk]; rfl
          rw [hgk] at eg
          (conv => whnf); (repeat' (first | (refine bT ?_; conv => whnf) | (refine bF ?_; conv => whnf) | (refine bN ?_) | (refine bD (fun hh => ?_) (fun hh => ?_) <;> first | (exfalso; omega) | (conv => whnf)) | (refine bEq (fun hh => ?_) (fun hh => ?_) <;> first | (exfalso; omega) | (conv => whnf)) | (refine bNe (fun hh => ?_) (fun hh => ?_) <;> first | (exfalso; omega) | (conv => whnf)) | (refine iaI (by omega) (by omega) eg ?_; conv => whnf) | (refine wIn (by omega) ?_; conv => whnf) | (refine nI (by omega) ?_; conv => whnf)))
          refine ⟨k + 1, ?_, by omega, by omega⟩
          rw [mix_same _ _ _ k (by show (t.out g r).getD k 0 = _; rw [ho1, hcn]; rfl), mix_same _ _ _ k (by show (t.G g r).getD k false = _; rw [hb1, hcn, hgk]; rfl)]
          simp only [Int.natCast_add, Int.natCast_one]
          exact (meets_id (by (repeat' apply And.intro) <;> first | rfl | exact True.intro | (intro hh; cases hh)))
        | false =>
          rw [hgk] at eg
          have el : ((t.lds g).map i1).getD (k : Int).toNat [] = [.int .i64 (t.ld g k)] := by
            rw [Int.toNat_natCast, getD_mapD i1 _ k 0 (by rw [lds_len]; exact hlt), lds_get hlt]; rfl
          have hLl : ((t.lds g).map i1).length = t.ss.length := by rw [List.length_map, lds_len]
          have es : (t.ss.map i1).getD (k : Int).toNat [] = [.int .i64 (t.ss.getD k 0)] := by
            rw [Int.toNat_natCast, getD_mapD i1 _ k 0 hlt]; rfl
          have ca := g46 t g (t.G g r) (t.lds g) k (-1) H.ok hgt hG rfl hlt (.inl rfl)
          have cb := g46 t g (t.G g r) (t.lds g) k 1 H.ok hgt hG rfl hlt (.inr rfl)
          have hlk := hld k
          have bd : ∀ s : Int, 0 ≤ (sside (t.ld g) (t.G g r) t.ss.length k s).tdiv 2 ∧ (sside (t.ld g) (t.G g r) t.ss.length k s).tdiv 2 ≤ 98010 ∧ (sside (t.ld g) (t.G g r) t.ss.length k s).tdiv 2 = sside (t.ld g) (t.G g r) t.ss.length k s / 2 := fun s => by
            have h1 := sumr_bd hld (by omega) (t.G g r) t.ss.length k s (t.ss.length - 1) 1
            have h2 : (19602 : Int) * ((t.ss.length - 1 : Nat) : Int) ≤ 19602 * 10 := by omega
            have h3 : 0 ≤ sside (t.ld g) (t.G g r) t.ss.length k s ∧ sside (t.ld g) (t.G g r) t.ss.length k s ≤ 196020 := by unfold sside; omega
            rw [Int.tdiv_eq_ediv_of_nonneg h3.1]; omega
          have ba := bd (-1)
          have bb := bd 1
          have hcond : t.cond g (t.G g r) k = decide (t.ss.getD k 0 < t.ld g k + (sside (t.ld g) (t.G g r) t.ss.length k (-1)).tdiv 2 + (sside (t.ld g) (t.G g r) t.ss.length k 1).tdiv 2) := by
            unfold Tr.cond hand
            rw [hgk, ba.2.2, bb.2.2, Int.add_assoc]; rfl
          have e7 : ((mix t.ss.length (fun i => (t.G g r).getD i false) (fun i => (t.G g (r + 1)).getD i false) k).map b1).getD (k : Int).toNat [] = [.bool false] := by
            rw [Int.toNat_natCast, getD_mapD b1 _ k false (by rw [mix_len]; exact hlt), mix_get _ _ _ _ _ hlt, if_neg (by omega), hgk]; rfl
          have e5 : ((mix t.ss.length (fun i => (t.out g r).getD i 0) (fun i => (t.out g (r + 1)).getD i 0) k).map i1).getD (k : Int).toNat [] = [.int .i64 ((t.out g r).getD k 0)] := by
            rw [Int.toNat_natCast, getD_mapD i1 _ k 0 (by rw [mix_len]; exact hlt), mix_get _ _ _ _ _ hlt, if_neg (by omega)]; rfl
          have l7 : ((mix t.ss.length (fun i => (t.G g r).getD i false) (fun i => (t.G g (r + 1)).getD i false) k).map b1).length = t.ss.length := by rw [List.length_map, mix_len]
          have l5 : ((mix t.ss.length (fun i => (t.out g r).getD i 0) (fun i => (t.out g (r + 1)).getD i 0) k).map i1).length = t.ss.length := by rw [List.length_map, mix_len]
          by_cases hc : t.ss.getD k 0 < t.ld g k + (sside (t.ld g) (t.G g r) t.ss.length k (-1)).tdiv 2 + (sside (t.ld g) (t.G g r) t.ss.length k 1).tdiv 2
          · rw [decide_eq_true hc] at hcond
            (conv => whnf); (repeat' (first | (refine bT ?_; conv => whnf) | (refine bF ?_; conv => whnf) | (refine bN ?_) | (refine bD (fun hh => ?_) (fun hh => ?_) <;> first | (exfalso; omega) | (conv => whnf)) | (refine bEq (fun hh => ?_) (fun hh => ?_) <;> first | (exfalso; omega) | (conv => whnf)) | (refine bNe (fun hh => ?_) (fun hh => ?_) <;> first | (exfalso; omega) | (conv => whnf)) | (refine iaI (by omega) (by omega) eg ?_; conv => whnf) | (refine iaI (by omega) (by omega) el ?_; conv => whnf) | (refine iaI (by omega) (by omega) es ?_; conv => whnf) | (refine iaI (by omega) (by omega) e7 ?_; conv => whnf) | (refine iaI (by omega) (by omega) e5 ?_; conv => whnf) | (refine (ca).lendq rfl (fun r (hr : r = _) => ?_); subst hr; refine ⟨rfl, ?_⟩; conv => whnf) | (refine (cb).lendq rfl (fun r (hr : r = _) => ?_); subst hr; refine ⟨rfl, ?_⟩; conv => whnf) | (refine wIn (by omega) ?_; conv => whnf) | (refine nI (by omega) ?_; conv => whnf)))
            refine ⟨k + 1, ?_, by omega, by omega⟩
            rw [mix_succ, mix_succ, List.map_set, List.map_set, hb1, ho1, hcond, hgk]
            simp only [Int.natCast_add, Int.natCast_one]
            exact (meets_id (by (repeat' apply And.intro) <;> first | rfl | exact True.intro | (intro hh; cases hh)))
          · rw [decide_eq_false hc] at hcond
            (conv => whnf); (repeat' (first | (refine bT ?_; conv => whnf) | (refine bF ?_; conv => whnf) | (refine bN ?_) | (refine bD (fun hh => ?_) (fun hh => ?_) <;> first | (exfalso; omega) | (conv => whnf)) | (refine bEq (fun hh => ?_) (fun hh => ?_) <;> first | (exfalso; omega) | (conv => whnf)) | (refine bNe (fun hh => ?_) (fun hh => ?_) <;> first | (exfalso; omega) | (conv => whnf)) | (refine iaI (by omega) (by omega) eg ?_; conv => whnf) | (refine iaI (by omega) (by omega) el ?_; conv => whnf) | (refine iaI (by omega) (by omega) es ?_; conv => whnf) | (refine (ca).lendq rfl (fun r (hr : r = _) => ?_); subst hr; refine ⟨rfl, ?_⟩; conv => whnf) | (refine (cb).lendq rfl (fun r (hr : r = _) => ?_); subst hr; refine ⟨rfl, ?_⟩; conv => whnf) | (refine wIn (by omega) ?_; conv => whnf) | (refine nI (by omega) ?_; conv => whnf)))
            refine ⟨k + 1, ?_, by omega, by omega⟩
            rw [mix_same _ _ _ k (by show (t.out g r).getD k 0 = _; rw [ho1, hcond]; rfl), mix_same _ _ _ k (by show (t.G g r).getD k false = _; rw [hb1, hcond, hgk]; rfl)]
            simp only [Int.natCast_add, Int.natCast_one]
            exact (meets_id (by (repeat' apply And.intro) <;> first | rfl | exact True.intro | (intro hh; cases hh)))
      · have : k = t.ss.length := by omega
        subst this
        rw [mix_full, mix_full]
        have e1 : (List.range t.ss.length).map (fun i => (t.out g (r + 1)).getD i 0) = t.out g (r + 1) := by
          have := map_getD (t.out g (r + 1)) 0
          rw [hO1] at this; exact this.symm
        have e2 : (List.range t.ss.length).map (fun i => (t.G g (r + 1)).getD i false) = t.G g (r + 1) := by
          have := map_getD (t.G g (r + 1)) false
          rw [hG1] at this; exact this.symm
        rw [e1, e2]
        (conv => whnf); (repeat' (first | (refine bT ?_; conv => whnf) | (refine bF ?_; conv => whnf) | (refine bN ?_) | (refine bD (fun hh => ?_) (fun hh => ?_) <;> first | (exfalso; omega) | (conv => whnf)) | (refine bEq (fun hh => ?_) (fun hh => ?_) <;> first | (exfalso; omega) | (conv => whnf)) | (refine bNe (fun hh => ?_) (fun hh => ?_) <;> first | (exfalso; omega) | (conv => whnf)) | (refine wIn (by omega) ?_; conv => whnf) | (refine nI (by omega) ?_; conv => whnf)))
        refine ⟨r + 1, ?_, by omega, by omega⟩
        simp only [Int.natCast_add, Int.natCast_one]
        exact (meets_ren 4 7 (by (repeat' apply And.intro) <;> first | rfl | exact True.intro | (intro hh; cases hh)))
    · have : r = t.ss.length := by omega
      subst this
      (conv => whnf); (repeat' (first | (refine bT ?_; conv => whnf) | (refine bF ?_; conv => whnf) | (refine bN ?_) | (refine bD (fun hh => ?_) (fun hh => ?_) <;> first | (exfalso; omega) | (conv => whnf)) | (refine bEq (fun hh => ?_) (fun hh => ?_) <;> first | (exfalso; omega) | (conv => whnf)) | (refine bNe (fun hh => ?_) (fun hh => ?_) <;> first | (exfalso; omega) | (conv => whnf)) | (refine wIn (by omega) ?_; conv => whnf) | (refine nI (by omega) ?_; conv => whnf)))
      all_goals exact ⟨rfl, rfl⟩

theorem g_ex {t : Tr} {g : Gu} (h0 : ∀ i, 0 ≤ t.ld g i) {i : Nat} : i ∈ t.gone g ↔ ∃ r, (t.G g r).getD i false = true :=
  ⟨fun h => ⟨_, (gone_mem.1 h).2⟩, fun ⟨r, h⟩ => gone_mem.2 ⟨G_in t g r i h, G_mono ⟨rfl, fun _ => Int.le_refl _, h0, fun _ => Int.le_refl _⟩ r i h⟩⟩
theorem out_succ (t : Tr) (g : Gu) (r i : Nat) (hi : i < t.ss.length) : (t.out g (r + 1)).getD i 0 = if t.cond g (t.G g r) i then ((r + 1 : Nat) : Int) else (t.out g r).getD i 0 := by
  simp [Tr.out, List.getD_eq_getElem?_getD, hi]
theorem out_pos (t : Tr) (g : Gu) {i : Nat} (hi : i < t.ss.length) : ∀ r, (0 ≤ (t.out g r).getD i 0 ∧ (t.out g r).getD i 0 ≤ r) ∧ (1 ≤ (t.out g r).getD i 0 ↔ (t.G g r).getD i false = true)
  | 0 => by
    have : (t.out g 0).getD i 0 = 0 := by simp [Tr.out, List.getD_eq_getElem?_getD, hi]
    rw [this, G0]; simp
  | r + 1 => by
    have ih := out_pos t g hi r
    rw [out_succ t g r i hi, G_succ t g r i hi]
    cases t.cond g (t.G g r) i
    · simp only [Bool.false_eq_true, if_false, Bool.or_false]
      refine ⟨by omega, ih.2⟩
    · simp only [if_true, Bool.or_true, iff_true]; omega
theorem out_one (t : Tr) (g : Gu) {i : Nat} (hi : i < t.ss.length) : ∀ r, ((t.out g (r + 1)).getD i 0 = 1 ↔ t.tw g i = true)
  | 0 => by
    rw [out_succ t g 0 i hi, cond0]
    have : (t.out g 0).getD i 0 = 0 := by simp [Tr.out, List.getD_eq_getElem?_getD, hi]
    rw [this]
    cases t.tw g i <;> simp
  | r + 1 => by
    rw [out_succ t g (r + 1) i hi]
    cases hc : t.cond g (t.G g (r + 1)) i
    · simp only [Bool.false_eq_true, if_false]; exact out_one t g hi r
    · simp only [if_true]
      refine ⟨fun h => by omega, fun h => ?_⟩
      have h1 : (t.G g 1).getD i false = true := by rw [G_succ t g 0 i hi, cond0, h]; simp
      have h2 := G_le t g i 1 r h1
      rw [Nat.add_comm 1 r] at h2
      rw [cond_new hc] at h2; cases h2
theorem out_gone {t : Tr} {g : Gu} (h0 : ∀ i, 0 ≤ t.ld g i) {i : Nat} (hi : i < t.ss.length) : 1 ≤ (t.out g t.ss.length).getD i 0 ↔ i ∈ t.gone g := by
  rw [(out_pos t g hi _).2, g_ex h0]
  refine ⟨fun h => ⟨_, h⟩, fun h => ?_⟩
  have h1 := (gone_mem.1 ((g_ex h0).2 h)).2
  have h2 := G_le t g i (t.K g) (t.ss.length - t.K g) h1
  have h3 := (K_ok t g).2.2
  rwa [show t.K g + (t.ss.length - t.K g) = t.ss.length from by omega] at h2
def wnt (o : List Int) (m : Int) : List Nat := lst o.length fun i => decide (1 ≤ o.getD i 0 ∧ o.getD i 0 ≤ m)
theorem wnt_gone {t : Tr} {g : Gu} (h0 : ∀ i, 0 ≤ t.ld g i) : wnt (t.out g t.ss.length) t.ss.length = t.gone g := by
  unfold wnt Tr.gone lst
  rw [out_len]
  refine List.filter_congr fun i hi => ?_
  have hi' : i < t.ss.length := by simpa using hi
  have h1 := out_gone h0 hi'
  have h2 := (out_pos t g hi' t.ss.length).1
  rw [gone_mem] at h1
  rw [Bool.eq_iff_iff]
  simp only [decide_eq_true_eq]
  exact ⟨fun h => (h1.1 h.1).2, fun h => ⟨h1.2 ⟨hi', h⟩, h2.2⟩⟩
theorem g47 (o : List Int) (m : Int) (hn : o.length ≤ 1000) : FnO Tryz.prog 39 [.isl (o.map i1), .int .i64 m] (fun r rows => r = .row 2 ∧ rows = [(2, .row false 3 1 ((wnt o m).map n1))]) := by
  have hL : (o.map i1).length = o.length := by simp
  refine fnO 3 ok39 (by simp) ?_
  conv => whnf
  refine loop_i (α := Nat) (fun k => [(6, .int .i64 k), (5, .row 2), (1, .int .i64 m), (0, .isl (o.map i1))]) (fun k => [.fresh, .fresh, .row false 3 1 ((lst k fun i => decide (1 ≤ o.getD i 0 ∧ o.getD i 0 ≤ m)).map n1)]) (fun k => k ≤ o.length) (fun k => o.length - k) 0 (meets_nil 2 (by (repeat' apply And.intro) <;> first | rfl | exact True.intro | (intro hh; cases hh))) (by omega) ?_
  intro k hk
  conv => whnf
  refine bD (fun h3 => ?_) (fun h3 => ?_)
  · have hlt : k < o.length := by omega
    have hs := lst_succ k fun i => decide (1 ≤ o.getD i 0 ∧ o.getD i 0 ≤ m)
    have hlen := lst_le k fun i => decide (1 ≤ o.getD i 0 ∧ o.getD i 0 ≤ m)
    have eo : (o.map i1).getD (k : Int).toNat [] = [.int .i64 (o.getD k 0)] := by
      rw [Int.toNat_natCast, getD_mapD i1 o k 0 hlt]; rfl
    have c := g34 (o.getD k 0) 1 m
    by_cases hc : 1 ≤ o.getD k 0 ∧ o.getD k 0 ≤ m
    · rw [decide_eq_true hc] at c
      rw [if_pos (decide_eq_true hc)] at hs
      (conv => whnf); (repeat' (first | (refine bT ?_; conv => whnf) | (refine bF ?_; conv => whnf) | (refine bN ?_) | (refine bD (fun hh => ?_) (fun hh => ?_) <;> first | (exfalso; omega) | (conv => whnf)) | (refine bEq (fun hh => ?_) (fun hh => ?_) <;> first | (exfalso; omega) | (conv => whnf)) | (refine bNe (fun hh => ?_) (fun hh => ?_) <;> first | (exfalso; omega) | (conv => whnf)) | (refine iaI (by omega) (by omega) eo ?_; conv => whnf) | (refine (c).callq rfl rfl (fun r (hr : r = _) => ?_); subst hr; conv => whnf) | (refine wIn (by omega) ?_; conv => whnf) | (refine nI (by omega) ?_; conv => whnf)))
      refine apI (by simp [AV.one]) (by rw [List.length_map]; simp only [List.length_cons, List.length_nil]; omega) ?_
      (conv => whnf); (repeat' (first | (refine bT ?_; conv => whnf) | (refine bF ?_; conv => whnf) | (refine bN ?_) | (refine bD (fun hh => ?_) (fun hh => ?_) <;> first | (exfalso; omega) | (conv => whnf)) | (refine bEq (fun hh => ?_) (fun hh => ?_) <;> first | (exfalso; omega) | (conv => whnf)) | (refine bNe (fun hh => ?_) (fun hh => ?_) <;> first | (exfalso; omega) | (conv => whnf)) | (refine wIn (by omega) ?_; conv => whnf) | (refine nI (by omega) ?_; conv => whnf)))
      refine ⟨k + 1, ?_, by omega, by omega⟩
      have e : (lst (k + 1) fun i => decide (1 ≤ o.getD i 0 ∧ o.getD i 0 ≤ m)).map n1 = (lst k fun i => decide (1 ≤ o.getD i 0 ∧ o.getD i 0 ≤ m)).map n1 ++ [[.int .i64 k]] := by rw [hs]; simp [n1]
      rw [e]
      simp only [Int.natCast_add, Int.natCast_one]
      exact (meets_ren 2 1 (by (repeat' apply And.intro) <;> first | rfl | exact True.intro | (intro hh; cases hh)))
    · rw [decide_eq_false hc] at c
      rw [if_neg (by rw [decide_eq_false hc]; simp)] at hs
      (conv => whnf); (repeat' (first | (refine bT ?_; conv => whnf) | (refine bF ?_; conv => whnf) | (refine bN ?_) | (refine bD (fun hh => ?_) (fun hh => ?_) <;> first | (exfalso; omega) | (conv => whnf)) | (refine bEq (fun hh => ?_) (fun hh => ?_) <;> first | (exfalso; omega) | (conv => whnf)) | (refine bNe (fun hh => ?_) (fun hh => ?_) <;> first | (exfalso; omega) | (conv => whnf)) | (refine iaI (by omega) (by omega) eo ?_; conv => whnf) | (refine (c).callq rfl rfl (fun r (hr : r = _) => ?_); subst hr; conv => whnf) | (refine wIn (by omega) ?_; conv => whnf) | (refine nI (by omega) ?_; conv => whnf)))
      refine ⟨k + 1, ?_, by omega, by omega⟩
      rw [hs]
      simp only [Int.natCast_add, Int.natCast_one]
      exact (meets_id (by (repeat' apply And.intro) <;> first | rfl | exact True.intro | (intro hh; cases hh)))
  · have : k = o.length := by omega
    subst this
    (conv => whnf); (repeat' (first | (refine bT ?_; conv => whnf) | (refine bF ?_; conv => whnf) | (refine bN ?_) | (refine bD (fun hh => ?_) (fun hh => ?_) <;> first | (exfalso; omega) | (conv => whnf)) | (refine bEq (fun hh => ?_) (fun hh => ?_) <;> first | (exfalso; omega) | (conv => whnf)) | (refine bNe (fun hh => ?_) (fun hh => ?_) <;> first | (exfalso; omega) | (conv => whnf)) | (refine wIn (by omega) ?_; conv => whnf) | (refine nI (by omega) ?_; conv => whnf)))
    all_goals exact ⟨rfl, rfl⟩
theorem g22 (d : Dm) (t : Tr) (l : List Gu) (H : Of d t) (hl : l.length ≤ 1000) (hg : ∀ g ∈ l, g.ok d.rs.length) : FnA Tryz.prog 42 [.agg d.cells, .isl (l.map Gu.av), .agg t.tc] (· = .bool (t.stands l)) := by
  have hL : (l.map Gu.av).length = l.length := by simp
  have hR : (d.rs.map s2).length = t.ss.length := by rw [H.len]; simp
  have hn := H.ok.2.1
  refine fnA 4 ok42 (by simp) ?_
  conv => whnf
  refine loop_i (α := Nat) (fun k => [(7, .int .i64 k), (5, .own 1 0), (3, .own 0 0), (1, .isl (l.map Gu.av))]) (fun k => [.box false d.cells, .box false t.tc, .fresh, .fresh]) (fun k => k ≤ l.length ∧ ∀ g ∈ l.take k, (t.weak g).isEmpty = true) (fun k => l.length - k) 0 (meets_id (by (repeat' apply And.intro) <;> first | rfl | exact True.intro | (intro hh; cases hh))) ⟨by omega, by simp⟩ ?_
  rintro k ⟨hk, hp⟩
  conv => whnf
  refine bD (fun h3 => ?_) (fun h3 => ?_)
  · have hlt : k < l.length := by omega
    have hgk := hg l[k] (List.getElem_mem hlt)
    have h0 : ∀ i, 0 ≤ t.ld l[k] i := fun i => (ld_bd H.ok (n := d.rs.length) hgk i).1
    have c47 := g47 (t.out l[k] t.ss.length) t.ss.length (by rw [out_len]; omega)
    rw [wnt_gone h0, ← hR] at c47
    have c19 := g19 d t l[k] H hgk
    rw [← hR] at c19
    have hlg : ((t.gone l[k]).map n1).length = (t.gone l[k]).length := by simp
    cases hw : (t.weak l[k]).isEmpty with
    | true =>
      have hge : t.gone l[k] = [] := weak_nil (by simpa using hw)
      rw [hge] at c47
      (conv => whnf); (repeat' (first | (refine bT ?_; conv => whnf) | (refine bF ?_; conv => whnf) | (refine bN ?_) | (refine bD (fun hh => ?_) (fun hh => ?_) <;> first | (exfalso; omega) | (conv => whnf)) | (refine bEq (fun hh => ?_) (fun hh => ?_) <;> first | (exfalso; omega) | (conv => whnf)) | (refine bNe (fun hh => ?_) (fun hh => ?_) <;> first | (exfalso; omega) | (conv => whnf)) | (refine iaI (by omega) (by omega) (getD_map Gu.av l k hlt) ?_; conv => whnf) | (refine (c19).callzq rfl rfl (fun r rows (hr : r = _ ∧ rows = _) => ?_); obtain ⟨hr1, hr2⟩ := hr; subst hr1; subst hr2; refine ⟨rfl, ?_⟩; conv => whnf) | (refine (c47).callzq rfl rfl (fun r rows (hr : r = _ ∧ rows = _) => ?_); obtain ⟨hr1, hr2⟩ := hr; subst hr1; subst hr2; refine ⟨rfl, ?_⟩; conv => whnf) | (refine wIn (by omega) ?_; conv => whnf) | (refine nI (by omega) ?_; conv => whnf)))
      refine ⟨k + 1, ?_, ⟨by omega, gtake_all (p := fun g => (t.weak g).isEmpty) hlt hp hw⟩, by omega⟩
      simp only [Int.natCast_add, Int.natCast_one]
      exact (meets_id (by (repeat' apply And.intro) <;> first | rfl | exact True.intro | (intro hh; cases hh)))
    | false =>
      have hge : 1 ≤ (t.gone l[k]).length := by
        cases hh : t.gone l[k] with
        | nil => rw [gone_nil.1 hh] at hw; cases hw
        | cons x m => simp
      (conv => whnf); (repeat' (first | (refine bT ?_; conv => whnf) | (refine bF ?_; conv => whnf) | (refine bN ?_) | (refine bD (fun hh => ?_) (fun hh => ?_) <;> first | (exfalso; omega) | (conv => whnf)) | (refine bEq (fun hh => ?_) (fun hh => ?_) <;> first | (exfalso; omega) | (conv => whnf)) | (refine bNe (fun hh => ?_) (fun hh => ?_) <;> first | (exfalso; omega) | (conv => whnf)) | (refine iaI (by omega) (by omega) (getD_map Gu.av l k hlt) ?_; conv => whnf) | (refine (c19).callzq rfl rfl (fun r rows (hr : r = _ ∧ rows = _) => ?_); obtain ⟨hr1, hr2⟩ := hr; subst hr1; subst hr2; refine ⟨rfl, ?_⟩; conv => whnf) | (refine (c47).callzq rfl rfl (fun r rows (hr : r = _ ∧ rows = _) => ?_); obtain ⟨hr1, hr2⟩ := hr; subst hr1; subst hr2; refine ⟨rfl, ?_⟩; conv => whnf) | (refine wIn (by omega) ?_; conv => whnf) | (refine nI (by omega) ?_; conv => whnf)))
      all_goals (refine congrArg AV.bool ?_; exact (all_false (p := fun g => (t.weak g).isEmpty) hlt hw).symm)
  · have : k = l.length := by omega
    subst this
    rw [List.take_length] at hp
    have e : t.stands l = true := by unfold Tr.stands; exact List.all_eq_true.2 hp
    rw [e]
    (conv => whnf); (repeat' (first | (refine bT ?_; conv => whnf) | (refine bF ?_; conv => whnf) | (refine bN ?_) | (refine bD (fun hh => ?_) (fun hh => ?_) <;> first | (exfalso; omega) | (conv => whnf)) | (refine bEq (fun hh => ?_) (fun hh => ?_) <;> first | (exfalso; omega) | (conv => whnf)) | (refine bNe (fun hh => ?_) (fun hh => ?_) <;> first | (exfalso; omega) | (conv => whnf)) | (refine wIn (by omega) ?_; conv => whnf) | (refine nI (by omega) ?_; conv => whnf)))
    all_goals rfl

theorem tdiv_floor {a b : Int} (hb : 1 ≤ b) : a / b = if a.tmod b < 0 then a.tdiv b - 1 else a.tdiv b := by
  have e := Int.mul_tdiv_add_tmod a b
  have h1 := Int.tmod_lt_of_pos a (show 0 < b by omega)
  have h2 := Int.lt_tmod_of_pos a (show 0 < b by omega)
  split
  · refine ((Int.ediv_emod_unique (show 0 < b by omega) (r := a.tmod b + b)).2 ⟨?_, by omega, by omega⟩).1
    rw [Int.mul_sub, Int.mul_one]; omega
  · exact ((Int.ediv_emod_unique (show 0 < b by omega) (r := a.tmod b)).2 ⟨by omega, by omega, h1⟩).1
theorem lf_eq {n e : Int} (he : 1 ≤ e) : lf (n, e) = min 200 (max 0 (100 + 100 * n / e)) := by
  have h1 : (100 * (e + n)) / e = 100 + 100 * n / e := by
    rw [Int.mul_add, Int.add_comm, Int.add_mul_ediv_right _ _ (by omega)]; omega
  unfold lf
  simp only
  by_cases h0 : 0 ≤ 100 * (e + n)
  · rw [show max 0 (100 * (e + n)) = 100 * (e + n) from by omega, h1]
    have := Int.ediv_nonneg h0 (show 0 ≤ e by omega)
    rw [h1] at this; omega
  · rw [show max 0 (100 * (e + n)) = 0 from by omega]
    have := Int.ediv_neg_of_neg_of_pos (show 100 * (e + n) < 0 by omega) (show 0 < e by omega)
    rw [h1] at this
    rw [Int.zero_ediv]; omega
theorem g13 (d : Dm) (a s : Int) (h : d.f.ok) (ha : 1 ≤ a ∧ a ≤ 2000) (hs : 0 ≤ s ∧ s ≤ 2000) : FnA Tryz.prog 62 [.agg d.cells, .agg [.int .i64 a, .int .i64 s]] (· = .int .i64 (lf (rq (cosQ d.f.lo (a, s))))) := by
  have hlo := lo_bd h
  have hb := cos_bd2 hlo ha hs
  have hr := red_bd hb.1 hb.2
  have hk := k38 d.f.lo a s hlo ha hs
  change FnA Tryz.prog 78 [.int .i64 d.f.lo, .agg [.int .i64 a, .int .i64 s]] (· = .tup [.agg [.int .i64 (redN (cosN d.f.lo a s) (cosD d.f.lo a)), .int .i64 (redD (cosN d.f.lo a s) (cosD d.f.lo a))], .bool true]) at hk
  have e : lf (rq (cosQ d.f.lo (a, s))) = lf (redN (cosN d.f.lo a s) (cosD d.f.lo a), redD (cosN d.f.lo a s) (cosD d.f.lo a)) := rfl
  rw [e]
  generalize redN (cosN d.f.lo a s) (cosD d.f.lo a) = N at *
  generalize redD (cosN d.f.lo a s) (cosD d.f.lo a) = D at *
  have hq := lf_eq (n := N) hr.2.1
  have hf := tdiv_floor (a := 100 * N) hr.2.1
  have h1 := tdiv_abs (a := 100 * N) hr.2.1 10000000000 (by omega) (by omega)
  rw [hq]
  refine fnA 3 ok62 (by simp) ?_
  (conv => whnf); (repeat' (first | (refine bT ?_; conv => whnf) | (refine bF ?_; conv => whnf) | (refine bN ?_) | (refine bD (fun hh => ?_) (fun hh => ?_) <;> first | (exfalso; omega) | (conv => whnf)) | (refine bEq (fun hh => ?_) (fun hh => ?_) <;> first | (exfalso; omega) | (conv => whnf)) | (refine bNe (fun hh => ?_) (fun hh => ?_) <;> first | (exfalso; omega) | (conv => whnf)) | (refine (hk).callq rfl rfl (fun r (hr : r = _) => ?_); subst hr; conv => whnf) | (refine wIn (by omega) ?_; conv => whnf) | (refine nI (by omega) ?_; conv => whnf)))
  · simp only [if_true, Bool.false_eq_true, if_false]; rw [hf, if_pos (by assumption)]
  · simp only [if_true, Bool.false_eq_true, if_false]; rw [hf, if_neg (by assumption)]
theorem g15 (d : Dm) (g : Gu) (hn : d.rs.length ≤ 1000) (hs : d.sh.length ≤ 1000) (h : d.errC [g] = 0) : FnO Tryz.prog 12 [.agg d.cells, .agg g.av] (fun r rows => r = .tup [.row 11, .int .i64 0] ∧ rows = [(11, .row false 39 2 (((List.range d.rs.length).map fun i => (d.best.ld g (i : Nat), d.worst.ld g (i : Nat))).map s2))]) := by
  obtain ⟨h1, h2⟩ := errC_ok h
  have hg := (okCl_g h2).2 g (by simp)
  have hL : (d.rs.map s2).length = d.rs.length := by simp
  have hb := best_len d
  have hw := worst_len d
  have hbo := best_ok h1
  have hwo := worst_ok h1
  refine fnO 12 ok12 (by simp) ?_
  (conv => whnf); (repeat' (first | (refine bT ?_; conv => whnf) | (refine bF ?_; conv => whnf) | (refine bN ?_) | (refine bD (fun hh => ?_) (fun hh => ?_) <;> first | (exfalso; omega) | (conv => whnf)) | (refine bEq (fun hh => ?_) (fun hh => ?_) <;> first | (exfalso; omega) | (conv => whnf)) | (refine bNe (fun hh => ?_) (fun hh => ?_) <;> first | (exfalso; omega) | (conv => whnf)) | (refine (g41 d [g] hn hs h).callzq rfl rfl (fun r rows (hr : r = _ ∧ rows = _) => ?_); obtain ⟨hr1, hr2⟩ := hr; subst hr1; subst hr2; refine ⟨rfl, ?_⟩; conv => whnf) | (refine wIn (by omega) ?_; conv => whnf) | (refine nI (by omega) ?_; conv => whnf)))
  refine loop_i (α := Nat) (fun k => [(25, .int .i64 k), (24, .int .i64 (d.rs.map s2).length), (9, .row 11), (7, .own 8 0), (6, .own 7 0), (3, .own 1 0)]) (fun k => [.fresh, .box false g.av, .fresh, .row false 3 1 (d.best.ss.map i1), .row false 3 1 (d.worst.ss.map i1), .fresh, .fresh, .box false [.int .i64 d.f.l0, .row 3, .isl (d.sh.map i1)], .box false [.int .i64 d.f.l1, .row 4, .isl (d.sh.map i1)], .fresh, .fresh, .row false 39 2 (((List.range k).map fun i => (d.best.ld g (i : Nat), d.worst.ld g (i : Nat))).map s2)]) (fun k => k ≤ d.rs.length) (fun k => d.rs.length - k) 0 (meets_nil 11 (by (repeat' apply And.intro) <;> first | rfl | exact True.intro | (intro hh; cases hh))) (by omega) ?_
  intro k hk
  conv => whnf
  refine bD (fun h3 => ?_) (fun h3 => ?_)
  · have hlt : k < d.rs.length := by omega
    have c1 := g42 d.best g k hbo (by rw [hb]; exact hg) (by omega) (by omega)
    have c2 := g42 d.worst g k hwo (by rw [hw]; exact hg) (by omega) (by omega)
    (conv => whnf); (repeat' (first | (refine bT ?_; conv => whnf) | (refine bF ?_; conv => whnf) | (refine bN ?_) | (refine bD (fun hh => ?_) (fun hh => ?_) <;> first | (exfalso; omega) | (conv => whnf)) | (refine bEq (fun hh => ?_) (fun hh => ?_) <;> first | (exfalso; omega) | (conv => whnf)) | (refine bNe (fun hh => ?_) (fun hh => ?_) <;> first | (exfalso; omega) | (conv => whnf)) | (refine (c1).lendq rfl (fun r (hr : r = _) => ?_); subst hr; refine ⟨rfl, ?_⟩; conv => whnf) | (refine (c2).lendq rfl (fun r (hr : r = _) => ?_); subst hr; refine ⟨rfl, ?_⟩; conv => whnf) | (refine wIn (by omega) ?_; conv => whnf) | (refine nI (by omega) ?_; conv => whnf)))
    refine apI (by simp [AV.one]) (by simp; omega) ?_
    (conv => whnf); (repeat' (first | (refine bT ?_; conv => whnf) | (refine bF ?_; conv => whnf) | (refine bN ?_) | (refine bD (fun hh => ?_) (fun hh => ?_) <;> first | (exfalso; omega) | (conv => whnf)) | (refine bEq (fun hh => ?_) (fun hh => ?_) <;> first | (exfalso; omega) | (conv => whnf)) | (refine bNe (fun hh => ?_) (fun hh => ?_) <;> first | (exfalso; omega) | (conv => whnf)) | (refine wIn (by omega) ?_; conv => whnf) | (refine nI (by omega) ?_; conv => whnf)))
    refine ⟨k + 1, ?_, by omega, by omega⟩
    have e : ((List.range (k + 1)).map fun i => (d.best.ld g (i : Nat), d.worst.ld g (i : Nat))).map s2 = ((List.range k).map fun i => (d.best.ld g (i : Nat), d.worst.ld g (i : Nat))).map s2 ++ [[.int .i64 (d.best.ld g k), .int .i64 (d.worst.ld g k)]] := by
      rw [List.range_succ]; simp [s2]
    rw [e]
    simp only [Int.natCast_add, Int.natCast_one]
    exact (meets_ren 11 10 (by (repeat' apply And.intro) <;> first | rfl | exact True.intro | (intro hh; cases hh)))
  · have : k = d.rs.length := by omega
    subst this
    (conv => whnf); (repeat' (first | (refine bT ?_; conv => whnf) | (refine bF ?_; conv => whnf) | (refine bN ?_) | (refine bD (fun hh => ?_) (fun hh => ?_) <;> first | (exfalso; omega) | (conv => whnf)) | (refine bEq (fun hh => ?_) (fun hh => ?_) <;> first | (exfalso; omega) | (conv => whnf)) | (refine bNe (fun hh => ?_) (fun hh => ?_) <;> first | (exfalso; omega) | (conv => whnf)) | (refine wIn (by omega) ?_; conv => whnf) | (refine nI (by omega) ?_; conv => whnf)))
    all_goals exact ⟨rfl, rfl⟩

theorem g61z (f : Frm) (i : Nat) (hok : f.ok) (hi : i < f.ss.length) : FnA Tryz.prog 61 [.agg f.cells, .int .i64 i] (· = .isl ((f.sec i).sides.map pairAV)) := by
  have hL : (f.ss.map Sec.av).length = f.ss.length := by simp
  have hn := hok.2.1
  have hs := Frm.sec_ok hok hi
  refine fnA 5 ok61 (by simp) ?_
  (conv => whnf); (repeat' (first | (refine bT ?_; conv => whnf) | (refine bF ?_; conv => whnf) | (refine bN ?_) | (refine bD (fun hh => ?_) (fun hh => ?_) <;> first | (exfalso; omega) | (conv => whnf)) | (refine bEq (fun hh => ?_) (fun hh => ?_) <;> first | (exfalso; omega) | (conv => whnf)) | (refine bNe (fun hh => ?_) (fun hh => ?_) <;> first | (exfalso; omega) | (conv => whnf)) | (refine wIn (by omega) ?_; conv => whnf) | (refine nI (by omega) ?_; conv => whnf)))
  refine iaI (by omega) (by omega) (f.sec_get hi) ?_
  generalize hS : f.sec ((i : Int).toNat) = s
  have hs : s.ok := by rw [← hS]; exact hs
  have hS' : f.sec i = s := hS
  rw [hS']
  obtain ⟨ea, eb, n1, n2, n3, n4⟩ := nab hs
  have h1 := hs.1
  have h2 := hs.2.1
  unfold okSpan at h1 h2
  (conv => whnf); (repeat' (first | (refine bT ?_; conv => whnf) | (refine bF ?_; conv => whnf) | (refine bN ?_) | (refine bD (fun hh => ?_) (fun hh => ?_) <;> first | (exfalso; omega) | (conv => whnf)) | (refine bEq (fun hh => ?_) (fun hh => ?_) <;> first | (exfalso; omega) | (conv => whnf)) | (refine bNe (fun hh => ?_) (fun hh => ?_) <;> first | (exfalso; omega) | (conv => whnf)) | (refine wIn (by omega) ?_; conv => whnf) | (refine nI (by omega) ?_; conv => whnf)))
  refine loop_i (α := Nat) (fun x => [(7, .int .i64 (s.al + x)), (6, .row 4), (5, .own 1 0)]) (fun x => [.fresh, .box false s.av, .fresh, .fresh, .row false 99 2 (s.rows (x * s.nb))]) (fun x => x ≤ s.na) (fun x => s.na - x) 0 ?_ (by omega) ?_
  · simp only [Int.natCast_zero, Int.add_zero, Nat.zero_mul]
    exact meets_nil 4 (by (repeat' apply And.intro) <;> first | rfl | trivial | (intro hh; cases hh))
  intro x hx
  conv => whnf
  refine bD (fun h3 => ?_) (fun h3 => ?_)
  · conv => whnf
    refine loop_i (α := Nat) (fun y => [(8, .int .i64 (s.sl + y)), (7, .int .i64 (s.al + x)), (6, .row 4), (5, .own 1 0)]) (fun y => [.fresh, .box false s.av, .fresh, .fresh, .row false 99 2 (s.rows (x * s.nb + y))]) (fun y => y ≤ s.nb) (fun y => s.nb - y) 0 ?_ (by omega) ?_
    · simp only [Int.natCast_zero, Int.add_zero, Nat.add_zero]
      exact (meets_id (by (repeat' apply And.intro) <;> first | rfl | exact True.intro | (intro hh; cases hh)))
    intro y hy
    conv => whnf
    refine bD (fun h4 => ?_) (fun h4 => ?_)
    · conv => whnf
      have hk : x * s.nb ≤ 7 * 7 := Nat.mul_le_mul (by omega) n2
      have hsd := side_ij s x y (by omega)
      refine apI (by simp [AV.one]) (by rw [rows_len]; simp; omega) ?_
      (conv => whnf); (repeat' (first | (refine bT ?_; conv => whnf) | (refine bF ?_; conv => whnf) | (refine bN ?_) | (refine bD (fun hh => ?_) (fun hh => ?_) <;> first | (exfalso; omega) | (conv => whnf)) | (refine bEq (fun hh => ?_) (fun hh => ?_) <;> first | (exfalso; omega) | (conv => whnf)) | (refine bNe (fun hh => ?_) (fun hh => ?_) <;> first | (exfalso; omega) | (conv => whnf)) | (refine wIn (by omega) ?_; conv => whnf) | (refine nI (by omega) ?_; conv => whnf)))
      refine ⟨y + 1, ?_, by omega, by omega⟩
      have e : s.rows (x * s.nb + (y + 1)) = s.rows (x * s.nb + y) ++ [[.int .i64 (s.al + x), .int .i64 (s.sl + y)]] := by
        rw [← Nat.add_assoc, rows_succ, hsd]; rfl
      rw [e]
      simp only [Int.natCast_add, Int.natCast_one, ← Int.add_assoc]
      exact meets_ren 4 3 (by (repeat' apply And.intro) <;> first | rfl | trivial | (intro h; cases h))
    · conv => whnf
      refine wIn (by omega) ?_
      have : y = s.nb := by omega
      subst this
      refine ⟨x + 1, ?_, by omega, by omega⟩
      simp only [Int.natCast_add, Int.natCast_one, ← Int.add_assoc, Nat.add_mul, Nat.one_mul]
      exact (meets_id (by (repeat' apply And.intro) <;> first | rfl | exact True.intro | (intro hh; cases hh)))
  · conv => whnf
    have : x = s.na := by omega
    subst this
    rfl

def Frm.LF (f : Frm) (q : Int × Int) : Int := lf (rq (cosQ f.lo q))
theorem foldl_min {g : Int × Int → Int} {x : Int} : ∀ (l : List (Int × Int)) (m : Int), (∀ q ∈ l, x ≤ g q) → x ≤ m → (m = x ∨ ∃ q ∈ l, g q = x) → l.foldl (fun m q => min m (g q)) m = x
  | [], m, _, _, h => by rcases h with h | ⟨q, hq, _⟩; exact h; cases hq
  | q :: l, m, h1, h2, h3 => by
    refine foldl_min l (min m (g q)) (fun p hp => h1 p (by simp [hp])) (by have := h1 q (by simp); omega) ?_
    rcases h3 with h3 | ⟨p, hp, e⟩
    · exact .inl (by have := h1 q (by simp); omega)
    · rcases List.mem_cons.1 hp with rfl | hp
      · exact .inl (by omega)
      · exact .inr ⟨p, hp, e⟩
theorem foldl_max {g : Int × Int → Int} {x : Int} : ∀ (l : List (Int × Int)) (m : Int), (∀ q ∈ l, g q ≤ x) → m ≤ x → (m = x ∨ ∃ q ∈ l, g q = x) → l.foldl (fun m q => max m (g q)) m = x
  | [], m, _, _, h => by rcases h with h | ⟨q, hq, _⟩; exact h; cases hq
  | q :: l, m, h1, h2, h3 => by
    refine foldl_max l (max m (g q)) (fun p hp => h1 p (by simp [hp])) (by have := h1 q (by simp); omega) ?_
    rcases h3 with h3 | ⟨p, hp, e⟩
    · exact .inl (by have := h1 q (by simp); omega)
    · rcases List.mem_cons.1 hp with rfl | hp
      · exact .inl (by omega)
      · exact .inr ⟨p, hp, e⟩
theorem lift_folds {f : Frm} (h : f.ok) : f.s0.sides.foldl (fun m q => min m (f.LF q)) 200 = f.l0 ∧ f.s0.sides.foldl (fun m q => max m (f.LF q)) 0 = f.l1 := by
  obtain ⟨⟨q, hq, e⟩, ⟨q', hq', e'⟩⟩ := cosF_mem f.s0 f.lo (fst_side (s0_ok h))
  have hl := l01_bd h
  refine ⟨foldl_min _ _ (fun q hq => (l01_side h hq).1) (by omega) (.inr ⟨q, hq, ?_⟩), foldl_max _ _ (fun q hq => (l01_side h hq).2) (by omega) (.inr ⟨q', hq', ?_⟩)⟩
  · unfold Frm.LF Frm.l0 cosQ; rw [← e]
  · unfold Frm.LF Frm.l1 cosQ; rw [← e']

theorem g32z (d : Dm) (h : d.f.ok) : FnA Tryz.prog 32 [.agg d.cells] (· = .agg [.int .i64 d.f.l0, .int .i64 d.f.l1]) := by
  have h1 := h.1
  have hs0 := s0_ok h
  have c61 := g61z d.f 0 h (by omega)
  change FnA Tryz.prog 61 [.agg d.f.cells, .int .i64 (0 : Nat)] (· = .isl (d.f.s0.sides.map pairAV)) at c61
  have hlen : (d.f.s0.sides.map pairAV).length = d.f.s0.sides.length := by simp
  have hfl := lift_folds h
  have hsz := sides_len d.f.s0
  have hnab := nab hs0
  have hnn : d.f.s0.na * d.f.s0.nb ≤ 7 * 7 := Nat.mul_le_mul hnab.2.2.1 hnab.2.2.2.1
  have hsa := hs0.1
  have hss := hs0.2.1
  unfold okSpan at hsa hss
  refine fnA 4 ok32 (by simp) ?_
  (conv => whnf); (repeat' (first | (refine bT ?_; conv => whnf) | (refine bF ?_; conv => whnf) | (refine bN ?_) | (refine bD (fun hh => ?_) (fun hh => ?_) <;> first | (exfalso; omega) | (conv => whnf)) | (refine bEq (fun hh => ?_) (fun hh => ?_) <;> first | (exfalso; omega) | (conv => whnf)) | (refine bNe (fun hh => ?_) (fun hh => ?_) <;> first | (exfalso; omega) | (conv => whnf)) | (refine (c61).callzq rfl rfl (fun r (hr : r = _) => ?_); subst hr; conv => whnf) | (refine wIn (by omega) ?_; conv => whnf) | (refine nI (by omega) ?_; conv => whnf)))
  refine loop_i (α := Nat) (fun k => [(5, .int .i64 k), (4, .own 3 0), (3, .isl (d.f.s0.sides.map pairAV)), (2, .own 1 0), (1, .own 0 0)]) (fun k => [.box false d.cells, .box false [.int .i64 0, .int .i64 0], .fresh, .box false [.int .i64 ((d.f.s0.sides.take k).foldl (fun m q => min m (d.f.LF q)) 200), .int .i64 ((d.f.s0.sides.take k).foldl (fun m q => max m (d.f.LF q)) 0)]]) (fun k => k ≤ d.f.s0.sides.length) (fun k => d.f.s0.sides.length - k) 0 (meets_id (by (repeat' apply And.intro) <;> first | rfl | exact True.intro | (intro hh; cases hh))) (by omega) ?_
  intro k hk
  conv => whnf
  refine bD (fun h3 => ?_) (fun h3 => ?_)
  · have hlt : k < d.f.s0.sides.length := by omega
    obtain ⟨q, hq⟩ : ∃ q, d.f.s0.sides[k] = q := ⟨_, rfl⟩
    have hqm : q ∈ d.f.s0.sides := by rw [← hq]; exact List.getElem_mem hlt
    have hside := mem_sides.1 hqm
    have hrow : (d.f.s0.sides.map pairAV).getD (k : Int).toNat [] = [.int .i64 q.1, .int .i64 q.2] := by
      rw [Int.toNat_natCast, getD_map pairAV _ k hlt, hq]; rfl
    have c := g13 d q.1 q.2 h (by omega) (by omega)
    change FnA Tryz.prog 62 [.agg d.cells, .agg [.int .i64 q.1, .int .i64 q.2]] (· = .int .i64 (d.f.LF q)) at c
    (conv => whnf); (repeat' (first | (refine bT ?_; conv => whnf) | (refine bF ?_; conv => whnf) | (refine bN ?_) | (refine bD (fun hh => ?_) (fun hh => ?_) <;> first | (exfalso; omega) | (conv => whnf)) | (refine bEq (fun hh => ?_) (fun hh => ?_) <;> first | (exfalso; omega) | (conv => whnf)) | (refine bNe (fun hh => ?_) (fun hh => ?_) <;> first | (exfalso; omega) | (conv => whnf)) | (refine iaI (by omega) (by omega) hrow ?_; conv => whnf) | (refine (c).callq rfl rfl (fun r (hr : r = _) => ?_); subst hr; conv => whnf) | (refine wIn (by omega) ?_; conv => whnf) | (refine nI (by omega) ?_; conv => whnf)))
    refine ⟨k + 1, ?_, by omega, by omega⟩
    rw [List.take_succ_eq_append_getElem hlt, hq, List.foldl_append, List.foldl_append]
    simp only [Int.natCast_add, Int.natCast_one]
    exact (meets_id (by (repeat' apply And.intro) <;> first | rfl | exact True.intro | (intro hh; cases hh)))
  · have : k = d.f.s0.sides.length := by omega
    subst this
    rw [List.take_length, hfl.1, hfl.2]
    (conv => whnf); (repeat' (first | (refine bT ?_; conv => whnf) | (refine bF ?_; conv => whnf) | (refine bN ?_) | (refine bD (fun hh => ?_) (fun hh => ?_) <;> first | (exfalso; omega) | (conv => whnf)) | (refine bEq (fun hh => ?_) (fun hh => ?_) <;> first | (exfalso; omega) | (conv => whnf)) | (refine bNe (fun hh => ?_) (fun hh => ?_) <;> first | (exfalso; omega) | (conv => whnf)) | (refine wIn (by omega) ?_; conv => whnf) | (refine nI (by omega) ?_; conv => whnf)))
    all_goals rfl
theorem g35z (d : Dm) (l : List Gu) (hf : d.f.ss.length ≤ 1000) (hn : d.rs.length ≤ 1000) (hs : d.sh.length ≤ 1000) (hl : l.length ≤ 1000) : FnA Tryz.prog 35 [.agg d.cells, .isl (l.map Gu.av)] (· = .int .i64 (d.errC l)) := by
  have c1 := g29 d hf hn hs
  have c2 := g33 d l hn (by omega)
  unfold Dm.err at c1
  unfold Dm.errC
  refine fnA 1 ok35 (by simp) ?_
  cases hb : d.okB <;> rw [hb] at c1
  · rw [if_neg (by simp)] at c1
    (conv => whnf); (repeat' (first | (refine bT ?_; conv => whnf) | (refine bF ?_; conv => whnf) | (refine bN ?_) | (refine bD (fun hh => ?_) (fun hh => ?_) <;> first | (exfalso; omega) | (conv => whnf)) | (refine bEq (fun hh => ?_) (fun hh => ?_) <;> first | (exfalso; omega) | (conv => whnf)) | (refine bNe (fun hh => ?_) (fun hh => ?_) <;> first | (exfalso; omega) | (conv => whnf)) | (refine (c1).callq rfl rfl (fun r (hr : r = _) => ?_); subst hr; conv => whnf) | (refine wIn (by omega) ?_; conv => whnf) | (refine nI (by omega) ?_; conv => whnf)))
    all_goals rfl
  · rw [if_pos rfl] at c1
    cases hc : okCl d.rs.length l <;> rw [hc] at c2
    · (conv => whnf); (repeat' (first | (refine bT ?_; conv => whnf) | (refine bF ?_; conv => whnf) | (refine bN ?_) | (refine bD (fun hh => ?_) (fun hh => ?_) <;> first | (exfalso; omega) | (conv => whnf)) | (refine bEq (fun hh => ?_) (fun hh => ?_) <;> first | (exfalso; omega) | (conv => whnf)) | (refine bNe (fun hh => ?_) (fun hh => ?_) <;> first | (exfalso; omega) | (conv => whnf)) | (refine (c1).callq rfl rfl (fun r (hr : r = _) => ?_); subst hr; conv => whnf) | (refine (c2).callq rfl rfl (fun r (hr : r = _) => ?_); subst hr; conv => whnf) | (refine wIn (by omega) ?_; conv => whnf) | (refine nI (by omega) ?_; conv => whnf)))
      all_goals rfl
    · (conv => whnf); (repeat' (first | (refine bT ?_; conv => whnf) | (refine bF ?_; conv => whnf) | (refine bN ?_) | (refine bD (fun hh => ?_) (fun hh => ?_) <;> first | (exfalso; omega) | (conv => whnf)) | (refine bEq (fun hh => ?_) (fun hh => ?_) <;> first | (exfalso; omega) | (conv => whnf)) | (refine bNe (fun hh => ?_) (fun hh => ?_) <;> first | (exfalso; omega) | (conv => whnf)) | (refine (c1).callq rfl rfl (fun r (hr : r = _) => ?_); subst hr; conv => whnf) | (refine (c2).callq rfl rfl (fun r (hr : r = _) => ?_); subst hr; conv => whnf) | (refine wIn (by omega) ?_; conv => whnf) | (refine nI (by omega) ?_; conv => whnf)))
      all_goals rfl

theorem g38z (d : Dm) (hb : d.okB = true) : FnA Tryz.prog 38 [.agg d.cells] (· = .tup [.agg d.best.tc, .agg d.worst.tc]) := by
  have h' := okB_iff.1 hb
  have hn := h'.2.1
  have c32 := g32z d h'.1
  have hL : (d.rs.map s2).length = d.rs.length := by simp
  refine fnA 10 ok38 (by simp) ?_
  (conv => whnf); (repeat' (first | (refine bT ?_; conv => whnf) | (refine bF ?_; conv => whnf) | (refine bN ?_) | (refine bD (fun hh => ?_) (fun hh => ?_) <;> first | (exfalso; omega) | (conv => whnf)) | (refine bEq (fun hh => ?_) (fun hh => ?_) <;> first | (exfalso; omega) | (conv => whnf)) | (refine bNe (fun hh => ?_) (fun hh => ?_) <;> first | (exfalso; omega) | (conv => whnf)) | (refine (c32).callq rfl rfl (fun r (hr : r = _) => ?_); subst hr; conv => whnf) | (refine wIn (by omega) ?_; conv => whnf) | (refine nI (by omega) ?_; conv => whnf)))
  refine loop_i (α := Nat) (fun k => [(5, .int .i64 k), (3, .own 2 0), (2, .own 1 0), (1, .own 0 0)]) (fun k => [.box false d.cells, .box false [.int .i64 d.f.l0, .row 8], .box false [.int .i64 d.f.l1, .row 9], .fresh, .fresh, .fresh, .fresh, .fresh, .row false 3 1 (((d.rs.take k).map (·.2)).map i1), .row false 3 1 (((d.rs.take k).map (·.1)).map i1)]) (fun k => k ≤ d.rs.length) (fun k => d.rs.length - k) 0 (meets_as [(8, none), (9, none)] (by (repeat' apply And.intro) <;> first | rfl | exact True.intro | (intro hh; cases hh))) (by omega) ?_
  intro k hk
  conv => whnf
  refine bD (fun h3 => ?_) (fun h3 => ?_)
  · have hlt : k < d.rs.length := by omega
    have e1 := take_mapsnoc (·.2) d.rs k hlt
    have e2 := take_mapsnoc (·.1) d.rs k hlt
    have l1 : ((d.rs.take k).map (·.2)).length ≤ 1000 := by simp; omega
    have l2 : ((d.rs.take k).map (·.1)).length ≤ 1000 := by simp; omega
    (conv => whnf); (repeat' (first | (refine bT ?_; conv => whnf) | (refine bF ?_; conv => whnf) | (refine bN ?_) | (refine bD (fun hh => ?_) (fun hh => ?_) <;> first | (exfalso; omega) | (conv => whnf)) | (refine bEq (fun hh => ?_) (fun hh => ?_) <;> first | (exfalso; omega) | (conv => whnf)) | (refine bNe (fun hh => ?_) (fun hh => ?_) <;> first | (exfalso; omega) | (conv => whnf)) | (refine iaI (by omega) (by omega) (getD_map s2 d.rs k hlt) ?_; conv => whnf) | (refine wIn (by omega) ?_; conv => whnf) | (refine nI (by omega) ?_; conv => whnf)))
    refine apI (by simp [AV.one]) (by simp; omega) ?_
    (conv => whnf); (repeat' (first | (refine bT ?_; conv => whnf) | (refine bF ?_; conv => whnf) | (refine bN ?_) | (refine bD (fun hh => ?_) (fun hh => ?_) <;> first | (exfalso; omega) | (conv => whnf)) | (refine bEq (fun hh => ?_) (fun hh => ?_) <;> first | (exfalso; omega) | (conv => whnf)) | (refine bNe (fun hh => ?_) (fun hh => ?_) <;> first | (exfalso; omega) | (conv => whnf)) | (refine wIn (by omega) ?_; conv => whnf) | (refine nI (by omega) ?_; conv => whnf)))
    refine apI (by simp [AV.one]) (by simp; omega) ?_
    (conv => whnf); (repeat' (first | (refine bT ?_; conv => whnf) | (refine bF ?_; conv => whnf) | (refine bN ?_) | (refine bD (fun hh => ?_) (fun hh => ?_) <;> first | (exfalso; omega) | (conv => whnf)) | (refine bEq (fun hh => ?_) (fun hh => ?_) <;> first | (exfalso; omega) | (conv => whnf)) | (refine bNe (fun hh => ?_) (fun hh => ?_) <;> first | (exfalso; omega) | (conv => whnf)) | (refine wIn (by omega) ?_; conv => whnf) | (refine nI (by omega) ?_; conv => whnf)))
    refine ⟨k + 1, ?_, by omega, by omega⟩
    rw [e1, e2]
    simp only [Int.natCast_add, Int.natCast_one, List.map_append, List.map_cons, List.map_nil]
    exact (meets_as [(8, some 5), (9, some 7)] (by (repeat' apply And.intro) <;> first | rfl | exact True.intro | (intro hh; cases hh)))
  · have : k = d.rs.length := by omega
    subst this
    rw [List.take_length]
    (conv => whnf); (repeat' (first | (refine bT ?_; conv => whnf) | (refine bF ?_; conv => whnf) | (refine bN ?_) | (refine bD (fun hh => ?_) (fun hh => ?_) <;> first | (exfalso; omega) | (conv => whnf)) | (refine bEq (fun hh => ?_) (fun hh => ?_) <;> first | (exfalso; omega) | (conv => whnf)) | (refine bNe (fun hh => ?_) (fun hh => ?_) <;> first | (exfalso; omega) | (conv => whnf)) | (refine wIn (by omega) ?_; conv => whnf) | (refine nI (by omega) ?_; conv => whnf)))
    all_goals rfl

theorem of_best {d : Dm} (h : d.okB = true) : Of d d.best := ⟨best_ok h, best_len d, rfl⟩
theorem of_worst {d : Dm} (h : d.okB = true) : Of d d.worst := ⟨worst_ok h, worst_len d, rfl⟩
theorem g15ze (d : Dm) (g : Gu) (hf : d.f.ss.length ≤ 1000) (hn : d.rs.length ≤ 1000) (hs : d.sh.length ≤ 1000) (h : d.errC [g] ≠ 0) : FnA Tryz.prog 15 [.agg d.cells, .agg g.av] (· = .tup [.isl [], .isl [], .int .i64 (d.errC [g])]) := by
  have c := g35z d [g] hf hn hs (by simp)
  refine fnA 11 ok15 (by simp) ?_
  (conv => whnf); (repeat' (first | (refine bT ?_; conv => whnf) | (refine bF ?_; conv => whnf) | (refine bN ?_) | (refine bD (fun hh => ?_) (fun hh => ?_) <;> first | (exfalso; omega) | (conv => whnf)) | (refine bEq (fun hh => ?_) (fun hh => ?_) <;> first | (exfalso; omega) | (conv => whnf)) | (refine bNe (fun hh => ?_) (fun hh => ?_) <;> first | (exfalso; omega) | (conv => whnf)) | (refine (c).lendq rfl (fun r (hr : r = _) => ?_); subst hr; refine ⟨rfl, ?_⟩; conv => whnf) | (refine wIn (by omega) ?_; conv => whnf) | (refine nI (by omega) ?_; conv => whnf)))
  all_goals rfl
theorem g15z (d : Dm) (g : Gu) (hf : d.f.ss.length ≤ 1000) (hn : d.rs.length ≤ 1000) (hs : d.sh.length ≤ 1000) (h : d.errC [g] = 0) : FnA Tryz.prog 15 [.agg d.cells, .agg g.av] (· = .tup [.isl ((d.best.gone g).map n1), .isl ((d.worst.gone g).map n1), .int .i64 0]) := by
  obtain ⟨h1, h2⟩ := errC_ok h
  have hg := (okCl_g h2).2 g (by simp)
  have c := g35z d [g] hf hn hs (by simp)
  rw [h] at c
  have c38 := g38z d h1
  have hbl := best_len d
  have hwl := worst_len d
  have hb' := okB_iff.1 h1
  have hR : (d.rs.map s2).length = d.rs.length := by simp
  have a1 := g19 d d.best g (of_best h1) hg
  have a2 := g19 d d.worst g (of_worst h1) hg
  have b1 := g47 (d.best.out g d.best.ss.length) d.best.ss.length (by rw [out_len]; omega)
  have b2 := g47 (d.worst.out g d.worst.ss.length) d.worst.ss.length (by rw [out_len]; omega)
  rw [wnt_gone (fun i => (ld_bd (best_ok h1) (n := d.rs.length) hg i).1), hbl, ← hR] at b1
  rw [wnt_gone (fun i => (ld_bd (worst_ok h1) (n := d.rs.length) hg i).1), hwl, ← hR] at b2
  rw [hbl, ← hR] at a1
  rw [hwl, ← hR] at a2
  refine fnA 11 ok15 (by simp) ?_
  (conv => whnf); (repeat' (first | (refine bT ?_; conv => whnf) | (refine bF ?_; conv => whnf) | (refine bN ?_) | (refine bD (fun hh => ?_) (fun hh => ?_) <;> first | (exfalso; omega) | (conv => whnf)) | (refine bEq (fun hh => ?_) (fun hh => ?_) <;> first | (exfalso; omega) | (conv => whnf)) | (refine bNe (fun hh => ?_) (fun hh => ?_) <;> first | (exfalso; omega) | (conv => whnf)) | (refine (c).lendq rfl (fun r (hr : r = _) => ?_); subst hr; refine ⟨rfl, ?_⟩; conv => whnf) | (refine (c38).callzq rfl rfl (fun r (hr : r = _) => ?_); subst hr; conv => whnf) | (refine (a1).callzq rfl rfl (fun r rows (hr : r = _ ∧ rows = _) => ?_); obtain ⟨hr1, hr2⟩ := hr; subst hr1; subst hr2; refine ⟨rfl, ?_⟩; conv => whnf) | (refine (b1).callzq rfl rfl (fun r rows (hr : r = _ ∧ rows = _) => ?_); obtain ⟨hr1, hr2⟩ := hr; subst hr1; subst hr2; refine ⟨rfl, ?_⟩; conv => whnf) | (refine (a2).callzq rfl rfl (fun r rows (hr : r = _ ∧ rows = _) => ?_); obtain ⟨hr1, hr2⟩ := hr; subst hr1; subst hr2; refine ⟨rfl, ?_⟩; conv => whnf) | (refine (b2).callzq rfl rfl (fun r rows (hr : r = _ ∧ rows = _) => ?_); obtain ⟨hr1, hr2⟩ := hr; subst hr1; subst hr2; refine ⟨rfl, ?_⟩; conv => whnf) | (refine wIn (by omega) ?_; conv => whnf) | (refine nI (by omega) ?_; conv => whnf)))
  all_goals rfl
theorem g19z (d : Dm) (l : List Gu) (hf : d.f.ss.length ≤ 1000) (hn : d.rs.length ≤ 1000) (hs : d.sh.length ≤ 1000) (hl : l.length ≤ 1000) (h : d.errC l = 0) : FnA Tryz.prog 19 [.agg d.cells, .isl (l.map Gu.av)] (· = .tup [.int .i64 (d.st l), .int .i64 0]) := by
  obtain ⟨h1, h2⟩ := errC_ok h
  have hg := okCl_g h2
  have c := g35z d l hf hn hs hl
  rw [h] at c
  have c38 := g38z d h1
  have e1 := g22 d d.worst l (of_worst h1) hl hg.2
  have e2 := g22 d d.best l (of_best h1) hl hg.2
  unfold Dm.st
  cases hw : d.worst.stands l <;> rw [hw] at e1
  · cases hb : d.best.stands l <;> rw [hb] at e2
    · refine fnA 5 ok19 (by simp) ?_
      (conv => whnf); (repeat' (first | (refine bT ?_; conv => whnf) | (refine bF ?_; conv => whnf) | (refine bN ?_) | (refine bD (fun hh => ?_) (fun hh => ?_) <;> first | (exfalso; omega) | (conv => whnf)) | (refine bEq (fun hh => ?_) (fun hh => ?_) <;> first | (exfalso; omega) | (conv => whnf)) | (refine bNe (fun hh => ?_) (fun hh => ?_) <;> first | (exfalso; omega) | (conv => whnf)) | (refine (c).callq rfl rfl (fun r (hr : r = _) => ?_); subst hr; conv => whnf) | (refine (c38).callzq rfl rfl (fun r (hr : r = _) => ?_); subst hr; conv => whnf) | (refine (e1).callq rfl rfl (fun r (hr : r = _) => ?_); subst hr; conv => whnf) | (refine (e2).callq rfl rfl (fun r (hr : r = _) => ?_); subst hr; conv => whnf) | (refine wIn (by omega) ?_; conv => whnf) | (refine nI (by omega) ?_; conv => whnf)))
      all_goals rfl
    · refine fnA 5 ok19 (by simp) ?_
      (conv => whnf); (repeat' (first | (refine bT ?_; conv => whnf) | (refine bF ?_; conv => whnf) | (refine bN ?_) | (refine bD (fun hh => ?_) (fun hh => ?_) <;> first | (exfalso; omega) | (conv => whnf)) | (refine bEq (fun hh => ?_) (fun hh => ?_) <;> first | (exfalso; omega) | (conv => whnf)) | (refine bNe (fun hh => ?_) (fun hh => ?_) <;> first | (exfalso; omega) | (conv => whnf)) | (refine (c).callq rfl rfl (fun r (hr : r = _) => ?_); subst hr; conv => whnf) | (refine (c38).callzq rfl rfl (fun r (hr : r = _) => ?_); subst hr; conv => whnf) | (refine (e1).callq rfl rfl (fun r (hr : r = _) => ?_); subst hr; conv => whnf) | (refine (e2).callq rfl rfl (fun r (hr : r = _) => ?_); subst hr; conv => whnf) | (refine wIn (by omega) ?_; conv => whnf) | (refine nI (by omega) ?_; conv => whnf)))
      all_goals rfl
  · refine fnA 5 ok19 (by simp) ?_
    (conv => whnf); (repeat' (first | (refine bT ?_; conv => whnf) | (refine bF ?_; conv => whnf) | (refine bN ?_) | (refine bD (fun hh => ?_) (fun hh => ?_) <;> first | (exfalso; omega) | (conv => whnf)) | (refine bEq (fun hh => ?_) (fun hh => ?_) <;> first | (exfalso; omega) | (conv => whnf)) | (refine bNe (fun hh => ?_) (fun hh => ?_) <;> first | (exfalso; omega) | (conv => whnf)) | (refine (c).callq rfl rfl (fun r (hr : r = _) => ?_); subst hr; conv => whnf) | (refine (c38).callzq rfl rfl (fun r (hr : r = _) => ?_); subst hr; conv => whnf) | (refine (e1).callq rfl rfl (fun r (hr : r = _) => ?_); subst hr; conv => whnf) | (refine wIn (by omega) ?_; conv => whnf) | (refine nI (by omega) ?_; conv => whnf)))
    all_goals rfl

theorem g13ze (d : Dm) (g : Gu) (hf : d.f.ss.length ≤ 1000) (hn : d.rs.length ≤ 1000) (hs : d.sh.length ≤ 1000) (h : d.errC [g] ≠ 0) : FnA Tryz.prog 13 [.agg d.cells, .agg g.av] (· = .tup [.isl [], .int .i64 (d.errC [g])]) := by
  have c := g35z d [g] hf hn hs (by simp)
  refine fnA 6 ok13 (by simp) ?_
  (conv => whnf); (repeat' (first | (refine bT ?_; conv => whnf) | (refine bF ?_; conv => whnf) | (refine bN ?_) | (refine bD (fun hh => ?_) (fun hh => ?_) <;> first | (exfalso; omega) | (conv => whnf)) | (refine bEq (fun hh => ?_) (fun hh => ?_) <;> first | (exfalso; omega) | (conv => whnf)) | (refine bNe (fun hh => ?_) (fun hh => ?_) <;> first | (exfalso; omega) | (conv => whnf)) | (refine (c).lendq rfl (fun r (hr : r = _) => ?_); subst hr; refine ⟨rfl, ?_⟩; conv => whnf) | (refine wIn (by omega) ?_; conv => whnf) | (refine nI (by omega) ?_; conv => whnf)))
  all_goals rfl
def Dm.lds (d : Dm) (g : Gu) (k : Nat) : List (Int × Int) := (List.range k).map fun i => (d.best.ld g (i : Nat), d.worst.ld g (i : Nat))
theorem g13z (d : Dm) (g : Gu) (hf : d.f.ss.length ≤ 1000) (hn : d.rs.length ≤ 1000) (hs : d.sh.length ≤ 1000) (h : d.errC [g] = 0) : FnA Tryz.prog 13 [.agg d.cells, .agg g.av] (· = .tup [.isl ((d.lds g d.rs.length).map s2), .int .i64 0]) := by
  obtain ⟨h1, h2⟩ := errC_ok h
  have hg := (okCl_g h2).2 g (by simp)
  have c := g35z d [g] hf hn hs (by simp)
  rw [h] at c
  have hb' := okB_iff.1 h1
  have c32 := g32z d hb'.1
  have hR : (d.rs.map s2).length = d.rs.length := by simp
  refine fnA 7 ok13 (by simp) ?_
  (conv => whnf); (repeat' (first | (refine bT ?_; conv => whnf) | (refine bF ?_; conv => whnf) | (refine bN ?_) | (refine bD (fun hh => ?_) (fun hh => ?_) <;> first | (exfalso; omega) | (conv => whnf)) | (refine bEq (fun hh => ?_) (fun hh => ?_) <;> first | (exfalso; omega) | (conv => whnf)) | (refine bNe (fun hh => ?_) (fun hh => ?_) <;> first | (exfalso; omega) | (conv => whnf)) | (refine (c).lendq rfl (fun r (hr : r = _) => ?_); subst hr; refine ⟨rfl, ?_⟩; conv => whnf) | (refine (c32).callq rfl rfl (fun r (hr : r = _) => ?_); subst hr; conv => whnf) | (refine wIn (by omega) ?_; conv => whnf) | (refine nI (by omega) ?_; conv => whnf)))
  refine loop_i (α := Nat) (fun k => [(9, .int .i64 k), (8, .own 3 0), (7, .row 6), (3, .own 1 0), (2, .own 0 0)]) (fun k => [.box false d.cells, .box false g.av, .fresh, .box false [.int .i64 d.f.l0, .int .i64 d.f.l1], .fresh, .fresh, .row false 39 2 ((d.lds g k).map s2)]) (fun k => k ≤ d.rs.length) (fun k => d.rs.length - k) 0 (meets_nil 6 (by (repeat' apply And.intro) <;> first | rfl | exact True.intro | (intro hh; cases hh))) (by omega) ?_
  intro k hk
  conv => whnf
  refine bD (fun h3 => ?_) (fun h3 => ?_)
  · have hlt : k < d.rs.length := by omega
    have c1 := g20 d d.best g k (of_best h1) hg hlt
    have c2 := g20 d d.worst g k (of_worst h1) hg hlt
    change FnA Tryz.prog 36 [.agg d.cells, .agg g.av, .int .i64 d.f.l0, .int .i64 k] (· = .int .i64 (d.best.ld g k)) at c1
    change FnA Tryz.prog 36 [.agg d.cells, .agg g.av, .int .i64 d.f.l1, .int .i64 k] (· = .int .i64 (d.worst.ld g k)) at c2
    (conv => whnf); (repeat' (first | (refine bT ?_; conv => whnf) | (refine bF ?_; conv => whnf) | (refine bN ?_) | (refine bD (fun hh => ?_) (fun hh => ?_) <;> first | (exfalso; omega) | (conv => whnf)) | (refine bEq (fun hh => ?_) (fun hh => ?_) <;> first | (exfalso; omega) | (conv => whnf)) | (refine bNe (fun hh => ?_) (fun hh => ?_) <;> first | (exfalso; omega) | (conv => whnf)) | (refine (c1).callq rfl rfl (fun r (hr : r = _) => ?_); subst hr; conv => whnf) | (refine (c2).callq rfl rfl (fun r (hr : r = _) => ?_); subst hr; conv => whnf) | (refine wIn (by omega) ?_; conv => whnf) | (refine nI (by omega) ?_; conv => whnf)))
    refine apI (by simp [AV.one]) (by rw [List.length_map]; simp only [Dm.lds, List.length_map, List.length_range, List.length_cons, List.length_nil]; omega) ?_
    (conv => whnf); (repeat' (first | (refine bT ?_; conv => whnf) | (refine bF ?_; conv => whnf) | (refine bN ?_) | (refine bD (fun hh => ?_) (fun hh => ?_) <;> first | (exfalso; omega) | (conv => whnf)) | (refine bEq (fun hh => ?_) (fun hh => ?_) <;> first | (exfalso; omega) | (conv => whnf)) | (refine bNe (fun hh => ?_) (fun hh => ?_) <;> first | (exfalso; omega) | (conv => whnf)) | (refine wIn (by omega) ?_; conv => whnf) | (refine nI (by omega) ?_; conv => whnf)))
    refine ⟨k + 1, ?_, by omega, by omega⟩
    have e : (d.lds g (k + 1)).map s2 = (d.lds g k).map s2 ++ [[.int .i64 (d.best.ld g k), .int .i64 (d.worst.ld g k)]] := by
      unfold Dm.lds; rw [List.range_succ]; simp [s2]
    rw [e]
    simp only [Int.natCast_add, Int.natCast_one]
    exact (meets_ren 6 5 (by (repeat' apply And.intro) <;> first | rfl | exact True.intro | (intro hh; cases hh)))
  · have : k = d.rs.length := by omega
    subst this
    (conv => whnf); (repeat' (first | (refine bT ?_; conv => whnf) | (refine bF ?_; conv => whnf) | (refine bN ?_) | (refine bD (fun hh => ?_) (fun hh => ?_) <;> first | (exfalso; omega) | (conv => whnf)) | (refine bEq (fun hh => ?_) (fun hh => ?_) <;> first | (exfalso; omega) | (conv => whnf)) | (refine bNe (fun hh => ?_) (fun hh => ?_) <;> first | (exfalso; omega) | (conv => whnf)) | (refine wIn (by omega) ?_; conv => whnf) | (refine nI (by omega) ?_; conv => whnf)))
    all_goals rfl

theorem gle (d : Dm) (hn : d.rs.length ≤ 1000) (hs : d.sh.length ≤ 1000) (h : d.okB = false) : FnA Tryz.prog 10 [.agg d.cells] (· = .tup [.agg [.int .i64 0, .int .i64 0], .int .i64 50]) := by
  have hc := g39 d hn hs
  unfold Dm.err at hc
  rw [h, if_neg (by simp)] at hc
  refine fnA 2 ok10 (by simp) ?_
  (conv => whnf); (repeat' (first | (refine bT ?_; conv => whnf) | (refine bF ?_; conv => whnf) | (refine bN ?_) | (refine bD (fun hh => ?_) (fun hh => ?_) <;> first | (exfalso; omega) | (conv => whnf)) | (refine bEq (fun hh => ?_) (fun hh => ?_) <;> first | (exfalso; omega) | (conv => whnf)) | (refine bNe (fun hh => ?_) (fun hh => ?_) <;> first | (exfalso; omega) | (conv => whnf)) | (refine (hc).callq rfl rfl (fun r (hr : r = _) => ?_); subst hr; conv => whnf) | (refine wIn (by omega) ?_; conv => whnf) | (refine nI (by omega) ?_; conv => whnf)))
  all_goals rfl
theorem gre (d : Dm) (hf : d.f.ss.length ≤ 1000) (hn : d.rs.length ≤ 1000) (hs : d.sh.length ≤ 1000) (h : d.okB = false) : FnA Tryz.prog 11 [.agg d.cells] (· = .tup [.agg [.int .i64 0, .int .i64 0], .int .i64 50]) := by
  have hc := g29 d hf hn hs
  unfold Dm.err at hc
  rw [h, if_neg (by simp)] at hc
  refine fnA 2 ok11 (by simp) ?_
  (conv => whnf); (repeat' (first | (refine bT ?_; conv => whnf) | (refine bF ?_; conv => whnf) | (refine bN ?_) | (refine bD (fun hh => ?_) (fun hh => ?_) <;> first | (exfalso; omega) | (conv => whnf)) | (refine bEq (fun hh => ?_) (fun hh => ?_) <;> first | (exfalso; omega) | (conv => whnf)) | (refine bNe (fun hh => ?_) (fun hh => ?_) <;> first | (exfalso; omega) | (conv => whnf)) | (refine (hc).callq rfl rfl (fun r (hr : r = _) => ?_); subst hr; conv => whnf) | (refine wIn (by omega) ?_; conv => whnf) | (refine nI (by omega) ?_; conv => whnf)))
  all_goals rfl
theorem gr (d : Dm) (hf : d.f.ss.length ≤ 1000) (hn : d.rs.length ≤ 1000) (hs : d.sh.length ≤ 1000) (h : d.okB = true) : FnA Tryz.prog 11 [.agg d.cells] (· = .tup [.agg [.int .i64 d.f.l0, .int .i64 d.f.l1], .int .i64 0]) := by
  have hc := g29 d hf hn hs
  unfold Dm.err at hc
  rw [h, if_pos rfl] at hc
  refine fnA 2 ok11 (by simp) ?_
  (conv => whnf); (repeat' (first | (refine bT ?_; conv => whnf) | (refine bF ?_; conv => whnf) | (refine bN ?_) | (refine bD (fun hh => ?_) (fun hh => ?_) <;> first | (exfalso; omega) | (conv => whnf)) | (refine bEq (fun hh => ?_) (fun hh => ?_) <;> first | (exfalso; omega) | (conv => whnf)) | (refine bNe (fun hh => ?_) (fun hh => ?_) <;> first | (exfalso; omega) | (conv => whnf)) | (refine (hc).callq rfl rfl (fun r (hr : r = _) => ?_); subst hr; conv => whnf) | (refine (g32z d (okB_iff.1 h).1).callq rfl rfl (fun r (hr : r = _) => ?_); subst hr; conv => whnf) | (refine wIn (by omega) ?_; conv => whnf) | (refine nI (by omega) ?_; conv => whnf)))
  all_goals rfl
theorem gse (d : Dm) (g : Gu) (hn : d.rs.length ≤ 1000) (hs : d.sh.length ≤ 1000) (h : d.errC [g] ≠ 0) : FnA Tryz.prog 12 [.agg d.cells, .agg g.av] (· = .tup [.isl [], .int .i64 (d.errC [g])]) := by
  refine fnA 11 ok12 (by simp) ?_
  (conv => whnf); (repeat' (first | (refine bT ?_; conv => whnf) | (refine bF ?_; conv => whnf) | (refine bN ?_) | (refine bD (fun hh => ?_) (fun hh => ?_) <;> first | (exfalso; omega) | (conv => whnf)) | (refine bEq (fun hh => ?_) (fun hh => ?_) <;> first | (exfalso; omega) | (conv => whnf)) | (refine bNe (fun hh => ?_) (fun hh => ?_) <;> first | (exfalso; omega) | (conv => whnf)) | (refine (g41e d [g] hn hs h).callzq rfl rfl (fun r (hr : r = _) => ?_); subst hr; conv => whnf) | (refine wIn (by omega) ?_; conv => whnf) | (refine nI (by omega) ?_; conv => whnf)))
  all_goals rfl
theorem gge (d : Dm) (g : Gu) (hn : d.rs.length ≤ 1000) (hs : d.sh.length ≤ 1000) (h : d.errC [g] ≠ 0) : FnA Tryz.prog 14 [.agg d.cells, .agg g.av] (· = .tup [.isl [], .isl [], .int .i64 (d.errC [g])]) := by
  refine fnA 11 ok14 (by simp) ?_
  (conv => whnf); (repeat' (first | (refine bT ?_; conv => whnf) | (refine bF ?_; conv => whnf) | (refine bN ?_) | (refine bD (fun hh => ?_) (fun hh => ?_) <;> first | (exfalso; omega) | (conv => whnf)) | (refine bEq (fun hh => ?_) (fun hh => ?_) <;> first | (exfalso; omega) | (conv => whnf)) | (refine bNe (fun hh => ?_) (fun hh => ?_) <;> first | (exfalso; omega) | (conv => whnf)) | (refine (g41e d [g] hn hs h).callzq rfl rfl (fun r (hr : r = _) => ?_); subst hr; conv => whnf) | (refine wIn (by omega) ?_; conv => whnf) | (refine nI (by omega) ?_; conv => whnf)))
  all_goals rfl
theorem gss (l : List (Int × Int)) (hl : l.length ≤ 1000) : FnA Tryz.prog 16 [.isl (l.map s2), .isl (l.map s2)] (· = .bool true) := by
  have hL : (l.map s2).length = l.length := by simp
  refine fnA 0 ok16 (by simp) ?_
  (conv => whnf); (repeat' (first | (refine bT ?_; conv => whnf) | (refine bF ?_; conv => whnf) | (refine bN ?_) | (refine bD (fun hh => ?_) (fun hh => ?_) <;> first | (exfalso; omega) | (conv => whnf)) | (refine bEq (fun hh => ?_) (fun hh => ?_) <;> first | (exfalso; omega) | (conv => whnf)) | (refine bNe (fun hh => ?_) (fun hh => ?_) <;> first | (exfalso; omega) | (conv => whnf)) | (refine wIn (by omega) ?_; conv => whnf) | (refine nI (by omega) ?_; conv => whnf)))
  refine loop_i (α := Nat) (fun k => [(5, .int .i64 k), (1, .isl (l.map s2)), (0, .isl (l.map s2))]) (fun k => []) (fun k => k ≤ l.length) (fun k => l.length - k) 0 (meets_id (by (repeat' apply And.intro) <;> first | rfl | exact True.intro | (intro hh; cases hh))) (by omega) ?_
  intro k hk
  conv => whnf
  refine bD (fun h3 => ?_) (fun h3 => ?_)
  · have hlt : k < l.length := by omega
    (conv => whnf); (repeat' (first | (refine bT ?_; conv => whnf) | (refine bF ?_; conv => whnf) | (refine bN ?_) | (refine bD (fun hh => ?_) (fun hh => ?_) <;> first | (exfalso; omega) | (conv => whnf)) | (refine bEq (fun hh => ?_) (fun hh => ?_) <;> first | (exfalso; omega) | (conv => whnf)) | (refine bNe (fun hh => ?_) (fun hh => ?_) <;> first | (exfalso; omega) | (conv => whnf)) | (refine iaI (by omega) (by omega) (getD_map s2 l k hlt) ?_; conv => whnf) | (refine bKT ?_ ?_; (focus (simp; done)); conv => whnf) | (refine wIn (by omega) ?_; conv => whnf) | (refine nI (by omega) ?_; conv => whnf)))
    all_goals exact ⟨k + 1, (meets_id (by (repeat' apply And.intro) <;> first | rfl | exact True.intro | (intro hh; cases hh))), by omega, by omega⟩
  · (conv => whnf); (repeat' (first | (refine bT ?_; conv => whnf) | (refine bF ?_; conv => whnf) | (refine bN ?_) | (refine bD (fun hh => ?_) (fun hh => ?_) <;> first | (exfalso; omega) | (conv => whnf)) | (refine bEq (fun hh => ?_) (fun hh => ?_) <;> first | (exfalso; omega) | (conv => whnf)) | (refine bNe (fun hh => ?_) (fun hh => ?_) <;> first | (exfalso; omega) | (conv => whnf)) | (refine wIn (by omega) ?_; conv => whnf) | (refine nI (by omega) ?_; conv => whnf)))
    all_goals rfl
theorem gsi (l : List Int) (hl : l.length ≤ 1000) : FnA Tryz.prog 17 [.isl (l.map i1), .isl (l.map i1)] (· = .bool true) := by
  have hL : (l.map i1).length = l.length := by simp
  refine fnA 0 ok17 (by simp) ?_
  (conv => whnf); (repeat' (first | (refine bT ?_; conv => whnf) | (refine bF ?_; conv => whnf) | (refine bN ?_) | (refine bD (fun hh => ?_) (fun hh => ?_) <;> first | (exfalso; omega) | (conv => whnf)) | (refine bEq (fun hh => ?_) (fun hh => ?_) <;> first | (exfalso; omega) | (conv => whnf)) | (refine bNe (fun hh => ?_) (fun hh => ?_) <;> first | (exfalso; omega) | (conv => whnf)) | (refine wIn (by omega) ?_; conv => whnf) | (refine nI (by omega) ?_; conv => whnf)))
  refine loop_i (α := Nat) (fun k => [(5, .int .i64 k), (1, .isl (l.map i1)), (0, .isl (l.map i1))]) (fun k => []) (fun k => k ≤ l.length) (fun k => l.length - k) 0 (meets_id (by (repeat' apply And.intro) <;> first | rfl | exact True.intro | (intro hh; cases hh))) (by omega) ?_
  intro k hk
  conv => whnf
  refine bD (fun h3 => ?_) (fun h3 => ?_)
  · have hlt : k < l.length := by omega
    (conv => whnf); (repeat' (first | (refine bT ?_; conv => whnf) | (refine bF ?_; conv => whnf) | (refine bN ?_) | (refine bD (fun hh => ?_) (fun hh => ?_) <;> first | (exfalso; omega) | (conv => whnf)) | (refine bEq (fun hh => ?_) (fun hh => ?_) <;> first | (exfalso; omega) | (conv => whnf)) | (refine bNe (fun hh => ?_) (fun hh => ?_) <;> first | (exfalso; omega) | (conv => whnf)) | (refine iaI (by omega) (by omega) (getD_map i1 l k hlt) ?_; conv => whnf) | (refine wIn (by omega) ?_; conv => whnf) | (refine nI (by omega) ?_; conv => whnf)))
    all_goals exact ⟨k + 1, (meets_id (by (repeat' apply And.intro) <;> first | rfl | exact True.intro | (intro hh; cases hh))), by omega, by omega⟩
  · (conv => whnf); (repeat' (first | (refine bT ?_; conv => whnf) | (refine bF ?_; conv => whnf) | (refine bN ?_) | (refine bD (fun hh => ?_) (fun hh => ?_) <;> first | (exfalso; omega) | (conv => whnf)) | (refine bEq (fun hh => ?_) (fun hh => ?_) <;> first | (exfalso; omega) | (conv => whnf)) | (refine bNe (fun hh => ?_) (fun hh => ?_) <;> first | (exfalso; omega) | (conv => whnf)) | (refine wIn (by omega) ?_; conv => whnf) | (refine nI (by omega) ?_; conv => whnf)))
    all_goals rfl

theorem g48 (f : Frm) (hn : f.ss.length ≤ 1000) : FnO Tryz.prog 27 [.agg f.cells] (fun r rows => r = .agg [.row 3, .int .i64 f.lo, .int .i64 f.hi, .int .i64 f.en, .int .i64 f.ed, .int .i64 f.rod, .int .i64 f.cs] ∧ rows = [(3, .row false 90 7 (f.ss.map Sec.av))]) := by
  have hL : (f.ss.map Sec.av).length = f.ss.length := by simp
  refine fnO 5 ok27 (by simp) ?_
  (conv => whnf); (repeat' (first | (refine bT ?_; conv => whnf) | (refine bF ?_; conv => whnf) | (refine bN ?_) | (refine bD (fun hh => ?_) (fun hh => ?_) <;> first | (exfalso; omega) | (conv => whnf)) | (refine bEq (fun hh => ?_) (fun hh => ?_) <;> first | (exfalso; omega) | (conv => whnf)) | (refine bNe (fun hh => ?_) (fun hh => ?_) <;> first | (exfalso; omega) | (conv => whnf)) | (refine wIn (by omega) ?_; conv => whnf) | (refine nI (by omega) ?_; conv => whnf)))
  refine apI (fun e he => ?_) (by simp; omega) ?_
  · obtain ⟨s, _, rfl⟩ := List.mem_map.1 he; exact ⟨rfl, rfl⟩
  (conv => whnf); (repeat' (first | (refine bT ?_; conv => whnf) | (refine bF ?_; conv => whnf) | (refine bN ?_) | (refine bD (fun hh => ?_) (fun hh => ?_) <;> first | (exfalso; omega) | (conv => whnf)) | (refine bEq (fun hh => ?_) (fun hh => ?_) <;> first | (exfalso; omega) | (conv => whnf)) | (refine bNe (fun hh => ?_) (fun hh => ?_) <;> first | (exfalso; omega) | (conv => whnf)) | (refine wIn (by omega) ?_; conv => whnf) | (refine nI (by omega) ?_; conv => whnf)))
  all_goals exact ⟨rfl, rfl⟩
/-- the cells of a dome whose lists are own memory -/
def Dm.cp (d : Dm) (a b c : Nat) : List AV := [.row a, .int .i64 d.f.lo, .int .i64 d.f.hi, .int .i64 d.f.en, .int .i64 d.f.ed, .int .i64 d.f.rod, .int .i64 d.f.cs, .row b, .row c]
theorem g24 (d : Dm) (hf : d.f.ss.length ≤ 1000) (hn : d.rs.length ≤ 1000) (hs : d.sh.length ≤ 1000) : FnO Tryz.prog 7 [.agg d.cells] (fun r rows => r = .agg (d.cp 3 5 7) ∧ rows = [(3, .row false 90 7 (d.f.ss.map Sec.av)), (5, .row false 39 2 (d.rs.map s2)), (7, .row false 3 1 (d.sh.map Go.Proofs.i1))]) := by
  have hL : (d.rs.map s2).length = d.rs.length := by simp
  refine fnO 8 ok7 (by simp) ?_
  (conv => whnf); (repeat' (first | (refine bT ?_; conv => whnf) | (refine bF ?_; conv => whnf) | (refine bN ?_) | (refine bD (fun hh => ?_) (fun hh => ?_) <;> first | (exfalso; omega) | (conv => whnf)) | (refine bEq (fun hh => ?_) (fun hh => ?_) <;> first | (exfalso; omega) | (conv => whnf)) | (refine bNe (fun hh => ?_) (fun hh => ?_) <;> first | (exfalso; omega) | (conv => whnf)) | (refine (g48 d.f hf).callzq rfl rfl (fun r rows (hr : r = _ ∧ rows = _) => ?_); obtain ⟨hr1, hr2⟩ := hr; subst hr1; subst hr2; refine ⟨rfl, ?_⟩; conv => whnf) | (refine wIn (by omega) ?_; conv => whnf) | (refine nI (by omega) ?_; conv => whnf)))
  refine apI (fun e he => ?_) (by simp; omega) ?_
  · obtain ⟨s, _, rfl⟩ := List.mem_map.1 he; exact ⟨rfl, rfl⟩
  (conv => whnf); (repeat' (first | (refine bT ?_; conv => whnf) | (refine bF ?_; conv => whnf) | (refine bN ?_) | (refine bD (fun hh => ?_) (fun hh => ?_) <;> first | (exfalso; omega) | (conv => whnf)) | (refine bEq (fun hh => ?_) (fun hh => ?_) <;> first | (exfalso; omega) | (conv => whnf)) | (refine bNe (fun hh => ?_) (fun hh => ?_) <;> first | (exfalso; omega) | (conv => whnf)) | (refine wIn (by omega) ?_; conv => whnf) | (refine nI (by omega) ?_; conv => whnf)))
  refine apI (fun e he => ?_) (by simp; omega) ?_
  · obtain ⟨s, _, rfl⟩ := List.mem_map.1 he; exact ⟨rfl, rfl⟩
  (conv => whnf); (repeat' (first | (refine bT ?_; conv => whnf) | (refine bF ?_; conv => whnf) | (refine bN ?_) | (refine bD (fun hh => ?_) (fun hh => ?_) <;> first | (exfalso; omega) | (conv => whnf)) | (refine bEq (fun hh => ?_) (fun hh => ?_) <;> first | (exfalso; omega) | (conv => whnf)) | (refine bNe (fun hh => ?_) (fun hh => ?_) <;> first | (exfalso; omega) | (conv => whnf)) | (refine wIn (by omega) ?_; conv => whnf) | (refine nI (by omega) ?_; conv => whnf)))
  all_goals exact ⟨rfl, rfl⟩

set_option maxHeartbeats 4000000 in
theorem k3z (d : Dm) (g : Gu) : FnA Tryz.prog 3 [.agg d.cells, .agg g.av] (· = .bool true) := by
  have c5 := g28 d
  by_cases hf : d.far
  · rw [decide_eq_true hf] at c5
    refine fnA 14 ok3 (by simp) ?_
    (conv => whnf); (repeat' (first | (refine bT ?_; conv => whnf) | (refine bF ?_; conv => whnf) | (refine bN ?_) | (refine bD (fun hh => ?_) (fun hh => ?_) <;> first | (exfalso; omega) | (conv => whnf)) | (refine bEq (fun hh => ?_) (fun hh => ?_) <;> first | (exfalso; omega) | (conv => whnf)) | (refine bNe (fun hh => ?_) (fun hh => ?_) <;> first | (exfalso; omega) | (conv => whnf)) | (refine (c5).callq rfl rfl (fun r (hr : r = _) => ?_); subst hr; conv => whnf) | (refine (g12).callq rfl rfl (fun r (hr : r = _) => ?_); subst hr; conv => whnf) | (refine wIn (by omega) ?_; conv => whnf) | (refine nI (by omega) ?_; conv => whnf)))
    all_goals rfl
  rw [decide_eq_false hf] at c5
  unfold Dm.far at hf
  have c7 := g24 d (by omega) (by omega) (by omega)
  have c8 := g39 d (by omega) (by omega)
  have c9 := g29 d (by omega) (by omega) (by omega)
  have s1 := gss d.rs (by omega)
  have s2' := gsi d.sh (by omega)
  by_cases he : d.errC [g] = 0
  · obtain ⟨hb, hcl⟩ := errC_ok he
    have c10 := g14 d (by omega) (by omega) hb
    have c11 := gr d (by omega) (by omega) (by omega) hb
    have c12 := g15 d g (by omega) (by omega) he
    have c13 := g13z d g (by omega) (by omega) (by omega) he
    have c14 := g16 d g (by omega) (by omega) he
    have c15 := g15z d g (by omega) (by omega) (by omega) he
    have m1 := gone_le d.best g
    have m2 := gone_le d.worst g
    have b1 := best_len d
    have b2 := worst_len d
    have t1 := g37 (d.best.gone g) (d.best.gone g) (by omega)
    have t2 := g37 (d.worst.gone g) (d.worst.gone g) (by omega)
    rw [decide_eq_true rfl] at t1 t2
    have t0 := gss (d.lds g d.rs.length) (by unfold Dm.lds; rw [List.length_map, List.length_range]; omega)
    refine fnA 14 ok3 (by simp) ?_
    (conv => whnf); (repeat' (first | (refine bT ?_; conv => whnf) | (refine bF ?_; conv => whnf) | (refine bN ?_) | (refine bD (fun hh => ?_) (fun hh => ?_) <;> first | (exfalso; omega) | (conv => whnf)) | (refine bEq (fun hh => ?_) (fun hh => ?_) <;> first | (exfalso; omega) | (conv => whnf)) | (refine bNe (fun hh => ?_) (fun hh => ?_) <;> first | (exfalso; omega) | (conv => whnf)) | (refine (c5).callq rfl rfl (fun r (hr : r = _) => ?_); subst hr; conv => whnf) | (refine (c7).callzq rfl rfl (fun r rows (hr : r = _ ∧ rows = _) => ?_); obtain ⟨hr1, hr2⟩ := hr; subst hr1; subst hr2; refine ⟨rfl, ?_⟩; conv => whnf) | (refine (c8).lendq rfl (fun r (hr : r = _) => ?_); subst hr; refine ⟨rfl, ?_⟩; conv => whnf) | (refine (c9).callq rfl rfl (fun r (hr : r = _) => ?_); subst hr; conv => whnf) | (refine (c10).lendq rfl (fun r (hr : r = _) => ?_); subst hr; refine ⟨rfl, ?_⟩; conv => whnf) | (refine (c11).callq rfl rfl (fun r (hr : r = _) => ?_); subst hr; conv => whnf) | (refine (c12).callzq rfl rfl (fun r rows (hr : r = _ ∧ rows = _) => ?_); obtain ⟨hr1, hr2⟩ := hr; subst hr1; subst hr2; refine ⟨rfl, ?_⟩; conv => whnf) | (refine (c13).callzq rfl rfl (fun r (hr : r = _) => ?_); subst hr; conv => whnf) | (refine (c14).callzq rfl rfl (fun r rows (hr : r = _ ∧ rows = _) => ?_); obtain ⟨hr1, hr2⟩ := hr; subst hr1; subst hr2; refine ⟨rfl, ?_⟩; conv => whnf) | (refine (c15).callzq rfl rfl (fun r (hr : r = _) => ?_); subst hr; conv => whnf) | (refine bKT ?_ ?_; (focus (simp; done)); conv => whnf) | (refine (t0).lendq rfl (fun r (hr : r = _) => ?_); subst hr; refine ⟨rfl, ?_⟩; conv => whnf) | (refine (t1).lendq rfl (fun r (hr : r = _) => ?_); subst hr; refine ⟨rfl, ?_⟩; conv => whnf) | (refine (t2).lendq rfl (fun r (hr : r = _) => ?_); subst hr; refine ⟨rfl, ?_⟩; conv => whnf) | (refine (s1).lendq rfl (fun r (hr : r = _) => ?_); subst hr; refine ⟨rfl, ?_⟩; conv => whnf) | (refine (s2').lendq rfl (fun r (hr : r = _) => ?_); subst hr; refine ⟨rfl, ?_⟩; conv => whnf) | (refine (g12).callq rfl rfl (fun r (hr : r = _) => ?_); subst hr; conv => whnf) | (refine wIn (by omega) ?_; conv => whnf) | (refine nI (by omega) ?_; conv => whnf)))
    all_goals rfl
  · have hx : d.errC [g] = 50 ∨ d.errC [g] = 1 := by
      unfold Dm.errC at he ⊢
      split
      · split
        · rename_i h1 h2; rw [if_pos h1, if_pos h2] at he; exact absurd rfl he
        · exact .inr rfl
      · exact .inl rfl
    have c12 := gse d g (by omega) (by omega) he
    have c13 := g13ze d g (by omega) (by omega) (by omega) he
    have c14 := gge d g (by omega) (by omega) he
    have c15 := g15ze d g (by omega) (by omega) (by omega) he
    have t0 := gss [] (by simp)
    have t1 := g37 [] [] (by simp)
    rw [decide_eq_true rfl] at t1
    cases hb : d.okB with
    | true =>
      have c10 := g14 d (by omega) (by omega) hb
      have c11 := gr d (by omega) (by omega) (by omega) hb
      refine fnA 14 ok3 (by simp) ?_
      (conv => whnf); (repeat' (first | (refine bT ?_; conv => whnf) | (refine bF ?_; conv => whnf) | (refine bN ?_) | (refine bD (fun hh => ?_) (fun hh => ?_) <;> first | (exfalso; omega) | (conv => whnf)) | (refine bEq (fun hh => ?_) (fun hh => ?_) <;> first | (exfalso; omega) | (conv => whnf)) | (refine bNe (fun hh => ?_) (fun hh => ?_) <;> first | (exfalso; omega) | (conv => whnf)) | (refine (c5).callq rfl rfl (fun r (hr : r = _) => ?_); subst hr; conv => whnf) | (refine (c7).callzq rfl rfl (fun r rows (hr : r = _ ∧ rows = _) => ?_); obtain ⟨hr1, hr2⟩ := hr; subst hr1; subst hr2; refine ⟨rfl, ?_⟩; conv => whnf) | (refine (c8).lendq rfl (fun r (hr : r = _) => ?_); subst hr; refine ⟨rfl, ?_⟩; conv => whnf) | (refine (c9).callq rfl rfl (fun r (hr : r = _) => ?_); subst hr; conv => whnf) | (refine (c10).lendq rfl (fun r (hr : r = _) => ?_); subst hr; refine ⟨rfl, ?_⟩; conv => whnf) | (refine (c11).callq rfl rfl (fun r (hr : r = _) => ?_); subst hr; conv => whnf) | (refine (c12).callzq rfl rfl (fun r (hr : r = _) => ?_); subst hr; conv => whnf) | (refine (c13).callzq rfl rfl (fun r (hr : r = _) => ?_); subst hr; conv => whnf) | (refine (c14).callzq rfl rfl (fun r (hr : r = _) => ?_); subst hr; conv => whnf) | (refine (c15).callzq rfl rfl (fun r (hr : r = _) => ?_); subst hr; conv => whnf) | (refine bKT ?_ ?_; (focus (simp; done)); conv => whnf) | (refine (t0).lendq rfl (fun r (hr : r = _) => ?_); subst hr; refine ⟨rfl, ?_⟩; conv => whnf) | (refine (t1).lendq rfl (fun r (hr : r = _) => ?_); subst hr; refine ⟨rfl, ?_⟩; conv => whnf) | (refine (s1).lendq rfl (fun r (hr : r = _) => ?_); subst hr; refine ⟨rfl, ?_⟩; conv => whnf) | (refine (s2').lendq rfl (fun r (hr : r = _) => ?_); subst hr; refine ⟨rfl, ?_⟩; conv => whnf) | (refine (g12).callq rfl rfl (fun r (hr : r = _) => ?_); subst hr; conv => whnf) | (refine wIn (by omega) ?_; conv => whnf) | (refine nI (by omega) ?_; conv => whnf)))
      all_goals rfl
    | false =>
      have c10 := gle d (by omega) (by omega) hb
      have c11 := gre d (by omega) (by omega) (by omega) hb
      refine fnA 14 ok3 (by simp) ?_
      (conv => whnf); (repeat' (first | (refine bT ?_; conv => whnf) | (refine bF ?_; conv => whnf) | (refine bN ?_) | (refine bD (fun hh => ?_) (fun hh => ?_) <;> first | (exfalso; omega) | (conv => whnf)) | (refine bEq (fun hh => ?_) (fun hh => ?_) <;> first | (exfalso; omega) | (conv => whnf)) | (refine bNe (fun hh => ?_) (fun hh => ?_) <;> first | (exfalso; omega) | (conv => whnf)) | (refine (c5).callq rfl rfl (fun r (hr : r = _) => ?_); subst hr; conv => whnf) | (refine (c7).callzq rfl rfl (fun r rows (hr : r = _ ∧ rows = _) => ?_); obtain ⟨hr1, hr2⟩ := hr; subst hr1; subst hr2; refine ⟨rfl, ?_⟩; conv => whnf) | (refine (c8).lendq rfl (fun r (hr : r = _) => ?_); subst hr; refine ⟨rfl, ?_⟩; conv => whnf) | (refine (c9).callq rfl rfl (fun r (hr : r = _) => ?_); subst hr; conv => whnf) | (refine (c10).lendq rfl (fun r (hr : r = _) => ?_); subst hr; refine ⟨rfl, ?_⟩; conv => whnf) | (refine (c11).callq rfl rfl (fun r (hr : r = _) => ?_); subst hr; conv => whnf) | (refine (c12).callzq rfl rfl (fun r (hr : r = _) => ?_); subst hr; conv => whnf) | (refine (c13).callzq rfl rfl (fun r (hr : r = _) => ?_); subst hr; conv => whnf) | (refine (c14).callzq rfl rfl (fun r (hr : r = _) => ?_); subst hr; conv => whnf) | (refine (c15).callzq rfl rfl (fun r (hr : r = _) => ?_); subst hr; conv => whnf) | (refine bKT ?_ ?_; (focus (simp; done)); conv => whnf) | (refine (t0).lendq rfl (fun r (hr : r = _) => ?_); subst hr; refine ⟨rfl, ?_⟩; conv => whnf) | (refine (t1).lendq rfl (fun r (hr : r = _) => ?_); subst hr; refine ⟨rfl, ?_⟩; conv => whnf) | (refine (s1).lendq rfl (fun r (hr : r = _) => ?_); subst hr; refine ⟨rfl, ?_⟩; conv => whnf) | (refine (s2').lendq rfl (fun r (hr : r = _) => ?_); subst hr; refine ⟨rfl, ?_⟩; conv => whnf) | (refine (g12).callq rfl rfl (fun r (hr : r = _) => ?_); subst hr; conv => whnf) | (refine wIn (by omega) ?_; conv => whnf) | (refine nI (by omega) ?_; conv => whnf)))
      all_goals rfl
end Go.Proofs
