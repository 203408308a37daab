/- What each function of this program answers, proved by walking its body: further contracts that the law rests on. -/
import Derived.Test.YtkpdkhidlhaaiaaFns2
set_option linter.unusedSimpArgs false
set_option linter.unusedVariables false
set_option linter.unusedSectionVars false
namespace Go.Proofs
open Go.Eng
attribute [local irreducible] Go.Eng.brB Go.Eng.need Go.Eng.wrE Go.Eng.iaE Go.Eng.slE Go.Eng.apE Go.Eng.CallZ Go.Eng.CallE Go.Eng.VCallE Go.Eng.YldE Go.Eng.GoC Go.Eng.MeetsE Go.Eng.FnA Go.Eng.FnV Go.Eng.ItA
set_option maxRecDepth 100000

theorem sumr_mono {l1 l2 : Int → Int} {g1 g2 : List Bool} (hl0 : ∀ i, 0 ≤ l1 i) (hl : ∀ i, l1 i ≤ l2 i) (hg : ∀ i, g1.getD i false = true → g2.getD i false = true) (n : Nat) (i s : Int) : ∀ k j, sumr l1 g1 n i s k j ≤ sumr l2 g2 n i s k j
  | 0, j => by simp [sumr]
  | k + 1, j => by
    have ih := sumr_mono hl0 hl hg n i s k (j + 1)
    have h0 := hl (ar n (i + j * s))
    have hb : ∀ k j, 0 ≤ sumr l2 g2 n i s k j := fun k => by
      induction k with
      | zero => intro j; simp [sumr]
      | succ k ih =>
        intro j
        have := ih (j + 1)
        have h1 := hl0 (ar n (i + j * s))
        have h2 := hl (ar n (i + j * s))
        unfold sumr; split <;> omega
    unfold sumr
    by_cases h1 : g1.getD (ar n (i + j * s)).toNat false = true
    · rw [if_pos h1, if_pos (hg _ h1)]; omega
    · rw [if_neg h1]
      have := hb (k + 1) j
      unfold sumr at this
      exact this
theorem sside_nn {l : Int → Int} (h : ∀ i, 0 ≤ l i) (gs : List Bool) (n : Nat) (i s : Int) : 0 ≤ sside l gs n i s := by
  have : ∀ k j, 0 ≤ sumr l gs n i s k j := fun k => by
    induction k with
    | zero => intro j; simp [sumr]
    | succ k ih => intro j; have := ih (j + 1); have h1 := h (ar n (i + j * s)); unfold sumr; split <;> omega
  exact this _ _
theorem hand_mono {l1 l2 : Int → Int} {g1 g2 : List Bool} (hl0 : ∀ i, 0 ≤ l1 i) (hl : ∀ i, l1 i ≤ l2 i) (hg : ∀ i, g1.getD i false = true → g2.getD i false = true) (n : Nat) (i : Int) : hand l1 g1 n i ≤ hand l2 g2 n i := by
  have h1 := sumr_mono hl0 hl hg n i (-1) (n - 1) 1
  have h2 := sumr_mono hl0 hl hg n i 1 (n - 1) 1
  unfold hand sside; omega
/-- a truth that stands no less than another one -/
structure Leq (t u : Tr) (g h : Gu) : Prop where
  len : t.ss.length = u.ss.length
  ss : ∀ i, u.ss.getD i 0 ≤ t.ss.getD i 0
  ld0 : ∀ i, 0 ≤ t.ld g i
  ld : ∀ i, t.ld g i ≤ u.ld h i
theorem cond_mono {t u : Tr} {g h : Gu} (hle : Leq t u g h) {g1 g2 : List Bool} (hg : ∀ i, g1.getD i false = true → g2.getD i false = true) {i : Nat} (hc : t.cond g g1 i = true) : g2.getD i false = true ∨ u.cond h g2 i = true := by
  by_cases h2 : g2.getD i false = true
  · exact .inl h2
  · refine .inr ?_
    have h2' : g2.getD i false = false := by simpa using h2
    unfold Tr.cond at hc ⊢
    simp only [Bool.and_eq_true, decide_eq_true_eq] at hc
    rw [h2']
    simp only [Bool.not_false, Bool.true_and, decide_eq_true_eq]
    have a := hand_mono hle.ld0 hle.ld hg t.ss.length i
    have b := hle.ss i
    have c := hle.ld i
    have e := hle.len
    rw [← e]
    omega
theorem G_stop (t : Tr) (g : Gu) (i : Nat) (hi : i < t.ss.length) : t.cond g (t.G g (t.K g)) i = false := by
  rw [Bool.eq_false_iff]; intro h
  have : i ∈ t.go g (t.G g (t.K g)) := go_mem.2 ⟨hi, h⟩
  rw [(K_ok t g).2.1] at this; cases this
theorem G_in (t : Tr) (g : Gu) (r i : Nat) (h : (t.G g r).getD i false = true) : i < t.ss.length := by
  refine Classical.byContradiction fun hn => ?_
  rw [List.getD_eq_getElem?_getD, List.getElem?_eq_none (by rw [G_len]; omega)] at h; simp at h
theorem G_succ (t : Tr) (g : Gu) (r i : Nat) (hi : i < t.ss.length) : (t.G g (r + 1)).getD i false = ((t.G g r).getD i false || t.cond g (t.G g r) i) := stp_get hi
theorem G_mono {t u : Tr} {g h : Gu} (hle : Leq t u g h) : ∀ r i, (t.G g r).getD i false = true → (u.G h (u.K h)).getD i false = true
  | 0, i, hi => by
    have := G_in t g 0 i hi
    simp only [Tr.G, List.getD_eq_getElem?_getD, List.getElem?_replicate, if_pos this] at hi
    simp at hi
  | r + 1, i, hi => by
    have hin := G_in t g (r + 1) i hi
    rw [G_succ t g r i hin, Bool.or_eq_true] at hi
    rcases hi with hi | hi
    · exact G_mono hle r i hi
    · rcases cond_mono hle (G_mono hle r) hi with h1 | h1
      · exact h1
      · rw [G_stop u h i (by rw [← hle.len]; exact hin)] at h1; cases h1
theorem gone_mem {t : Tr} {g : Gu} {i : Nat} : i ∈ t.gone g ↔ i < t.ss.length ∧ (t.G g (t.K g)).getD i false = true := lst_mem
theorem gone_mono {t u : Tr} {g h : Gu} (hle : Leq t u g h) {i : Nat} (hi : i ∈ t.gone g) : i ∈ u.gone h := by
  rw [gone_mem] at hi ⊢
  exact ⟨by rw [← hle.len]; exact hi.1, G_mono hle _ i hi.2⟩
theorem G_le (t : Tr) (g : Gu) (i r : Nat) : ∀ k, (t.G g r).getD i false = true → (t.G g (r + k)).getD i false = true
  | 0, h => h
  | k + 1, h => by
    have h1 := G_le t g i r k h
    have hin := G_in t g _ i h1
    show (t.G g (r + k + 1)).getD i false = true
    rw [G_succ t g _ i hin, h1]; rfl
/-- nothing is handed where none is gone -/
theorem sumr_none {l : Int → Int} {gs : List Bool} {n : Nat} {i s : Int} {k j : Nat} (h : gs.getD (ar n (i + j * s)).toNat false = false) : sumr l gs n i s k j = 0 := by
  cases k with
  | zero => rfl
  | succ k => rw [sumr, if_neg (by rw [h]; simp)]
theorem G0 (t : Tr) (g : Gu) (i : Nat) : (t.G g 0).getD i false = false := by
  simp only [Tr.G, List.getD_eq_getElem?_getD, List.getElem?_replicate]; split <;> rfl
theorem cond0 (t : Tr) (g : Gu) (i : Nat) : t.cond g (t.G g 0) i = t.tw g i := by
  unfold Tr.cond Tr.tw hand sside
  rw [G0, sumr_none (G0 t g _), sumr_none (G0 t g _)]
  simp
theorem weak_go (t : Tr) (g : Gu) : t.weak g = t.go g (t.G g 0) := by
  unfold Tr.weak Tr.go; congr 1; funext i; exact (cond0 t g i).symm
theorem weak_gone {t : Tr} {g : Gu} {i : Nat} (h : i ∈ t.weak g) : i ∈ t.gone g := by
  rw [weak_go, go_mem] at h
  rw [gone_mem]
  refine ⟨h.1, ?_⟩
  have h1 : (t.G g 1).getD i false = true := by rw [G_succ t g 0 i h.1, h.2]; simp
  cases hk : t.K g with
  | zero =>
    have := (K_ok t g).2.1
    rw [hk] at this
    have h2 := go_mem.2 h
    rw [this] at h2; cases h2
  | succ k => rw [Nat.add_comm k 1]; exact G_le t g i 1 k h1
theorem weak_nil {t : Tr} {g : Gu} (h : t.weak g = []) : t.gone g = [] := by
  rw [weak_go] at h
  have : t.K g = 0 := by
    cases hk : t.K g with
    | zero => rfl
    | succ k => exact absurd h ((K_ok t g).1 0 (by omega))
  refine List.eq_nil_iff_forall_not_mem.2 fun i hi => ?_
  have := (gone_mem.1 hi).2
  rw [‹t.K g = 0›, G0] at this; cases this
theorem gone_nil {t : Tr} {g : Gu} : t.gone g = [] ↔ t.weak g = [] :=
  ⟨fun h => List.eq_nil_iff_forall_not_mem.2 fun i hi => (by have := weak_gone hi; rw [h] at this; cases this), weak_nil⟩
/-- one that goes later has a neighbour that is gone -/
theorem gone_nb {t : Tr} {g : Gu} {i : Nat} (hi : i ∈ t.gone g) (hw : i ∉ t.weak g) : (ar t.ss.length (i + 1)).toNat ∈ t.gone g ∨ (ar t.ss.length (i - 1)).toNat ∈ t.gone g := by
  rw [gone_mem] at hi
  have hin := hi.1
  have key : ∀ r, (t.G g r).getD i false = true → ∃ r' < r, t.cond g (t.G g r') i = true := fun r => by
    induction r with
    | zero => intro h; rw [G0] at h; cases h
    | succ r ih =>
      intro h
      rw [G_succ t g r i hin, Bool.or_eq_true] at h
      rcases h with h | h
      · obtain ⟨r', h1, h2⟩ := ih h; exact ⟨r', by omega, h2⟩
      · exact ⟨r, by omega, h⟩
  obtain ⟨r, hr, hc⟩ := key _ hi.2
  have hup : ∀ j, (t.G g r).getD j false = true → j ∈ t.gone g := fun j hj => by
    rw [gone_mem]
    refine ⟨G_in t g r j hj, ?_⟩
    have := G_le t g j r (t.K g - r) hj
    rwa [show r + (t.K g - r) = t.K g from by omega] at this
  have htw : t.tw g i = false := by
    rw [Bool.eq_false_iff]; intro h; exact hw (lst_mem.2 ⟨hin, h⟩)
  unfold Tr.cond at hc
  simp only [Bool.and_eq_true, decide_eq_true_eq] at hc
  unfold Tr.tw at htw
  simp only [decide_eq_false_iff_not] at htw
  by_cases a : (t.G g r).getD (ar t.ss.length (i + (1 : Nat) * 1)).toNat false = true
  · refine .inl (hup _ ?_); simpa using a
  · by_cases b : (t.G g r).getD (ar t.ss.length (i + (1 : Nat) * (-1))).toNat false = true
    · refine .inr (hup _ ?_)
      rwa [show (i : Int) - 1 = i + (1 : Nat) * (-1) from by omega]
    · exfalso
      have e1 := sumr_none (l := t.ld g) (k := t.ss.length - 1) (show (t.G g r).getD (ar t.ss.length (i + (1 : Nat) * 1)).toNat false = false by simpa using a)
      have e2 := sumr_none (l := t.ld g) (k := t.ss.length - 1) (show (t.G g r).getD (ar t.ss.length (i + (1 : Nat) * (-1))).toNat false = false by simpa using b)
      have : hand (t.ld g) (t.G g r) t.ss.length i = 0 := by unfold hand sside; rw [e1, e2]; rfl
      rw [this] at hc; omega

theorem ediv_mono2 {a b c d : Int} (hb : 1 ≤ b) (hd : 1 ≤ d) (h : a * d ≤ c * b) : a / b ≤ c / d := by
  refine Int.le_ediv_of_mul_le (by omega) ?_
  have h1 : a / b * b ≤ a := Int.ediv_mul_le _ (by omega)
  have h2 : a / b * b * d ≤ a * d := Int.mul_le_mul_of_nonneg_right h1 (by omega)
  have h3 : a / b * d * b ≤ c * b := by rw [Int.mul_right_comm]; omega
  exact Int.le_of_mul_le_mul_right h3 (by omega)
theorem lf_mono {x y : Int × Int} (hx : 1 ≤ x.2) (hy : 1 ≤ y.2) (h : x.1 * y.2 ≤ y.1 * x.2) : lf x ≤ lf y := by
  have key : max 0 (100 * (x.2 + x.1)) / x.2 ≤ max 0 (100 * (y.2 + y.1)) / y.2 := by
    refine ediv_mono2 hx hy ?_
    by_cases h0 : 100 * (x.2 + x.1) ≤ 0
    · rw [show max 0 (100 * (x.2 + x.1)) = 0 from by omega, Int.zero_mul]
      exact Int.mul_nonneg (by omega) (by omega)
    · rw [show max 0 (100 * (x.2 + x.1)) = 100 * (x.2 + x.1) from by omega]
      refine Int.le_trans ?_ (Int.mul_le_mul_of_nonneg_right (show 100 * (y.2 + y.1) ≤ max 0 (100 * (y.2 + y.1)) by omega) (by omega))
      rw [Int.mul_assoc, Int.mul_assoc, Int.add_mul, Int.add_mul, Int.mul_comm y.2 x.2]; omega
  unfold lf; omega
theorem lf_red {q : Int × Int} (h : 1 ≤ q.2) : lf (rq q) = lf q := by
  obtain ⟨n, d⟩ := q
  simp only at h
  obtain ⟨e1, e2, e3⟩ := red_eq (n := n) h
  have hg := (gcd_bd (n := n) h).1
  unfold lf rq
  simp only
  generalize (Int.gcd n d : Int) = G at *
  generalize redN n d = n' at *
  generalize redD n d = d' at *
  subst e1 e2
  congr 1
  have e : 100 * (G * d' + G * n') = G * (100 * (d' + n')) := by rw [← Int.mul_add, Int.mul_left_comm]
  rw [e]
  by_cases h0 : 100 * (d' + n') ≤ 0
  · have : G * (100 * (d' + n')) ≤ 0 := Int.mul_nonpos_of_nonneg_of_nonpos (by omega) h0
    rw [show max 0 (100 * (d' + n')) = 0 from by omega, show max 0 (G * (100 * (d' + n'))) = 0 from by omega]
    simp
  · have : 0 ≤ G * (100 * (d' + n')) := Int.mul_nonneg (by omega) (by omega)
    rw [show max 0 (100 * (d' + n')) = 100 * (d' + n') from by omega, show max 0 (G * (100 * (d' + n'))) = G * (100 * (d' + n')) from by omega]
    rw [Int.mul_ediv_mul_of_pos _ _ (by omega)]
/-- the lift of an arm and a stretcher lies between the ends -/
theorem l01_side {f : Frm} (h : f.ok) {q : Int × Int} (hq : q ∈ f.s0.sides) : f.l0 ≤ lf (rq (cosQ f.lo q)) ∧ lf (rq (cosQ f.lo q)) ≤ f.l1 := by
  have hs := s0_ok h
  have hl := lo_bd h
  have hb := cosF_bd hs hl
  have hq2 := cos_rbd hs hl hq
  have he := cosF_ends hs hl hq
  unfold Frm.l0 Frm.l1
  rw [lf_red hb.1.2.1, lf_red hb.2.2.1, lf_red (q := cosQ f.lo q) hq2.2.1]
  exact ⟨lf_mono hb.1.2.1 hq2.2.1 he.1, lf_mono hq2.2.1 hb.2.2.1 he.2⟩
theorem l01_le {f : Frm} (h : f.ok) : f.l0 ≤ f.l1 := by
  have := l01_side h (fst_side (s0_ok h)); omega
/-- loads: a greater force or lift gives no less -/
theorem ld_mono {t u : Tr} (ht : t.ok) (hsh : t.sh = u.sh) (hlen : t.ss.length = u.ss.length) (hL : t.L ≤ u.L) {F F' A : Int} (hF0 : 0 ≤ F) (hF : F ≤ F') (i : Int) : t.ld ⟨F, A⟩ i ≤ u.ld ⟨F', A⟩ i := by
  unfold Tr.ld Tr.share
  rw [hsh, hlen]
  have hs := share_bd ht (ar u.ss.length (i - A))
  unfold Tr.share at hs
  rw [hsh] at hs
  refine Int.ediv_le_ediv (by omega) ?_
  refine Int.mul_le_mul_of_nonneg_right ?_ hs.1
  exact Int.le_trans (Int.mul_le_mul_of_nonneg_right hF ht.1.1) (Int.mul_le_mul_of_nonneg_left hL (Int.le_trans hF0 hF))
theorem leq_bw {d : Dm} (h : d.okB = true) {g : Gu} (hg : g.ok d.rs.length) : Leq d.best d.worst g g := by
  have hb := best_ok h
  have hL : d.best.L ≤ d.worst.L := by
    show d.f.l0 ≤ d.f.l1
    exact l01_le (okB_iff.1 h).1
  refine ⟨by rw [best_len, worst_len], fun i => ?_, fun i => ?_, fun i => ?_⟩
  · by_cases hi : i < d.rs.length
    · have := rib_mem h _ (List.getElem_mem hi)
      unfold okRib at this
      simp [Dm.best, Dm.worst, List.getD_eq_getElem?_getD, hi]
      omega
    · simp [Dm.best, Dm.worst, List.getD_eq_getElem?_getD, hi]
  · exact (ld_bd hb hg i).1
  · exact ld_mono (t := d.best) (u := d.worst) (F := g.F) (F' := g.F) (A := g.A) hb rfl (by rw [best_len, worst_len]) hL hg.1.1 (Int.le_refl _) i
theorem lst_mono_len {n : Nat} {p q : Nat → Bool} (h : ∀ i, i ∈ lst n p → i ∈ lst n q) : (lst n p).length ≤ (lst n q).length := by
  unfold lst
  rw [← List.countP_eq_length_filter, ← List.countP_eq_length_filter]
  refine cp_le fun x hx hp => ?_
  have hx' : x < n := by simpa using hx
  exact (lst_mem.1 (h x (lst_mem.2 ⟨hx', hp⟩))).2
theorem lst_lt (n : Nat) (p : Nat → Bool) : (lst n p).Pairwise (· < ·) := (List.pairwise_lt_range).sublist List.filter_sublist

theorem all_contains {l m : List Nat} (h : ∀ i ∈ l, i ∈ m) : l.all m.contains = true := by
  rw [List.all_eq_true]; intro x hx; simpa using h x hx
theorem gone_le (t : Tr) (g : Gu) : (t.gone g).length ≤ t.ss.length := lst_le _ _
theorem weak_le (t : Tr) (g : Gu) : (t.weak g).length ≤ t.ss.length := lst_le _ _
theorem ar_nat {n : Nat} (h : 0 < n) (r : Int) : (((ar n r).toNat : Nat) : Int) = ar n r := by
  have := ar_bd (n := n) r h; omega
theorem ar_up {n : Nat} (h : 0 < n) (x : Nat) : ((x : Int) + 1).tmod n = (((ar n (x + 1)).toNat : Nat) : Int) := by
  rw [ar_nat h, Int.tmod_eq_emod_of_nonneg (by omega)]; rfl
theorem ar_down {n : Nat} (h : 0 < n) (x : Nat) : ((x : Int) + n - 1).tmod n = (((ar n (x - 1)).toNat : Nat) : Int) := by
  rw [ar_nat h, Int.tmod_eq_emod_of_nonneg (by omega), show (x : Int) + n - 1 = (x - 1) + n from by omega, Int.add_emod_right]; rfl
theorem k8 (d : Dm) (g : Gu) : FnA Try.prog 8 [.agg d.cells, .agg g.av] (· = .bool true) := by
  have c10 := g10 d [g] (by simp)
  cases hr : d.rdy [g] with
  | false =>
    rw [hr] at c10
    refine fnA 7 ok8 (by simp) ?_
    (conv => whnf); (repeat' (first | (refine bT ?_; conv => whnf) | (refine bF ?_; conv => whnf) | (refine bN ?_) | (refine bD (fun hh => ?_) (fun hh => ?_) <;> first | (exfalso; omega) | (conv => whnf)) | (refine bEq (fun hh => ?_) (fun hh => ?_) <;> first | (exfalso; omega) | (conv => whnf)) | (refine bNe (fun hh => ?_) (fun hh => ?_) <;> first | (exfalso; omega) | (conv => whnf)) | (refine (c10).lendq rfl (fun r (hr : r = _) => ?_); subst hr; refine ⟨rfl, ?_⟩; conv => whnf) | (refine (g12).callq rfl rfl (fun r (hr : r = _) => ?_); subst hr; conv => whnf) | (refine wIn (by omega) ?_; conv => whnf) | (refine nI (by omega) ?_; conv => whnf)))
    all_goals rfl
  | true =>
    rw [hr] at c10
    have he := rdy_iff.1 hr
    obtain ⟨hb, hcl⟩ := errC_ok he
    have hg := (okCl_g hcl).2 g (by simp)
    have hb' := okB_iff.1 hb
    have hn := hb'.2.1
    have hs := hb'.2.2.2.1
    have hL : (d.rs.map s2).length = d.rs.length := by simp
    have c16 := g16 d g (by omega) (by omega) he
    have hle := leq_bw hb hg
    have hsub : ∀ i ∈ d.best.gone g, i ∈ d.worst.gone g := fun i hi => gone_mono hle hi
    have hwl := worst_len d
    have hg1 := gone_le d.worst g
    have hg2 := gone_le d.best g
    have hw1 := weak_le d.worst g
    have hbl := best_len d
    by_cases hw : d.worst.weak g = []
    · have h1 := weak_nil hw
      have h2 : d.best.gone g = [] := List.eq_nil_iff_forall_not_mem.2 fun i hi => by
        have := hsub i hi; rw [h1] at this; cases this
      have c18 := g18n d [g] (by omega) (by omega) he (by intro g' hg'; simp at hg'; subst hg'; rw [hw]; rfl)
      rw [h1, h2] at c16
      have c26 := g26 [] [] (by simp) (by simp)
      refine fnA 7 ok8 (by simp) ?_
      (conv => whnf); (repeat' (first | (refine bT ?_; conv => whnf) | (refine bF ?_; conv => whnf) | (refine bN ?_) | (refine bD (fun hh => ?_) (fun hh => ?_) <;> first | (exfalso; omega) | (conv => whnf)) | (refine bEq (fun hh => ?_) (fun hh => ?_) <;> first | (exfalso; omega) | (conv => whnf)) | (refine bNe (fun hh => ?_) (fun hh => ?_) <;> first | (exfalso; omega) | (conv => whnf)) | (refine (c10).lendq rfl (fun r (hr : r = _) => ?_); subst hr; refine ⟨rfl, ?_⟩; conv => whnf) | (refine (c16).callzq rfl rfl (fun r rows (hr : r = _ ∧ rows = _) => ?_); obtain ⟨hr1, hr2⟩ := hr; subst hr1; subst hr2; refine ⟨rfl, ?_⟩; conv => whnf) | (refine (c18).callzq rfl rfl (fun r (hr : r = _) => ?_); subst hr; conv => whnf) | (refine (c26).lendq rfl (fun r (hr : r = _) => ?_); subst hr; refine ⟨rfl, ?_⟩; conv => whnf) | (refine wIn (by omega) ?_; conv => whnf) | (refine nI (by omega) ?_; conv => whnf)))
      refine loop_i (α := Unit) (fun _ => [(12, .int .i64 0), (6, .row 4)]) (fun _ => [.fresh, .fresh, .fresh, .fresh, .row false 3 1 [], .fresh, .fresh]) (fun _ => True) (fun _ => 0) () (meets_id (by (repeat' apply And.intro) <;> first | rfl | exact True.intro | (intro hh; cases hh))) trivial ?_
      intro _ _
      (conv => whnf); (repeat' (first | (refine bT ?_; conv => whnf) | (refine bF ?_; conv => whnf) | (refine bN ?_) | (refine bD (fun hh => ?_) (fun hh => ?_) <;> first | (exfalso; omega) | (conv => whnf)) | (refine bEq (fun hh => ?_) (fun hh => ?_) <;> first | (exfalso; omega) | (conv => whnf)) | (refine bNe (fun hh => ?_) (fun hh => ?_) <;> first | (exfalso; omega) | (conv => whnf)) | (refine (g12).callq rfl rfl (fun r (hr : r = _) => ?_); subst hr; conv => whnf) | (refine wIn (by omega) ?_; conv => whnf) | (refine nI (by omega) ?_; conv => whnf)))
      all_goals rfl
    · have h1 : d.worst.gone g ≠ [] := fun h => hw (gone_nil.1 h)
      have hp1 : 1 ≤ (d.worst.gone g).length := by
        cases hh : d.worst.gone g with
        | nil => exact absurd hh h1
        | cons a l => simp
      have hwe : (d.worst.weak g).isEmpty = false := by
        cases hh : d.worst.weak g with
        | nil => exact absurd hh hw
        | cons a l => rfl
      have c18 := g18 d [g] 0 (by simp) (by omega) (by omega) he (fun k hk => absurd hk (by omega)) hwe
      change FnO Try.prog 18 [.agg d.cells, .isl ([g].map Gu.av)] (fun r rows => r = .tup [.int .i64 (0 : Nat), .row 9, .int .i64 0] ∧ rows = [(9, .row false 3 1 ((d.worst.weak g).map n1))]) at c18
      have hlen : (d.worst.weak g).length ≤ (d.worst.gone g).length := by
        unfold Tr.weak Tr.gone
        refine lst_mono_len fun i hi => ?_
        exact weak_gone hi
      have hLw : ((d.worst.weak g).map n1).length = (d.worst.weak g).length := by simp
      have hLg : ((d.worst.gone g).map n1).length = (d.worst.gone g).length := by simp
      have c26 := g26 (d.best.gone g) (d.worst.gone g) (by omega) (by omega)
      rw [all_contains hsub] at c26
      have c26b := g26 (d.worst.weak g) (d.worst.gone g) (by omega) (by omega)
      rw [all_contains (fun i hi => weak_gone hi)] at c26b
      refine fnA 7 ok8 (by simp) ?_
      (conv => whnf); (repeat' (first | (refine bT ?_; conv => whnf) | (refine bF ?_; conv => whnf) | (refine bN ?_) | (refine bD (fun hh => ?_) (fun hh => ?_) <;> first | (exfalso; omega) | (conv => whnf)) | (refine bEq (fun hh => ?_) (fun hh => ?_) <;> first | (exfalso; omega) | (conv => whnf)) | (refine bNe (fun hh => ?_) (fun hh => ?_) <;> first | (exfalso; omega) | (conv => whnf)) | (refine (c10).lendq rfl (fun r (hr : r = _) => ?_); subst hr; refine ⟨rfl, ?_⟩; conv => whnf) | (refine (c16).callzq rfl rfl (fun r rows (hr : r = _ ∧ rows = _) => ?_); obtain ⟨hr1, hr2⟩ := hr; subst hr1; subst hr2; refine ⟨rfl, ?_⟩; conv => whnf) | (refine (c18).callzq rfl rfl (fun r rows (hr : r = _ ∧ rows = _) => ?_); obtain ⟨hr1, hr2⟩ := hr; subst hr1; subst hr2; refine ⟨rfl, ?_⟩; conv => whnf) | (refine (c26).lendq rfl (fun r (hr : r = _) => ?_); subst hr; refine ⟨rfl, ?_⟩; conv => whnf) | (refine (c26b).lendq rfl (fun r (hr : r = _) => ?_); subst hr; refine ⟨rfl, ?_⟩; conv => whnf) | (refine wIn (by omega) ?_; conv => whnf) | (refine nI (by omega) ?_; conv => whnf)))
      rotate_left
      · exact absurd (by rw [decide_eq_true (by omega)]; rfl) hh
      refine loop_i (α := Nat) (fun k => [(12, .int .i64 k), (11, .int .i64 (d.rs.map s2).length), (9, .row 6), (6, .row 4)]) (fun _ => [.fresh, .fresh, .fresh, .fresh, .row false 3 1 ((d.worst.gone g).map n1), .fresh, .row false 3 1 ((d.worst.weak g).map n1)]) (fun k => k ≤ (d.worst.gone g).length) (fun k => (d.worst.gone g).length - k) 0 (meets_id (by (repeat' apply And.intro) <;> first | rfl | exact True.intro | (intro hh; cases hh))) (by omega) ?_
      intro k hk
      conv => whnf
      refine bD (fun h3 => ?_) (fun h3 => ?_)
      · have hlt : k < (d.worst.gone g).length := by omega
        obtain ⟨x, hx⟩ : ∃ x, (d.worst.gone g)[k] = x := ⟨_, rfl⟩
        have hxm : x ∈ d.worst.gone g := by rw [← hx]; exact List.getElem_mem hlt
        have hxn := (gone_mem.1 hxm).1
        have hrow : ((d.worst.gone g).map n1).getD (k : Int).toNat [] = [.int .i64 x] := by
          rw [Int.toNat_natCast, getD_map n1 _ k hlt, hx]; rfl
        have hrow2 : 0 < k → ∃ y, y < x ∧ ((d.worst.gone g).map n1).getD (((k : Int) - 1).toNat : Int).toNat [] = [.int .i64 y] := fun h0 => by
          have hlt2 : k - 1 < (d.worst.gone g).length := by omega
          refine ⟨(d.worst.gone g)[k - 1], ?_, ?_⟩
          · have := List.pairwise_iff_getElem.1 (lst_lt d.worst.ss.length fun i => (d.worst.G g (d.worst.K g)).getD i false) (k - 1) k hlt2 hlt (by omega)
            rw [← hx]; exact this
          · rw [show (((k : Int) - 1).toNat : Int).toNat = k - 1 from by omega, getD_map n1 _ (k - 1) hlt2]; rfl
        have hn0 : 0 < (d.rs.map s2).length := by omega
        have cA := g21 (d.worst.weak g) x (by omega)
        have cB := g21 (d.worst.gone g) (ar (d.rs.map s2).length (x + 1)).toNat (by omega)
        have cC := g21 (d.worst.gone g) (ar (d.rs.map s2).length (x - 1)).toNat (by omega)
        rw [← ar_up hn0 x] at cB
        rw [← ar_down hn0 x] at cC
        have hcase : (d.worst.weak g).contains x = true ∨ (d.worst.gone g).contains (ar (d.rs.map s2).length (x + 1)).toNat = true ∨ (d.worst.gone g).contains (ar (d.rs.map s2).length (x - 1)).toNat = true := by
          by_cases hxw : x ∈ d.worst.weak g
          · exact .inl (by simpa using hxw)
          · have := gone_nb hxm hxw
            rw [hwl, ← hL] at this
            exact .inr (by simpa using this)
        by_cases hk0 : k = 0
        · subst hk0
          cases hA : (d.worst.weak g).contains x <;> rw [hA] at cA hcase
          · cases hB : (d.worst.gone g).contains (ar (d.rs.map s2).length (x + 1)).toNat <;> rw [hB] at cB hcase
            · have hC : (d.worst.gone g).contains (ar (d.rs.map s2).length (x - 1)).toNat = true := by simpa using hcase
              rw [hC] at cC
              (conv => whnf); (repeat' (first | (refine bT ?_; conv => whnf) | (refine bF ?_; conv => whnf) | (refine bN ?_) | (refine bD (fun hh => ?_) (fun hh => ?_) <;> first | (exfalso; omega) | (conv => whnf)) | (refine bEq (fun hh => ?_) (fun hh => ?_) <;> first | (exfalso; omega) | (conv => whnf)) | (refine bNe (fun hh => ?_) (fun hh => ?_) <;> first | (exfalso; omega) | (conv => whnf)) | (refine iaI (by omega) (by omega) hrow ?_; conv => whnf) | (refine (cA).lendq rfl (fun r (hr : r = _) => ?_); subst hr; refine ⟨rfl, ?_⟩; conv => whnf) | (refine (cB).lendq rfl (fun r (hr : r = _) => ?_); subst hr; refine ⟨rfl, ?_⟩; conv => whnf) | (refine (cC).lendq rfl (fun r (hr : r = _) => ?_); subst hr; refine ⟨rfl, ?_⟩; conv => whnf) | (refine wIn (by omega) ?_; conv => whnf) | (refine nI (by omega) ?_; conv => whnf)))
              all_goals exact ⟨1, (meets_id (by (repeat' apply And.intro) <;> first | rfl | exact True.intro | (intro hh; cases hh))), by omega, by omega⟩
            · (conv => whnf); (repeat' (first | (refine bT ?_; conv => whnf) | (refine bF ?_; conv => whnf) | (refine bN ?_) | (refine bD (fun hh => ?_) (fun hh => ?_) <;> first | (exfalso; omega) | (conv => whnf)) | (refine bEq (fun hh => ?_) (fun hh => ?_) <;> first | (exfalso; omega) | (conv => whnf)) | (refine bNe (fun hh => ?_) (fun hh => ?_) <;> first | (exfalso; omega) | (conv => whnf)) | (refine iaI (by omega) (by omega) hrow ?_; conv => whnf) | (refine (cA).lendq rfl (fun r (hr : r = _) => ?_); subst hr; refine ⟨rfl, ?_⟩; conv => whnf) | (refine (cB).lendq rfl (fun r (hr : r = _) => ?_); subst hr; refine ⟨rfl, ?_⟩; conv => whnf) | (refine wIn (by omega) ?_; conv => whnf) | (refine nI (by omega) ?_; conv => whnf)))
              all_goals exact ⟨1, (meets_id (by (repeat' apply And.intro) <;> first | rfl | exact True.intro | (intro hh; cases hh))), by omega, by omega⟩
          · (conv => whnf); (repeat' (first | (refine bT ?_; conv => whnf) | (refine bF ?_; conv => whnf) | (refine bN ?_) | (refine bD (fun hh => ?_) (fun hh => ?_) <;> first | (exfalso; omega) | (conv => whnf)) | (refine bEq (fun hh => ?_) (fun hh => ?_) <;> first | (exfalso; omega) | (conv => whnf)) | (refine bNe (fun hh => ?_) (fun hh => ?_) <;> first | (exfalso; omega) | (conv => whnf)) | (refine iaI (by omega) (by omega) hrow ?_; conv => whnf) | (refine (cA).lendq rfl (fun r (hr : r = _) => ?_); subst hr; refine ⟨rfl, ?_⟩; conv => whnf) | (refine wIn (by omega) ?_; conv => whnf) | (refine nI (by omega) ?_; conv => whnf)))
            all_goals exact ⟨1, (meets_id (by (repeat' apply And.intro) <;> first | rfl | exact True.intro | (intro hh; cases hh))), by omega, by omega⟩
        · obtain ⟨y, hy, hrow3⟩ := hrow2 (by omega)
          cases hA : (d.worst.weak g).contains x <;> rw [hA] at cA hcase
          · cases hB : (d.worst.gone g).contains (ar (d.rs.map s2).length (x + 1)).toNat <;> rw [hB] at cB hcase
            · have hC : (d.worst.gone g).contains (ar (d.rs.map s2).length (x - 1)).toNat = true := by simpa using hcase
              rw [hC] at cC
              (conv => whnf); (repeat' (first | (refine bT ?_; conv => whnf) | (refine bF ?_; conv => whnf) | (refine bN ?_) | (refine bD (fun hh => ?_) (fun hh => ?_) <;> first | (exfalso; omega) | (conv => whnf)) | (refine bEq (fun hh => ?_) (fun hh => ?_) <;> first | (exfalso; omega) | (conv => whnf)) | (refine bNe (fun hh => ?_) (fun hh => ?_) <;> first | (exfalso; omega) | (conv => whnf)) | (refine iaI (by omega) (by omega) hrow ?_; conv => whnf) | (refine iaI (by omega) (by omega) hrow3 ?_; conv => whnf) | (refine (cA).lendq rfl (fun r (hr : r = _) => ?_); subst hr; refine ⟨rfl, ?_⟩; conv => whnf) | (refine (cB).lendq rfl (fun r (hr : r = _) => ?_); subst hr; refine ⟨rfl, ?_⟩; conv => whnf) | (refine (cC).lendq rfl (fun r (hr : r = _) => ?_); subst hr; refine ⟨rfl, ?_⟩; conv => whnf) | (refine wIn (by omega) ?_; conv => whnf) | (refine nI (by omega) ?_; conv => whnf)))
              all_goals exact ⟨k + 1, (meets_id (by (repeat' apply And.intro) <;> first | rfl | exact True.intro | (intro hh; cases hh))), by omega, by omega⟩
            · (conv => whnf); (repeat' (first | (refine bT ?_; conv => whnf) | (refine bF ?_; conv => whnf) | (refine bN ?_) | (refine bD (fun hh => ?_) (fun hh => ?_) <;> first | (exfalso; omega) | (conv => whnf)) | (refine bEq (fun hh => ?_) (fun hh => ?_) <;> first | (exfalso; omega) | (conv => whnf)) | (refine bNe (fun hh => ?_) (fun hh => ?_) <;> first | (exfalso; omega) | (conv => whnf)) | (refine iaI (by omega) (by omega) hrow ?_; conv => whnf) | (refine iaI (by omega) (by omega) hrow3 ?_; conv => whnf) | (refine (cA).lendq rfl (fun r (hr : r = _) => ?_); subst hr; refine ⟨rfl, ?_⟩; conv => whnf) | (refine (cB).lendq rfl (fun r (hr : r = _) => ?_); subst hr; refine ⟨rfl, ?_⟩; conv => whnf) | (refine wIn (by omega) ?_; conv => whnf) | (refine nI (by omega) ?_; conv => whnf)))
              all_goals exact ⟨k + 1, (meets_id (by (repeat' apply And.intro) <;> first | rfl | exact True.intro | (intro hh; cases hh))), by omega, by omega⟩
          · (conv => whnf); (repeat' (first | (refine bT ?_; conv => whnf) | (refine bF ?_; conv => whnf) | (refine bN ?_) | (refine bD (fun hh => ?_) (fun hh => ?_) <;> first | (exfalso; omega) | (conv => whnf)) | (refine bEq (fun hh => ?_) (fun hh => ?_) <;> first | (exfalso; omega) | (conv => whnf)) | (refine bNe (fun hh => ?_) (fun hh => ?_) <;> first | (exfalso; omega) | (conv => whnf)) | (refine iaI (by omega) (by omega) hrow ?_; conv => whnf) | (refine iaI (by omega) (by omega) hrow3 ?_; conv => whnf) | (refine (cA).lendq rfl (fun r (hr : r = _) => ?_); subst hr; refine ⟨rfl, ?_⟩; conv => whnf) | (refine wIn (by omega) ?_; conv => whnf) | (refine nI (by omega) ?_; conv => whnf)))
            all_goals exact ⟨k + 1, (meets_id (by (repeat' apply And.intro) <;> first | rfl | exact True.intro | (intro hh; cases hh))), by omega, by omega⟩
      · have : k = (d.worst.gone g).length := by omega
        subst this
        (conv => whnf); (repeat' (first | (refine bT ?_; conv => whnf) | (refine bF ?_; conv => whnf) | (refine bN ?_) | (refine bD (fun hh => ?_) (fun hh => ?_) <;> first | (exfalso; omega) | (conv => whnf)) | (refine bEq (fun hh => ?_) (fun hh => ?_) <;> first | (exfalso; omega) | (conv => whnf)) | (refine bNe (fun hh => ?_) (fun hh => ?_) <;> first | (exfalso; omega) | (conv => whnf)) | (refine (g12).callq rfl rfl (fun r (hr : r = _) => ?_); subst hr; conv => whnf) | (refine wIn (by omega) ?_; conv => whnf) | (refine nI (by omega) ?_; conv => whnf)))
        all_goals rfl
end Go.Proofs
