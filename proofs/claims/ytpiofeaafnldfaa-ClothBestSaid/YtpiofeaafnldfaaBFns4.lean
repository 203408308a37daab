/- What each function of this program answers, proved by walking its body: further contracts that the law rests on. -/
import Derived.Test.YtpiofeaafnldfaaBFns3
set_option linter.unusedSimpArgs false
set_option linter.unusedVariables false
set_option linter.unusedSectionVars false
namespace Go.Proofs
open Go.Eng
attribute [local irreducible] Go.Eng.brB Go.Eng.need Go.Eng.wrE Go.Eng.iaE Go.Eng.slE Go.Eng.apE Go.Eng.CallZ Go.Eng.CallE Go.Eng.VCallE Go.Eng.YldE Go.Eng.GoC Go.Eng.MeetsE Go.Eng.FnA Go.Eng.FnV Go.Eng.ItA
set_option maxRecDepth 100000

def INF : Int := 1073741824
/-- the least of f from a on, k of them, and no more than INF -/
def mnF (f : Int → Int) (a : Int) : Nat → Int
  | 0 => INF
  | k + 1 => min (mnF f a k) (f (a + (k : Nat)))
theorem mnF_top (f : Int → Int) (a : Int) : ∀ k, mnF f a k ≤ INF
  | 0 => by simp [mnF]
  | k + 1 => by have := mnF_top f a k; simp only [mnF]; omega
theorem mnF_le (f : Int → Int) (a : Int) : ∀ {k j : Nat}, j < k → mnF f a k ≤ f (a + (j : Nat))
  | k + 1, j, h => by
    simp only [mnF]
    by_cases e : j = k
    · subst e; omega
    · have := mnF_le f a (k := k) (j := j) (by omega); omega
theorem mnF_att (f : Int → Int) (a : Int) : ∀ {k : Nat}, mnF f a k < INF → ∃ j : Nat, j < k ∧ mnF f a k = f (a + (j : Nat))
  | 0, h => by simp [mnF] at h
  | k + 1, h => by
    simp only [mnF] at h ⊢
    by_cases h1 : f (a + (k : Nat)) ≤ mnF f a k
    · exact ⟨k, by omega, by omega⟩
    · obtain ⟨j, hj, e⟩ := mnF_att f a (k := k) (by omega)
      exact ⟨j, by omega, by omega⟩
def loV (s w : Int) : Int := max 0 (w - s)
def lenV (s w : Int) : Nat := (min 2000 (w + s) + 1 - loV s w).toNat
/-- the least sum of the first rows that ends with width w -/
def dpF (s : Int) (C : Nat → Int × Int) : Nat → Int → Int
  | 0, w => if inS (C 0) w = true then w else INF
  | r + 1, w => if inS (C (r + 1)) w = true then mnF (fun v => dpF s C r v + w) (loV s w) (lenV s w) else INF
def okX (s : Int) (C : Nat → Int × Int) (r : Nat) (x : Nat → Int) : Prop := (∀ i, i ≤ r → inS (C i) (x i) = true) ∧ ∀ i, i < r → x (i + 1) - x i ≤ s ∧ x i - x (i + 1) ≤ s
theorem inS_iff {c : Int × Int} {w : Int} : inS c w = true ↔ c.1 ≤ w ∧ w ≤ c.2 := by simp [inS]
theorem dp_le {s : Int} {C : Nat → Int × Int} {x : Nat → Int} : ∀ {r : Nat}, (∀ i, i ≤ r → 0 ≤ (C i).1 ∧ (C i).2 ≤ 2000) → okX s C r x → dpF s C r (x r) ≤ sumK x (r + 1)
  | 0, hC, h => by
    simp only [dpF]
    rw [if_pos (h.1 0 (by omega))]
    simp [sumK]
  | r + 1, hC, h => by
    have ih := dp_le (r := r) (fun i hi => hC i (by omega)) ⟨fun i hi => h.1 i (by omega), fun i hi => h.2 i (by omega)⟩
    have h1 := inS_iff.1 (h.1 r (by omega))
    have h2 := inS_iff.1 (h.1 (r + 1) (by omega))
    have h3 := h.2 r (by omega)
    have c1 := hC r (by omega)
    have c2 := hC (r + 1) (by omega)
    simp only [dpF]
    rw [if_pos (h.1 (r + 1) (by omega))]
    have hj : (x r - loV s (x (r + 1))).toNat < lenV s (x (r + 1)) := by unfold lenV loV; omega
    have h4 := mnF_le (fun v => dpF s C r v + x (r + 1)) (loV s (x (r + 1))) hj
    have e : loV s (x (r + 1)) + ((x r - loV s (x (r + 1))).toNat : Int) = x r := by unfold loV; omega
    rw [e] at h4
    have e2 : sumK x (r + 1 + 1) = sumK x (r + 1) + x (r + 1) := rfl
    rw [e2]
    omega
theorem sumK_ext {f g : Nat → Int} {n : Nat} (h : ∀ i, i < n → f i = g i) : sumK f n = sumK g n := sumK_congr h
theorem dp_att {s : Int} {C : Nat → Int × Int} : ∀ {r : Nat} {w : Int}, (∀ i, i ≤ r → 0 ≤ (C i).1 ∧ (C i).2 ≤ 2000) → dpF s C r w < INF → ∃ x, okX s C r x ∧ x r = w ∧ sumK x (r + 1) = dpF s C r w
  | 0, w, hC, h => by
    simp only [dpF] at h ⊢
    by_cases hw : inS (C 0) w = true
    · rw [if_pos hw]
      exact ⟨fun _ => w, ⟨fun i hi => by have : i = 0 := by omega
                                         subst this; exact hw, fun i hi => by omega⟩, rfl, by simp [sumK]⟩
    · rw [if_neg hw] at h; exact absurd h (by decide)
  | r + 1, w, hC, h => by
    simp only [dpF] at h ⊢
    by_cases hw : inS (C (r + 1)) w = true
    · rw [if_pos hw] at h ⊢
      have h2 := inS_iff.1 hw
      have c2 := hC (r + 1) (by omega)
      obtain ⟨j, hj, e⟩ := mnF_att _ _ h
      obtain ⟨x, hx, h3, h4⟩ := dp_att (s := s) (r := r) (w := loV s w + (j : Nat)) (fun i hi => hC i (by omega)) (by omega)
      have hv : loV s w + (j : Int) ≤ w + s ∧ w - s ≤ loV s w + (j : Int) := by
        unfold lenV loV at hj; unfold loV; omega
      refine ⟨fun i => if i = r + 1 then w else x i, ⟨fun i hi => ?_, fun i hi => ?_⟩, by simp, ?_⟩
      · by_cases e1 : i = r + 1
        · subst e1; simpa using hw
        · simp only [if_neg e1]; exact hx.1 i (by omega)
      · simp only [if_neg (show ¬ i = r + 1 by omega)]
        by_cases e1 : i = r
        · subst e1; simp only [if_true]; omega
        · simp only [if_neg (show ¬ i + 1 = r + 1 by omega)]; exact hx.2 i (by omega)
      · have e2 : sumK (fun i => if i = r + 1 then w else x i) (r + 1 + 1) = sumK (fun i => if i = r + 1 then w else x i) (r + 1) + w := by simp [sumK]
        rw [e2, sumK_ext (g := x) (fun i hi => if_neg (by omega)), h4, e]
    · rw [if_neg hw] at h; exact absurd h (by decide)
theorem upF_le {s : Int} {cs : List (Int × Int)} {x : Nat → Int} : ∀ {k : Nat}, (∀ i, i ≤ k → (cs.getD i (0, 0)).1 ≤ x i) → (∀ i, i < k → x i - x (i + 1) ≤ s) → upF s cs k ≤ x k
  | 0, h, _ => h 0 (by omega)
  | k + 1, h, h2 => by
    have := upF_le (k := k) (fun i hi => h i (by omega)) fun i hi => h2 i (by omega)
    have h3 := h (k + 1) (by omega)
    have h4 := h2 k (by omega)
    simp only [upF]; omega
theorem dnF_le {s : Int} {cs : List (Int × Int)} {x : Nat → Int} (h : ∀ i, i < cs.length → (cs.getD i (0, 0)).1 ≤ x i) (h2 : ∀ i, i + 1 < cs.length → x (i + 1) - x i ≤ s ∧ x i - x (i + 1) ≤ s) : ∀ {j : Nat}, j < cs.length → dnF s cs j ≤ x (cs.length - 1 - j)
  | 0, hj => upF_le (fun i hi => h i (by omega)) fun i hi => (h2 i (by omega)).2
  | j + 1, hj => by
    have ih := dnF_le h h2 (j := j) (by omega)
    have u := upF_le (s := s) (cs := cs) (x := x) (k := cs.length - 2 - j) (fun i hi => h i (by omega)) fun i hi => (h2 i (by omega)).2
    have e1 : cs.length - 1 - (j + 1) = cs.length - 2 - j := by omega
    have e2 : cs.length - 1 - j = cs.length - 2 - j + 1 := by omega
    have h3 := (h2 (cs.length - 2 - j) (by omega)).1
    rw [e2] at ih
    rw [e1]
    simp only [dnF]; omega
theorem curveF_le {s : Int} {cs : List (Int × Int)} {x : Nat → Int} (h : ∀ i, i < cs.length → (cs.getD i (0, 0)).1 ≤ x i) (h2 : ∀ i, i + 1 < cs.length → x (i + 1) - x i ≤ s ∧ x i - x (i + 1) ≤ s) {i : Nat} (hi : i < cs.length) : curveF s cs i ≤ x i := by
  have := dnF_le h h2 (j := cs.length - 1 - i) (by omega)
  rwa [show cs.length - 1 - (cs.length - 1 - i) = i from by omega] at this
theorem curveF_eq {s : Int} {cs : List (Int × Int)} {i : Nat} (hi : i + 1 < cs.length) : curveF s cs i = max (upF s cs i) (curveF s cs (i + 1) - s) := by
  unfold curveF
  rw [show cs.length - 1 - i = (cs.length - 1 - (i + 1)) + 1 from by omega]
  simp only [dnF]
  rw [show cs.length - 2 - (cs.length - 1 - (i + 1)) = i from by omega]
theorem up_curve {s : Int} {cs : List (Int × Int)} {i : Nat} (hi : i < cs.length) : upF s cs i ≤ curveF s cs i := by
  by_cases h : i + 1 < cs.length
  · rw [curveF_eq h]; omega
  · unfold curveF
    rw [show cs.length - 1 - i = 0 from by omega]
    simp only [dnF]
    rw [show cs.length - 1 = i from by omega]
    omega
theorem lo_up {s : Int} {cs : List (Int × Int)} : ∀ i, (cs.getD i (0, 0)).1 ≤ upF s cs i
  | 0 => by simp [upF]
  | i + 1 => by simp only [upF]; omega
theorem curve_step {s : Int} (hs : 0 ≤ s) {cs : List (Int × Int)} {i : Nat} (hi : i + 1 < cs.length) : curveF s cs (i + 1) - curveF s cs i ≤ s ∧ curveF s cs i - curveF s cs (i + 1) ≤ s := by
  have e := curveF_eq (s := s) hi
  have u := up_curve (s := s) hi
  simp only [upF] at u
  omega
theorem sumK_list (f : Nat → Int) : ∀ n, ((List.range n).map f).sum = sumK f n
  | 0 => rfl
  | n + 1 => by rw [List.range_succ, List.map_append, List.sum_append, sumK_list f n]; simp [sumK]
theorem sumK_le {f g : Nat → Int} : ∀ {n : Nat}, (∀ i, i < n → f i ≤ g i) → sumK f n ≤ sumK g n
  | 0, _ => by simp [sumK]
  | n + 1, h => by
    have := sumK_le (n := n) fun i hi => h i (by omega)
    have := h n (by omega)
    simp only [sumK]; omega
theorem sumK_top {f : Nat → Int} : ∀ {n : Nat}, (∀ i, i < n → f i ≤ 2000) → sumK f n ≤ n * 2000
  | 0, _ => by simp [sumK]
  | n + 1, h => by
    have := sumK_top (n := n) fun i hi => h i (by omega)
    have := h n (by omega)
    simp only [sumK]; omega
/-- the least sum of all -/
theorem least_some {s : Int} (hs : 0 ≤ s) {cs : List (Int × Int)} {C : Nat → Int × Int} {r : Nat} (hr : cs.length = r + 1) (hr2 : r < 1000) (hC : ∀ i, i ≤ r → C i = cs.getD i (0, 0)) (hb : ∀ i, i ≤ r → 0 ≤ (C i).1 ∧ (C i).2 ≤ 2000) (h : ∀ i, i < cs.length → inS (cs.getD i (0, 0)) (curveF s cs i) = true) : mnF (dpF s C r) 0 2001 = (curveL s cs).sum ∧ (curveL s cs).sum < INF := by
  have hx : okX s C r (curveF s cs) := ⟨fun i hi => by rw [hC i hi]; exact h i (by omega), fun i hi => curve_step hs (by omega)⟩
  have h1 := dp_le hb hx
  have h2 : sumK (curveF s cs) (r + 1) ≤ ((r + 1 : Nat) : Int) * 2000 := sumK_top fun i hi => by
    have := inS_iff.1 (hx.1 i (by omega)); have := hb i (by omega); omega
  have e : (curveL s cs).sum = sumK (curveF s cs) (r + 1) := by unfold curveL; rw [sumK_list, hr]
  have hw := inS_iff.1 (hx.1 r (by omega))
  have hwb := hb r (by omega)
  have h3 := mnF_le (dpF s C r) 0 (k := 2001) (j := (curveF s cs r).toNat) (by omega)
  rw [show (0 : Int) + ((curveF s cs r).toNat : Int) = curveF s cs r from by omega] at h3
  have hI : INF = 1073741824 := rfl
  rw [e]
  refine ⟨?_, by omega⟩
  obtain ⟨j, hj, h4⟩ := mnF_att (dpF s C r) 0 (k := 2001) (by omega)
  obtain ⟨x, hx2, h5, h6⟩ := dp_att (s := s) (r := r) (w := 0 + (j : Nat)) hb (by omega)
  have h7 : sumK (curveF s cs) (r + 1) ≤ sumK x (r + 1) := sumK_le fun i hi => curveF_le (fun i hi => by
    rw [← hC i (by omega)]; exact (inS_iff.1 (hx2.1 i (by omega))).1) (fun i hi => hx2.2 i (by omega)) (by omega)
  omega
theorem least_none {s : Int} {cs : List (Int × Int)} {C : Nat → Int × Int} {r : Nat} (hr : cs.length = r + 1) (hC : ∀ i, i ≤ r → C i = cs.getD i (0, 0)) (hb : ∀ i, i ≤ r → 0 ≤ (C i).1 ∧ (C i).2 ≤ 2000) (h : ¬ ∀ i, i < cs.length → inS (cs.getD i (0, 0)) (curveF s cs i) = true) : mnF (dpF s C r) 0 2001 = INF := by
  apply Classical.byContradiction
  intro hn
  have ht := mnF_top (dpF s C r) 0 2001
  obtain ⟨j, hj, h4⟩ := mnF_att (dpF s C r) 0 (k := 2001) (by omega)
  obtain ⟨x, hx2, h5, h6⟩ := dp_att (s := s) (r := r) (w := 0 + (j : Nat)) hb (by omega)
  refine h fun i hi => inS_iff.2 ⟨?_, ?_⟩
  · have := lo_up (s := s) (cs := cs) i
    have := up_curve (s := s) hi
    omega
  · have h7 := curveF_le (s := s) (cs := cs) (x := x) (fun i hi => by
      rw [← hC i (by omega)]; exact (inS_iff.1 (hx2.1 i (by omega))).1) (fun i hi => hx2.2 i (by omega)) hi
    have h8 := (inS_iff.1 (hx2.1 i (by omega))).2
    rw [hC i (by omega)] at h8
    omega

theorem k42_no (d : Dome) (h : d.eD ≠ 0) : FnA Try.prog 42 [.agg d.cells] (· = .tup [.int .i64 0, .int .i64 d.eD]) := by
  have e := k64 d 0 0
  rw [kE_D, if_neg h] at e
  refine fnA 5 ok42 (by simp) ?_
  (conv => whnf); (repeat' (first | (refine bT ?_; conv => whnf) | (refine bF ?_; conv => whnf) | (refine bN ?_) | (refine bD (fun hh => ?_) (fun hh => ?_) <;> first | (exfalso; omega) | (conv => whnf)) | (refine bEq (fun hh => ?_) (fun hh => ?_) <;> first | (exfalso; omega) | (conv => whnf)) | (refine bNe (fun hh => ?_) (fun hh => ?_) <;> first | (exfalso; omega) | (conv => whnf)) | (refine (e).callzq rfl rfl (fun r (hr : r = _) => ?_); subst hr; conv => whnf) | (refine wIn (by omega) ?_; conv => whnf) | (refine nI (by omega) ?_; conv => whnf)))
  all_goals rfl
def Opn.C (o : Opn) (i : Nat) : Int × Int := (o.cut (o.d.rs.getD i (0, 0))).getD (0, 0)
def tbl (d : Dome) : Nat → List (List AV)
  | 0 => []
  | k + 1 => rngA (fun (w : Nat) => dpF d.slope d.opn.C k w) 2001
/-- the table of a row, filled up to w -/
def fil (d : Dome) (k w : Nat) (i : Nat) : Int := if i < w then dpF d.slope d.opn.C k i else 0
/-- and at w, v -/
def fiv (d : Dome) (k w : Nat) (v : Int) (i : Nat) : Int := if i = w then v else fil d k w i
theorem rep_rng (f : Nat → Int) (n : Nat) (h : ∀ i, f i = 0) : List.replicate n [AV.int .i64 0] = rngA f n := by
  apply List.ext_getElem (by simp [rngA])
  intro i h1 h2
  simp [rngA, h]
theorem fil_rep (d : Dome) (k : Nat) : List.replicate (Int.toNat 2001) [AV.int .i64 0] = rngA (fil d k 0) 2001 := rep_rng (fil d k 0) 2001 fun i => if_neg (by omega)
theorem dp_bd {s : Int} {C : Nat → Int × Int} : ∀ {r : Nat} {w : Int}, 0 ≤ w → w ≤ 2000 → 0 ≤ dpF s C r w ∧ dpF s C r w ≤ INF
  | 0, w, h0, h1 => by
    have hI : INF = 1073741824 := rfl
    simp only [dpF]; split <;> omega
  | r + 1, w, h0, h1 => by
    have hI : INF = 1073741824 := rfl
    simp only [dpF]
    split
    · refine ⟨?_, mnF_top _ _ _⟩
      by_cases h : mnF (fun v => dpF s C r v + w) (loV s w) (lenV s w) < INF
      · obtain ⟨j, hj, e⟩ := mnF_att _ _ h
        have := dp_bd (s := s) (C := C) (r := r) (w := loV s w + (j : Nat)) (by unfold loV; omega) (by unfold lenV at hj; omega)
        omega
      · omega
    · omega
/-- the least, over the first j widths below, of the sums that end at w -/
def Mf (d : Dome) (k : Nat) (w : Int) (j : Nat) : Int := mnF (fun v => dpF d.slope d.opn.C (k - 1) v + w) (loV d.slope w) j
theorem Mf_dp (d : Dome) {k : Nat} (hk : k ≠ 0) {w : Int} (h : inS (d.opn.C k) w = true) : dpF d.slope d.opn.C k w = Mf d k w (lenV d.slope w) := by
  cases k with
  | zero => exact absurd rfl hk
  | succ k => simp only [dpF]; rw [if_pos h]; rfl
theorem Mf_0 (d : Dome) (k : Nat) (w : Int) : Mf d k w 0 = 1073741824 := rfl
theorem Mf_s (d : Dome) (k : Nat) (w : Int) (j : Nat) : Mf d k w (j + 1) = min (Mf d k w j) (dpF d.slope d.opn.C (k - 1) (loV d.slope w + (j : Nat)) + w) := rfl
theorem Mf_bd (d : Dome) (k : Nat) {w : Int} (h0 : 0 ≤ w) {j : Nat} (hj : j ≤ lenV d.slope w) : 0 ≤ Mf d k w j ∧ Mf d k w j ≤ 1073741824 := by
  refine ⟨?_, mnF_top _ _ _⟩
  have hI : INF = 1073741824 := rfl
  by_cases h1 : Mf d k w j < INF
  · obtain ⟨i, hi, e⟩ := mnF_att _ _ h1
    have := dp_bd (s := d.slope) (C := d.opn.C) (r := k - 1) (w := loV d.slope w + (i : Nat)) (by unfold loV; omega) (by unfold lenV at hj; omega)
    unfold Mf
    omega
  · omega
theorem tbl_pos (d : Dome) {k : Nat} (hk : k ≠ 0) : tbl d k = rngA (fun (w : Nat) => dpF d.slope d.opn.C (k - 1) w) 2001 := by
  cases k with
  | zero => exact absurd rfl hk
  | succ k => rfl
theorem fiv_at (d : Dome) (k w : Nat) (v : Int) : fiv d k w v w = v := if_pos rfl
theorem fil_set (d : Dome) (k w : Nat) (hw : w < 2001) (v : Int) : (rngA (fil d k w) 2001).set (w : Int).toNat [.int .i64 v] = rngA (fiv d k w v) 2001 := by
  have h := rng_set (fil d k w) (fiv d k w v) hw fun j _ => by
    unfold fiv; by_cases e : j = w
    · rw [if_pos e, if_pos e, if_pos rfl]
    · rw [if_neg e, if_neg e]
  rwa [show fiv d k w v w = v from if_pos rfl] at h
theorem fiv_set (d : Dome) (k w : Nat) (hw : w < 2001) (u v : Int) : (rngA (fiv d k w u) 2001).set (w : Int).toNat [.int .i64 v] = rngA (fiv d k w v) 2001 := by
  have h := rng_set (fiv d k w u) (fiv d k w v) hw fun j _ => by
    unfold fiv; by_cases e : j = w
    · rw [if_pos e, if_pos e, if_pos rfl]
    · rw [if_neg e, if_neg e, if_neg e]
  rwa [show fiv d k w v w = v from if_pos rfl] at h
theorem fiv_fil (d : Dome) (k w : Nat) : rngA (fiv d k w (dpF d.slope d.opn.C k w)) 2001 = rngA (fil d k (w + 1)) 2001 := by
  unfold rngA
  refine List.map_congr_left fun i _ => ?_
  unfold fiv fil
  by_cases e : i = w
  · subst e; rw [if_pos rfl, if_pos (by omega)]
  · rw [if_neg e]
    by_cases h : i < w
    · rw [if_pos h, if_pos (by omega)]
    · rw [if_neg h, if_neg (by omega)]
theorem k42_fin (d : Dome) (hok : d.ok) (hh : d.has = true) {cs : List (Int × Int)} (hcs : d.opn.cutsN d.rs.length = some cs) : (mnF (dpF d.slope d.opn.C (d.rs.length - 1)) 0 2001 < 1073741824 ∧ leastAV d.opn.curve = .tup [.int .i64 (mnF (dpF d.slope d.opn.C (d.rs.length - 1)) 0 2001), .int .i64 0]) ∨ (mnF (dpF d.slope d.opn.C (d.rs.length - 1)) 0 2001 = 1073741824 ∧ leastAV d.opn.curve = .tup [.int .i64 0, .int .i64 3]) := by
  have hrl := hok.1.2.2.2.2.1
  have hsl := hok.1.2.2.2.2.2.2.2.2
  have hll := hok.1.2.2.2.1
  have hlen := cutsN_len hcs
  have hg := cutsN_get hcs
  have hC : ∀ i, i ≤ d.rs.length - 1 → d.opn.C i = cs.getD i (0, 0) := fun i hi => by
    unfold Opn.C; rw [hg i (by omega)]; rfl
  have hb : ∀ i, i ≤ d.rs.length - 1 → 0 ≤ (d.opn.C i).1 ∧ (d.opn.C i).2 ≤ 2000 := fun i hi => by
    have := cut_in (opn_ok hok hh) (hg i (by omega))
    have e : d.opn.d.loss = d.loss := rfl
    rw [hC i hi]; omega
  unfold Opn.curve Opn.cuts
  rw [show d.opn.d.rs.length = d.rs.length from rfl, hcs, show d.opn.d.slope = d.slope from rfl]
  by_cases h : ∀ i, i < cs.length → inS (cs.getD i (0, 0)) (curveF d.slope cs i) = true
  · obtain ⟨h1, h2⟩ := least_some hsl.1 (cs := cs) (C := d.opn.C) (r := d.rs.length - 1) (by omega) (by omega) hC hb h
    simp only [if_pos h]
    refine .inl ⟨?_, ?_⟩
    · rw [h1]; exact h2
    · rw [h1]; rfl
  · have h1 := least_none (s := d.slope) (cs := cs) (C := d.opn.C) (r := d.rs.length - 1) (by omega) hC hb h
    simp only [if_neg h]
    exact .inr ⟨h1, rfl⟩
attribute [local irreducible] rngA fil fiv dpF mnF Mf in
theorem k42 (d : Dome) (h : d.eD = 0) : FnA Try.prog 42 [.agg d.cells] (· = leastAV d.opn.curve) := by
  obtain ⟨hok, hh⟩ := eD_ok h
  have e := k64 d 0 0
  rw [kE_D, if_pos h] at e
  have l3 : (d.rs.map pairAV).length = d.rs.length := by simp
  have hrl := hok.1.2.2.2.2.1
  have hsl := hok.1.2.2.2.2.2.2.2.2
  have hoo := opn_ok hok hh
  refine fnA 5 ok42 (by simp) ?_
  (conv => whnf); (repeat' (first | (refine bT ?_; conv => whnf) | (refine bF ?_; conv => whnf) | (refine bN ?_) | (refine bD (fun hh => ?_) (fun hh => ?_) <;> first | (exfalso; omega) | (conv => whnf)) | (refine bEq (fun hh => ?_) (fun hh => ?_) <;> first | (exfalso; omega) | (conv => whnf)) | (refine bNe (fun hh => ?_) (fun hh => ?_) <;> first | (exfalso; omega) | (conv => whnf)) | (refine (e).callzq rfl rfl (fun r (hr : r = _) => ?_); subst hr; conv => whnf) | (refine wIn (by omega) ?_; conv => whnf) | (refine nI (by omega) ?_; conv => whnf)))
  refine loop_i (α := Nat) (fun k => [(7, .int .i64 k), (6, .row 4), (5, .int .i64 0), (4, .isl (d.T.map rowAV)), (3, .int .i64 0), (2, .int .i64 0), (1, .own 0 0)]) (fun k => [.box false d.cells, .fresh, .fresh, .fresh, .row false 3 1 (tbl d k)]) (fun k => k ≤ d.rs.length ∧ ∃ cs, d.opn.cutsN k = some cs) (fun k => d.rs.length - k) 0 (meets_nil 4 (by (repeat' apply And.intro) <;> first | rfl | exact True.intro | (intro hh; cases hh))) ⟨by omega, [], rfl⟩ ?_
  rintro k ⟨hk0, cs, hcs⟩
  conv => whnf
  refine bD (fun h4 => ?_) (fun h4 => ?_)
  · have hk : k < d.rs.length := by omega
    have e67 := k67 d k hok hh hk
    have hn : d.opn.cutsN (k + 1) = (d.opn.cut d.rs[k]).map fun c => cs ++ [c] := by
      simp only [Opn.cutsN, hcs]; congr 2; simp [List.getD_eq_getElem?_getD, hk, Dome.opn]
    cases hc : d.opn.cut d.rs[k] with
    | none =>
      have hc2 : d.opn.curve = none := by
        rw [hc] at hn
        have := cutsN_none hn (d.rs.length - (k + 1))
        rw [show k + 1 + (d.rs.length - (k + 1)) = d.rs.length from by omega] at this
        unfold Opn.curve Opn.cuts
        rw [show d.opn.d.rs.length = d.rs.length from rfl, this]
      rw [hc] at e67
      rw [hc2]
      have e67' : FnA Try.prog 67 [.agg d.cells, .isl (d.T.map rowAV), .int .i64 k] (· = .tup [.agg [.int .i64 0, .int .i64 0], .bool false]) := e67
      (conv => whnf); (repeat' (first | (refine bT ?_; conv => whnf) | (refine bF ?_; conv => whnf) | (refine bN ?_) | (refine bD (fun hh => ?_) (fun hh => ?_) <;> first | (exfalso; omega) | (conv => whnf)) | (refine bEq (fun hh => ?_) (fun hh => ?_) <;> first | (exfalso; omega) | (conv => whnf)) | (refine bNe (fun hh => ?_) (fun hh => ?_) <;> first | (exfalso; omega) | (conv => whnf)) | (refine (e67').callq rfl rfl (fun r (hr : r = _) => ?_); subst hr; conv => whnf) | (refine wIn (by omega) ?_; conv => whnf) | (refine nI (by omega) ?_; conv => whnf)))
      all_goals rfl
    | some c =>
      rw [hc] at e67
      have e67' : FnA Try.prog 67 [.agg d.cells, .isl (d.T.map rowAV), .int .i64 k] (· = .tup [.agg [.int .i64 c.1, .int .i64 c.2], .bool true]) := e67
      have hci := cut_in hoo hc
      have hcl : 2 * d.loss ≤ c.1 := hci.1
      have hCk : d.opn.C k = c := by
        unfold Opn.C; rw [show d.opn.d.rs.getD k (0, 0) = d.rs[k] from by simp [List.getD_eq_getElem?_getD, hk, Dome.opn], hc]; rfl
      (conv => whnf); (repeat' (first | (refine bT ?_; conv => whnf) | (refine bF ?_; conv => whnf) | (refine bN ?_) | (refine bD (fun hh => ?_) (fun hh => ?_) <;> first | (exfalso; omega) | (conv => whnf)) | (refine bEq (fun hh => ?_) (fun hh => ?_) <;> first | (exfalso; omega) | (conv => whnf)) | (refine bNe (fun hh => ?_) (fun hh => ?_) <;> first | (exfalso; omega) | (conv => whnf)) | (refine (e67').callq rfl rfl (fun r (hr : r = _) => ?_); subst hr; conv => whnf) | (refine wIn (by omega) ?_; conv => whnf) | (refine nI (by omega) ?_; conv => whnf)))
      refine mkI (by omega) (by omega) (by omega) ?_
      rw [fil_rep d k]
      (conv => whnf); (repeat' (first | (refine bT ?_; conv => whnf) | (refine bF ?_; conv => whnf) | (refine bN ?_) | (refine bD (fun hh => ?_) (fun hh => ?_) <;> first | (exfalso; omega) | (conv => whnf)) | (refine bEq (fun hh => ?_) (fun hh => ?_) <;> first | (exfalso; omega) | (conv => whnf)) | (refine bNe (fun hh => ?_) (fun hh => ?_) <;> first | (exfalso; omega) | (conv => whnf)) | (refine wIn (by omega) ?_; conv => whnf) | (refine nI (by omega) ?_; conv => whnf)))
      refine loop_i (α := Nat) (fun w => [(11, .int .i64 w), (10, .row 3), (8, .own 2 0), (7, .int .i64 k), (6, .row 4), (5, .int .i64 0), (4, .isl (d.T.map rowAV)), (3, .int .i64 0), (2, .int .i64 0), (1, .own 0 0)]) (fun w => [.box false d.cells, .fresh, .box false [.int .i64 c.1, .int .i64 c.2], .row false 3 1 (rngA (fil d k w) 2001), .row false 3 1 (tbl d k)]) (fun w => w ≤ 2001) (fun w => 2001 - w) 0 (meets_id (by (repeat' apply And.intro) <;> first | rfl | exact True.intro | (intro hh; cases hh))) (by omega) ?_
      intro w hw0
      conv => whnf
      refine bD (fun h5 => ?_) (fun h5 => ?_)
      · have hw : w < 2001 := by omega
        have e54 := k54 w c.1 c.2
        have hrl2 := rng_len (fil d k w) 2001
        have hrg := rng_get (fil d k w) hw
        (conv => whnf); (repeat' (first | (refine bT ?_; conv => whnf) | (refine bF ?_; conv => whnf) | (refine bN ?_) | (refine bD (fun hh => ?_) (fun hh => ?_) <;> first | (exfalso; omega) | (conv => whnf)) | (refine bEq (fun hh => ?_) (fun hh => ?_) <;> first | (exfalso; omega) | (conv => whnf)) | (refine bNe (fun hh => ?_) (fun hh => ?_) <;> first | (exfalso; omega) | (conv => whnf)) | (refine wIn (by omega) ?_; conv => whnf) | (refine nI (by omega) ?_; conv => whnf)))
        refine iaI (by omega) (by rw [hrl2]; omega) hrg ?_
        conv => whnf
        have hs1 := fil_set d k w hw 1073741824
        have hrl3 : ((rngA (fil d k w) 2001).set (w : Int).toNat [.int .i64 1073741824]).length = 2001 := by rw [hs1, rng_len]
        have hrg3 : ((rngA (fil d k w) 2001).set (w : Int).toNat [.int .i64 1073741824]).getD (w : Int).toNat [] = [.int .i64 1073741824] := by
          rw [hs1, Int.toNat_natCast, rng_get _ hw, fiv_at]
        by_cases hin : c.1 ≤ (w : Int) ∧ (w : Int) ≤ c.2
        case neg =>
          rw [decide_eq_false hin] at e54
          have hdp : dpF d.slope d.opn.C k w = 1073741824 := by
            cases k with
            | zero => simp only [dpF]; rw [hCk, if_neg fun h => hin (inS_iff.1 h)]; rfl
            | succ k => simp only [dpF]; rw [hCk, if_neg fun h => hin (inS_iff.1 h)]; rfl
          have hff := fiv_fil d k w
          rw [hdp] at hff
          (conv => whnf); (repeat' (first | (refine bT ?_; conv => whnf) | (refine bF ?_; conv => whnf) | (refine bN ?_) | (refine bD (fun hh => ?_) (fun hh => ?_) <;> first | (exfalso; omega) | (conv => whnf)) | (refine bEq (fun hh => ?_) (fun hh => ?_) <;> first | (exfalso; omega) | (conv => whnf)) | (refine bNe (fun hh => ?_) (fun hh => ?_) <;> first | (exfalso; omega) | (conv => whnf)) | (refine (e54).callq rfl rfl (fun r (hr : r = _) => ?_); subst hr; conv => whnf) | (refine wIn (by omega) ?_; conv => whnf) | (refine nI (by omega) ?_; conv => whnf)))
          refine ⟨w + 1, ?_, by omega, by omega⟩
          rw [← hff, ← hs1]
          exact (meets_id (by (repeat' apply And.intro) <;> first | rfl | exact True.intro | (intro hh; cases hh)))
        rw [decide_eq_true hin] at e54
        by_cases hk1 : k = 0
        · subst hk1
          have hdp : dpF d.slope d.opn.C 0 w = w := by simp only [dpF]; rw [hCk, if_pos (inS_iff.2 hin)]
          (conv => whnf); (repeat' (first | (refine bT ?_; conv => whnf) | (refine bF ?_; conv => whnf) | (refine bN ?_) | (refine bD (fun hh => ?_) (fun hh => ?_) <;> first | (exfalso; omega) | (conv => whnf)) | (refine bEq (fun hh => ?_) (fun hh => ?_) <;> first | (exfalso; omega) | (conv => whnf)) | (refine bNe (fun hh => ?_) (fun hh => ?_) <;> first | (exfalso; omega) | (conv => whnf)) | (refine (e54).callq rfl rfl (fun r (hr : r = _) => ?_); subst hr; conv => whnf) | (refine wIn (by omega) ?_; conv => whnf) | (refine nI (by omega) ?_; conv => whnf)))
          refine iaI (by omega) (by rw [hrl3]; omega) hrg3 ?_
          (conv => whnf); (repeat' (first | (refine bT ?_; conv => whnf) | (refine bF ?_; conv => whnf) | (refine bN ?_) | (refine bD (fun hh => ?_) (fun hh => ?_) <;> first | (exfalso; omega) | (conv => whnf)) | (refine bEq (fun hh => ?_) (fun hh => ?_) <;> first | (exfalso; omega) | (conv => whnf)) | (refine bNe (fun hh => ?_) (fun hh => ?_) <;> first | (exfalso; omega) | (conv => whnf)) | (refine wIn (by omega) ?_; conv => whnf) | (refine nI (by omega) ?_; conv => whnf)))
          have hff := fiv_fil d 0 w
          rw [hdp] at hff
          refine loop_i (α := Unit) (fun _ => [(12, .int .i64 (max 0 ((w : Int) - d.slope))), (11, .int .i64 w), (10, .row 3), (8, .own 2 0), (7, .int .i64 (0 : Nat)), (6, .row 4), (5, .int .i64 0), (4, .isl (d.T.map rowAV)), (3, .int .i64 0), (2, .int .i64 0), (1, .own 0 0)]) (fun _ => [.box false d.cells, .fresh, .box false [.int .i64 c.1, .int .i64 c.2], .row false 3 1 (rngA (fil d 0 (w + 1)) 2001), .row false 3 1 (tbl d 0)]) (fun _ => True) (fun _ => 0) () (by rw [← hff, ← fiv_set d 0 w hw 1073741824 w, ← hs1]; exact (meets_id (by (repeat' apply And.intro) <;> first | rfl | exact True.intro | (intro hh; cases hh)))) True.intro ?_
          intro _ _
          (conv => whnf); (repeat' (first | (refine bT ?_; conv => whnf) | (refine bF ?_; conv => whnf) | (refine bN ?_) | (refine bD (fun hh => ?_) (fun hh => ?_) <;> first | (exfalso; omega) | (conv => whnf)) | (refine bEq (fun hh => ?_) (fun hh => ?_) <;> first | (exfalso; omega) | (conv => whnf)) | (refine bNe (fun hh => ?_) (fun hh => ?_) <;> first | (exfalso; omega) | (conv => whnf)) | (refine wIn (by omega) ?_; conv => whnf) | (refine nI (by omega) ?_; conv => whnf)))
          all_goals exact ⟨w + 1, (meets_id (by (repeat' apply And.intro) <;> first | rfl | exact True.intro | (intro hh; cases hh))), by omega, by omega⟩
        · have hdp := Mf_dp d hk1 (w := w) (by rw [hCk]; exact inS_iff.2 hin)
          have hff := fiv_fil d k w
          rw [hdp] at hff
          have hm0 := Mf_0 d k w
          have hlo : loV d.slope w = max 0 ((w : Int) - d.slope) := rfl
          have hle : (lenV d.slope w : Int) = max 0 (min 2000 ((w : Int) + d.slope) + 1 - loV d.slope w) := by unfold lenV; omega
          (conv => whnf); (repeat' (first | (refine bT ?_; conv => whnf) | (refine bF ?_; conv => whnf) | (refine bN ?_) | (refine bD (fun hh => ?_) (fun hh => ?_) <;> first | (exfalso; omega) | (conv => whnf)) | (refine bEq (fun hh => ?_) (fun hh => ?_) <;> first | (exfalso; omega) | (conv => whnf)) | (refine bNe (fun hh => ?_) (fun hh => ?_) <;> first | (exfalso; omega) | (conv => whnf)) | (refine (e54).callq rfl rfl (fun r (hr : r = _) => ?_); subst hr; conv => whnf) | (refine wIn (by omega) ?_; conv => whnf) | (refine nI (by omega) ?_; conv => whnf)))
          refine loop_i (α := Nat) (fun j => [(12, .int .i64 (loV d.slope w + (j : Nat))), (11, .int .i64 w), (10, .row 3), (8, .own 2 0), (7, .int .i64 k), (6, .row 4), (5, .int .i64 0), (4, .isl (d.T.map rowAV)), (3, .int .i64 0), (2, .int .i64 0), (1, .own 0 0)]) (fun j => [.box false d.cells, .fresh, .box false [.int .i64 c.1, .int .i64 c.2], .row false 3 1 (rngA (fiv d k w (Mf d k w j)) 2001), .row false 3 1 (tbl d k)]) (fun j => j ≤ lenV d.slope w) (fun j => lenV d.slope w - j) 0 (by rw [hm0, ← hs1, hlo, show max 0 ((w : Int) - d.slope) + ((0 : Nat) : Int) = max 0 ((w : Int) - d.slope) from by omega]; exact (meets_id (by (repeat' apply And.intro) <;> first | rfl | exact True.intro | (intro hh; cases hh)))) (by omega) ?_
          intro j hj0
          have hmb := Mf_bd d k (w := (w : Int)) (by omega) hj0
          have hg1 : (rngA (fiv d k w (Mf d k w j)) 2001).getD (w : Int).toNat [] = [.int .i64 (Mf d k w j)] := by
            rw [Int.toNat_natCast, rng_get _ hw, fiv_at]
          have hg1l := rng_len (fiv d k w (Mf d k w j)) 2001
          by_cases hj : j < lenV d.slope w
          · have hv0 : 0 ≤ loV d.slope w + (j : Int) := by omega
            have hv1 : loV d.slope w + (j : Int) ≤ 2000 := by omega
            have hg2 : (tbl d k).getD (loV d.slope w + (j : Int)).toNat [] = [.int .i64 (dpF d.slope d.opn.C (k - 1) (loV d.slope w + (j : Int)))] := by
              rw [tbl_pos d hk1, rng_get _ (by omega)]
              rw [show (((loV d.slope w + (j : Int)).toNat : Nat) : Int) = loV d.slope w + (j : Int) from by omega]
            have hg2l : (tbl d k).length = 2001 := by rw [tbl_pos d hk1, rng_len]
            have hdb := dp_bd (s := d.slope) (C := d.opn.C) (r := k - 1) hv0 hv1
            have hI : INF = 1073741824 := rfl
            (conv => whnf); (repeat' (first | (refine bT ?_; conv => whnf) | (refine bF ?_; conv => whnf) | (refine bN ?_) | (refine bD (fun hh => ?_) (fun hh => ?_) <;> first | (exfalso; omega) | (conv => whnf)) | (refine bEq (fun hh => ?_) (fun hh => ?_) <;> first | (exfalso; omega) | (conv => whnf)) | (refine bNe (fun hh => ?_) (fun hh => ?_) <;> first | (exfalso; omega) | (conv => whnf)) | (refine wIn (by omega) ?_; conv => whnf) | (refine nI (by omega) ?_; conv => whnf)))
            refine iaI (by omega) (by rw [hg1l]; omega) hg1 ?_
            (conv => whnf); (repeat' (first | (refine bT ?_; conv => whnf) | (refine bF ?_; conv => whnf) | (refine bN ?_) | (refine bD (fun hh => ?_) (fun hh => ?_) <;> first | (exfalso; omega) | (conv => whnf)) | (refine bEq (fun hh => ?_) (fun hh => ?_) <;> first | (exfalso; omega) | (conv => whnf)) | (refine bNe (fun hh => ?_) (fun hh => ?_) <;> first | (exfalso; omega) | (conv => whnf)) | (refine wIn (by omega) ?_; conv => whnf) | (refine nI (by omega) ?_; conv => whnf)))
            refine iaI (by omega) (by rw [hg2l]; omega) hg2 ?_
            (conv => whnf); (repeat' (first | (refine bT ?_; conv => whnf) | (refine bF ?_; conv => whnf) | (refine bN ?_) | (refine bD (fun hh => ?_) (fun hh => ?_) <;> first | (exfalso; omega) | (conv => whnf)) | (refine bEq (fun hh => ?_) (fun hh => ?_) <;> first | (exfalso; omega) | (conv => whnf)) | (refine bNe (fun hh => ?_) (fun hh => ?_) <;> first | (exfalso; omega) | (conv => whnf)) | (refine wIn (by omega) ?_; conv => whnf) | (refine nI (by omega) ?_; conv => whnf)))
            refine iaI (by omega) (by rw [hg1l]; omega) hg1 ?_
            (conv => whnf); (repeat' (first | (refine bT ?_; conv => whnf) | (refine bF ?_; conv => whnf) | (refine bN ?_) | (refine bD (fun hh => ?_) (fun hh => ?_) <;> first | (exfalso; omega) | (conv => whnf)) | (refine bEq (fun hh => ?_) (fun hh => ?_) <;> first | (exfalso; omega) | (conv => whnf)) | (refine bNe (fun hh => ?_) (fun hh => ?_) <;> first | (exfalso; omega) | (conv => whnf)) | (refine wIn (by omega) ?_; conv => whnf) | (refine nI (by omega) ?_; conv => whnf)))
            refine ⟨j + 1, ?_, by omega, by omega⟩
            rw [Mf_s, ← fiv_set d k w hw (Mf d k w j) (min (Mf d k w j) (dpF d.slope d.opn.C (k - 1) (loV d.slope w + (j : Nat)) + w)), show loV d.slope w + ((j + 1 : Nat) : Int) = loV d.slope w + (j : Int) + 1 from by omega]
            exact (meets_id (by (repeat' apply And.intro) <;> first | rfl | exact True.intro | (intro hh; cases hh)))
          · have hjl : j = lenV d.slope w := by omega
            subst hjl
            (conv => whnf); (repeat' (first | (refine bT ?_; conv => whnf) | (refine bF ?_; conv => whnf) | (refine bN ?_) | (refine bD (fun hh => ?_) (fun hh => ?_) <;> first | (exfalso; omega) | (conv => whnf)) | (refine bEq (fun hh => ?_) (fun hh => ?_) <;> first | (exfalso; omega) | (conv => whnf)) | (refine bNe (fun hh => ?_) (fun hh => ?_) <;> first | (exfalso; omega) | (conv => whnf)) | (refine wIn (by omega) ?_; conv => whnf) | (refine nI (by omega) ?_; conv => whnf)))
            · exfalso
              rename_i hh
              rw [if_neg (by decide)] at hh
              omega
            · refine ⟨w + 1, ?_, by omega, by omega⟩
              rw [← hff]
              exact (meets_id (by (repeat' apply And.intro) <;> first | rfl | exact True.intro | (intro hh; cases hh)))
      · have hwe : w = 2001 := by omega
        subst hwe
        have hft : rngA (fil d k 2001) 2001 = tbl d (k + 1) := by
          show _ = rngA (fun (w : Nat) => dpF d.slope d.opn.C k w) 2001
          unfold rngA
          refine List.map_congr_left fun i hi => ?_
          unfold fil
          rw [if_pos (List.mem_range.1 hi)]
        (conv => whnf); (repeat' (first | (refine bT ?_; conv => whnf) | (refine bF ?_; conv => whnf) | (refine bN ?_) | (refine bD (fun hh => ?_) (fun hh => ?_) <;> first | (exfalso; omega) | (conv => whnf)) | (refine bEq (fun hh => ?_) (fun hh => ?_) <;> first | (exfalso; omega) | (conv => whnf)) | (refine bNe (fun hh => ?_) (fun hh => ?_) <;> first | (exfalso; omega) | (conv => whnf)) | (refine wIn (by omega) ?_; conv => whnf) | (refine nI (by omega) ?_; conv => whnf)))
        refine ⟨k + 1, ?_, ⟨by omega, cs ++ [c], by rw [hn, hc]; rfl⟩, by omega⟩
        rw [← hft]
        exact (meets_as [(4, some 3)] (by (repeat' apply And.intro) <;> first | rfl | exact True.intro | (intro hh; cases hh)))
  · have hkl : k = d.rs.length := by omega
    subst hkl
    have hf := k42_fin d hok hh hcs
    have hne : d.rs.length ≠ 0 := by omega
    have hm0 : mnF (dpF d.slope d.opn.C (d.rs.length - 1)) 0 0 = 1073741824 := by simp only [mnF]; rfl
    have htl : (tbl d d.rs.length).length = 2001 := by rw [tbl_pos d hne, rng_len]
    (conv => whnf); (repeat' (first | (refine bT ?_; conv => whnf) | (refine bF ?_; conv => whnf) | (refine bN ?_) | (refine bD (fun hh => ?_) (fun hh => ?_) <;> first | (exfalso; omega) | (conv => whnf)) | (refine bEq (fun hh => ?_) (fun hh => ?_) <;> first | (exfalso; omega) | (conv => whnf)) | (refine bNe (fun hh => ?_) (fun hh => ?_) <;> first | (exfalso; omega) | (conv => whnf)) | (refine wIn (by omega) ?_; conv => whnf) | (refine nI (by omega) ?_; conv => whnf)))
    refine loop_i (α := Nat) (fun j => [(14, .int .i64 j), (13, .int .i64 (mnF (dpF d.slope d.opn.C (d.rs.length - 1)) 0 j)), (6, .row 4), (5, .int .i64 0), (3, .int .i64 0), (2, .int .i64 0), (1, .own 0 0)]) (fun j => [.box false d.cells, .fresh, .fresh, .fresh, .row false 3 1 (tbl d d.rs.length)]) (fun j => j ≤ 2001) (fun j => 2001 - j) 0 (by rw [hm0]; exact (meets_id (by (repeat' apply And.intro) <;> first | rfl | exact True.intro | (intro hh; cases hh)))) (by omega) ?_
    intro j hj0
    conv => whnf
    refine bD (fun h5 => ?_) (fun h5 => ?_)
    · have hj : j < 2001 := by omega
      have hg2 : (tbl d d.rs.length).getD (j : Int).toNat [] = [.int .i64 (dpF d.slope d.opn.C (d.rs.length - 1) j)] := by
        rw [tbl_pos d hne, Int.toNat_natCast, rng_get _ hj]
      have hmS : mnF (dpF d.slope d.opn.C (d.rs.length - 1)) 0 (j + 1) = min (mnF (dpF d.slope d.opn.C (d.rs.length - 1)) 0 j) (dpF d.slope d.opn.C (d.rs.length - 1) j) := by
        simp only [mnF]; rw [Int.zero_add]
      (conv => whnf); (repeat' (first | (refine bT ?_; conv => whnf) | (refine bF ?_; conv => whnf) | (refine bN ?_) | (refine bD (fun hh => ?_) (fun hh => ?_) <;> first | (exfalso; omega) | (conv => whnf)) | (refine bEq (fun hh => ?_) (fun hh => ?_) <;> first | (exfalso; omega) | (conv => whnf)) | (refine bNe (fun hh => ?_) (fun hh => ?_) <;> first | (exfalso; omega) | (conv => whnf)) | (refine wIn (by omega) ?_; conv => whnf) | (refine nI (by omega) ?_; conv => whnf)))
      refine iaI (by omega) (by rw [htl]; omega) hg2 ?_
      (conv => whnf); (repeat' (first | (refine bT ?_; conv => whnf) | (refine bF ?_; conv => whnf) | (refine bN ?_) | (refine bD (fun hh => ?_) (fun hh => ?_) <;> first | (exfalso; omega) | (conv => whnf)) | (refine bEq (fun hh => ?_) (fun hh => ?_) <;> first | (exfalso; omega) | (conv => whnf)) | (refine bNe (fun hh => ?_) (fun hh => ?_) <;> first | (exfalso; omega) | (conv => whnf)) | (refine wIn (by omega) ?_; conv => whnf) | (refine nI (by omega) ?_; conv => whnf)))
      refine ⟨j + 1, ?_, by omega, by omega⟩
      rw [hmS]
      exact (meets_id (by (repeat' apply And.intro) <;> first | rfl | exact True.intro | (intro hh; cases hh)))
    · have hje : j = 2001 := by omega
      subst hje
      rcases hf with ⟨f1, f2⟩ | ⟨f1, f2⟩
      · rw [f2]
        (conv => whnf); (repeat' (first | (refine bT ?_; conv => whnf) | (refine bF ?_; conv => whnf) | (refine bN ?_) | (refine bD (fun hh => ?_) (fun hh => ?_) <;> first | (exfalso; omega) | (conv => whnf)) | (refine bEq (fun hh => ?_) (fun hh => ?_) <;> first | (exfalso; omega) | (conv => whnf)) | (refine bNe (fun hh => ?_) (fun hh => ?_) <;> first | (exfalso; omega) | (conv => whnf)) | (refine wIn (by omega) ?_; conv => whnf) | (refine nI (by omega) ?_; conv => whnf)))
        all_goals rfl
      · rw [f2]
        (conv => whnf); (repeat' (first | (refine bT ?_; conv => whnf) | (refine bF ?_; conv => whnf) | (refine bN ?_) | (refine bD (fun hh => ?_) (fun hh => ?_) <;> first | (exfalso; omega) | (conv => whnf)) | (refine bEq (fun hh => ?_) (fun hh => ?_) <;> first | (exfalso; omega) | (conv => whnf)) | (refine bNe (fun hh => ?_) (fun hh => ?_) <;> first | (exfalso; omega) | (conv => whnf)) | (refine wIn (by omega) ?_; conv => whnf) | (refine nI (by omega) ?_; conv => whnf)))
        all_goals rfl

/-- what row k asks of a curve -/
def Dome.rowOk (d : Dome) (l : List Int) (k : Nat) : Prop := (2 * d.loss ≤ l.getD k 0 ∧ l.getD k 0 ≤ 2000) ∧ d.cnt (d.rs.getD k (0, 0)) (l.getD k 0) d.T = d.T.length ∧ (0 < k → 0 - d.slope ≤ l.getD k 0 - l.getD (k - 1) 0 ∧ l.getD k 0 - l.getD (k - 1) 0 ≤ d.slope)
def Dome.isC (d : Dome) (l : List Int) : Prop := l.length = d.rs.length ∧ ∀ k, k < l.length → d.rowOk l k
theorem k31 (d : Dome) (l : List Int) (hok : d.ok) : FnA Try.prog 31 [.agg d.cells, .isl (l.map iAV)] (fun r => ∃ b : Bool, r = .bool b ∧ (b = true ↔ d.isC l)) := by
  have l1 : (l.map iAV).length = l.length := by simp
  have l3 : (d.rs.map pairAV).length = d.rs.length := by simp
  have hrl := hok.1.2.2.2.2.1
  have hsl := hok.1.2.2.2.2.2.2.2.2
  have hll := hok.1.2.2.2.1
  have hTl := T_len hok
  have e3 : FnA Try.prog 57 [.agg d.cells, .isl []] (· = .isl (d.T.map rowAV)) := k57 d hok d.bs.length [] (by simp)
  refine fnA 2 ok31 (by simp) ?_
  by_cases hlen : l.length = d.rs.length
  case neg =>
    (conv => whnf); (repeat' (first | (refine bT ?_; conv => whnf) | (refine bF ?_; conv => whnf) | (refine bN ?_) | (refine bD (fun hh => ?_) (fun hh => ?_) <;> first | (exfalso; omega) | (conv => whnf)) | (refine bEq (fun hh => ?_) (fun hh => ?_) <;> first | (exfalso; omega) | (conv => whnf)) | (refine bNe (fun hh => ?_) (fun hh => ?_) <;> first | (exfalso; omega) | (conv => whnf)) | (refine wIn (by omega) ?_; conv => whnf) | (refine nI (by omega) ?_; conv => whnf)))
    exact ⟨false, rfl, by simp; exact fun h => hlen h.1⟩
  (conv => whnf); (repeat' (first | (refine bT ?_; conv => whnf) | (refine bF ?_; conv => whnf) | (refine bN ?_) | (refine bD (fun hh => ?_) (fun hh => ?_) <;> first | (exfalso; omega) | (conv => whnf)) | (refine bEq (fun hh => ?_) (fun hh => ?_) <;> first | (exfalso; omega) | (conv => whnf)) | (refine bNe (fun hh => ?_) (fun hh => ?_) <;> first | (exfalso; omega) | (conv => whnf)) | (refine (e3).callzq rfl rfl (fun r (hr : r = _) => ?_); subst hr; conv => whnf) | (refine wIn (by omega) ?_; conv => whnf) | (refine nI (by omega) ?_; conv => whnf)))
  refine loop_i (α := Nat) (fun k => [(6, .int .i64 k), (5, .isl (d.T.map rowAV)), (4, .bool false), (2, .own 0 0), (1, .isl (l.map iAV))]) (fun k => [.box false d.cells, .fresh]) (fun k => k ≤ l.length ∧ ∀ j, j < k → d.rowOk l j) (fun k => l.length - k) 0 (meets_id (by (repeat' apply And.intro) <;> first | rfl | exact True.intro | (intro hh; cases hh))) ⟨by omega, fun j hj => by omega⟩ ?_
  rintro k ⟨hk0, hC⟩
  conv => whnf
  refine bD (fun h4 => ?_) (fun h4 => ?_)
  · have hk : k < l.length := by omega
    have hkr : k < d.rs.length := by omega
    have hgk : (l.map iAV).getD (k : Int).toNat [] = [.int .i64 (l.getD k 0)] := by
      rw [Int.toNat_natCast, getD_map iAV l k hk]; simp [iAV, List.getD_eq_getElem?_getD, hk]
    have hrk : d.rs.getD k (0, 0) = d.rs[k] := by simp [List.getD_eq_getElem?_getD, hkr]
    have e54 := k54 (l.getD k 0) (2 * d.loss) 2000
    have hno : ¬ d.rowOk l k → ¬ d.isC l := fun h h2 => h (h2.2 k hk)
    by_cases h1 : 2 * d.loss ≤ l.getD k 0 ∧ l.getD k 0 ≤ 2000
    case neg =>
      rw [decide_eq_false h1] at e54
      have hn := hno fun h => h1 h.1
      (conv => whnf); (repeat' (first | (refine bT ?_; conv => whnf) | (refine bF ?_; conv => whnf) | (refine bN ?_) | (refine bD (fun hh => ?_) (fun hh => ?_) <;> first | (exfalso; omega) | (conv => whnf)) | (refine bEq (fun hh => ?_) (fun hh => ?_) <;> first | (exfalso; omega) | (conv => whnf)) | (refine bNe (fun hh => ?_) (fun hh => ?_) <;> first | (exfalso; omega) | (conv => whnf)) | (refine wIn (by omega) ?_; conv => whnf) | (refine nI (by omega) ?_; conv => whnf)))
      refine iaI (by omega) (by omega) hgk ?_
      (conv => whnf); (repeat' (first | (refine bT ?_; conv => whnf) | (refine bF ?_; conv => whnf) | (refine bN ?_) | (refine bD (fun hh => ?_) (fun hh => ?_) <;> first | (exfalso; omega) | (conv => whnf)) | (refine bEq (fun hh => ?_) (fun hh => ?_) <;> first | (exfalso; omega) | (conv => whnf)) | (refine bNe (fun hh => ?_) (fun hh => ?_) <;> first | (exfalso; omega) | (conv => whnf)) | (refine (e54).callq rfl rfl (fun r (hr : r = _) => ?_); subst hr; conv => whnf) | (refine wIn (by omega) ?_; conv => whnf) | (refine nI (by omega) ?_; conv => whnf)))
      exact ⟨false, rfl, by simp [hn]⟩
    rw [decide_eq_true h1] at e54
    have e58 := k58 d d.T k (l.getD k 0) hok hkr (by omega) (by omega) fun t ht => fit_T hok ht
    have hcl : d.cnt d.rs[k] (l.getD k 0) d.T ≤ d.T.length := List.length_filter_le _ _
    have hTm : (d.T.map rowAV).length = d.T.length := by simp
    by_cases h2 : d.cnt d.rs[k] (l.getD k 0) d.T = d.T.length
    case neg =>
      have hn := hno fun h => h2 (by rw [← hrk]; exact h.2.1)
      (conv => whnf); (repeat' (first | (refine bT ?_; conv => whnf) | (refine bF ?_; conv => whnf) | (refine bN ?_) | (refine bD (fun hh => ?_) (fun hh => ?_) <;> first | (exfalso; omega) | (conv => whnf)) | (refine bEq (fun hh => ?_) (fun hh => ?_) <;> first | (exfalso; omega) | (conv => whnf)) | (refine bNe (fun hh => ?_) (fun hh => ?_) <;> first | (exfalso; omega) | (conv => whnf)) | (refine wIn (by omega) ?_; conv => whnf) | (refine nI (by omega) ?_; conv => whnf)))
      refine iaI (by omega) (by omega) hgk ?_
      (conv => whnf); (repeat' (first | (refine bT ?_; conv => whnf) | (refine bF ?_; conv => whnf) | (refine bN ?_) | (refine bD (fun hh => ?_) (fun hh => ?_) <;> first | (exfalso; omega) | (conv => whnf)) | (refine bEq (fun hh => ?_) (fun hh => ?_) <;> first | (exfalso; omega) | (conv => whnf)) | (refine bNe (fun hh => ?_) (fun hh => ?_) <;> first | (exfalso; omega) | (conv => whnf)) | (refine (e54).callq rfl rfl (fun r (hr : r = _) => ?_); subst hr; conv => whnf) | (refine wIn (by omega) ?_; conv => whnf) | (refine nI (by omega) ?_; conv => whnf)))
      refine iaI (by omega) (by omega) hgk ?_
      (conv => whnf); (repeat' (first | (refine bT ?_; conv => whnf) | (refine bF ?_; conv => whnf) | (refine bN ?_) | (refine bD (fun hh => ?_) (fun hh => ?_) <;> first | (exfalso; omega) | (conv => whnf)) | (refine bEq (fun hh => ?_) (fun hh => ?_) <;> first | (exfalso; omega) | (conv => whnf)) | (refine bNe (fun hh => ?_) (fun hh => ?_) <;> first | (exfalso; omega) | (conv => whnf)) | (refine (e58).callq rfl rfl (fun r (hr : r = _) => ?_); subst hr; conv => whnf) | (refine wIn (by omega) ?_; conv => whnf) | (refine nI (by omega) ?_; conv => whnf)))
      exact ⟨false, rfl, by simp [hn]⟩
    by_cases hk1 : k = 0
    · subst hk1
      have hyes : d.rowOk l 0 := ⟨h1, by rw [hrk]; exact h2, fun h => by omega⟩
      (conv => whnf); (repeat' (first | (refine bT ?_; conv => whnf) | (refine bF ?_; conv => whnf) | (refine bN ?_) | (refine bD (fun hh => ?_) (fun hh => ?_) <;> first | (exfalso; omega) | (conv => whnf)) | (refine bEq (fun hh => ?_) (fun hh => ?_) <;> first | (exfalso; omega) | (conv => whnf)) | (refine bNe (fun hh => ?_) (fun hh => ?_) <;> first | (exfalso; omega) | (conv => whnf)) | (refine wIn (by omega) ?_; conv => whnf) | (refine nI (by omega) ?_; conv => whnf)))
      refine iaI (by omega) (by omega) hgk ?_
      (conv => whnf); (repeat' (first | (refine bT ?_; conv => whnf) | (refine bF ?_; conv => whnf) | (refine bN ?_) | (refine bD (fun hh => ?_) (fun hh => ?_) <;> first | (exfalso; omega) | (conv => whnf)) | (refine bEq (fun hh => ?_) (fun hh => ?_) <;> first | (exfalso; omega) | (conv => whnf)) | (refine bNe (fun hh => ?_) (fun hh => ?_) <;> first | (exfalso; omega) | (conv => whnf)) | (refine (e54).callq rfl rfl (fun r (hr : r = _) => ?_); subst hr; conv => whnf) | (refine wIn (by omega) ?_; conv => whnf) | (refine nI (by omega) ?_; conv => whnf)))
      refine iaI (by omega) (by omega) hgk ?_
      (conv => whnf); (repeat' (first | (refine bT ?_; conv => whnf) | (refine bF ?_; conv => whnf) | (refine bN ?_) | (refine bD (fun hh => ?_) (fun hh => ?_) <;> first | (exfalso; omega) | (conv => whnf)) | (refine bEq (fun hh => ?_) (fun hh => ?_) <;> first | (exfalso; omega) | (conv => whnf)) | (refine bNe (fun hh => ?_) (fun hh => ?_) <;> first | (exfalso; omega) | (conv => whnf)) | (refine (e58).callq rfl rfl (fun r (hr : r = _) => ?_); subst hr; conv => whnf) | (refine wIn (by omega) ?_; conv => whnf) | (refine nI (by omega) ?_; conv => whnf)))
      exact ⟨1, (meets_id (by (repeat' apply And.intro) <;> first | rfl | exact True.intro | (intro hh; cases hh))), ⟨by omega, fun j hj => (show j = 0 by omega) ▸ hyes⟩, by omega⟩
    · have hgy : (l.map iAV).getD ((k : Int) - 1).toNat [] = [.int .i64 (l.getD (k - 1) 0)] := by
        rw [show ((k : Int) - 1).toNat = k - 1 from by omega, getD_map iAV l (k - 1) (by omega)]; simp [iAV, List.getD_eq_getElem?_getD, show k - 1 < l.length from by omega]
      have hy := (hC (k - 1) (by omega)).1
      have e54b := k54 (l.getD k 0 - l.getD (k - 1) 0) (0 - d.slope) d.slope
      by_cases h3 : 0 - d.slope ≤ l.getD k 0 - l.getD (k - 1) 0 ∧ l.getD k 0 - l.getD (k - 1) 0 ≤ d.slope
      · have hyes : d.rowOk l k := ⟨h1, by rw [hrk]; exact h2, fun _ => h3⟩
        rw [decide_eq_true h3] at e54b
        (conv => whnf); (repeat' (first | (refine bT ?_; conv => whnf) | (refine bF ?_; conv => whnf) | (refine bN ?_) | (refine bD (fun hh => ?_) (fun hh => ?_) <;> first | (exfalso; omega) | (conv => whnf)) | (refine bEq (fun hh => ?_) (fun hh => ?_) <;> first | (exfalso; omega) | (conv => whnf)) | (refine bNe (fun hh => ?_) (fun hh => ?_) <;> first | (exfalso; omega) | (conv => whnf)) | (refine wIn (by omega) ?_; conv => whnf) | (refine nI (by omega) ?_; conv => whnf)))
        refine iaI (by omega) (by omega) hgk ?_
        (conv => whnf); (repeat' (first | (refine bT ?_; conv => whnf) | (refine bF ?_; conv => whnf) | (refine bN ?_) | (refine bD (fun hh => ?_) (fun hh => ?_) <;> first | (exfalso; omega) | (conv => whnf)) | (refine bEq (fun hh => ?_) (fun hh => ?_) <;> first | (exfalso; omega) | (conv => whnf)) | (refine bNe (fun hh => ?_) (fun hh => ?_) <;> first | (exfalso; omega) | (conv => whnf)) | (refine (e54).callq rfl rfl (fun r (hr : r = _) => ?_); subst hr; conv => whnf) | (refine wIn (by omega) ?_; conv => whnf) | (refine nI (by omega) ?_; conv => whnf)))
        refine iaI (by omega) (by omega) hgk ?_
        (conv => whnf); (repeat' (first | (refine bT ?_; conv => whnf) | (refine bF ?_; conv => whnf) | (refine bN ?_) | (refine bD (fun hh => ?_) (fun hh => ?_) <;> first | (exfalso; omega) | (conv => whnf)) | (refine bEq (fun hh => ?_) (fun hh => ?_) <;> first | (exfalso; omega) | (conv => whnf)) | (refine bNe (fun hh => ?_) (fun hh => ?_) <;> first | (exfalso; omega) | (conv => whnf)) | (refine (e58).callq rfl rfl (fun r (hr : r = _) => ?_); subst hr; conv => whnf) | (refine wIn (by omega) ?_; conv => whnf) | (refine nI (by omega) ?_; conv => whnf)))
        refine iaI (by omega) (by omega) hgk ?_
        (conv => whnf); (repeat' (first | (refine bT ?_; conv => whnf) | (refine bF ?_; conv => whnf) | (refine bN ?_) | (refine bD (fun hh => ?_) (fun hh => ?_) <;> first | (exfalso; omega) | (conv => whnf)) | (refine bEq (fun hh => ?_) (fun hh => ?_) <;> first | (exfalso; omega) | (conv => whnf)) | (refine bNe (fun hh => ?_) (fun hh => ?_) <;> first | (exfalso; omega) | (conv => whnf)) | (refine wIn (by omega) ?_; conv => whnf) | (refine nI (by omega) ?_; conv => whnf)))
        refine iaI (by omega) (by omega) hgy ?_
        (conv => whnf); (repeat' (first | (refine bT ?_; conv => whnf) | (refine bF ?_; conv => whnf) | (refine bN ?_) | (refine bD (fun hh => ?_) (fun hh => ?_) <;> first | (exfalso; omega) | (conv => whnf)) | (refine bEq (fun hh => ?_) (fun hh => ?_) <;> first | (exfalso; omega) | (conv => whnf)) | (refine bNe (fun hh => ?_) (fun hh => ?_) <;> first | (exfalso; omega) | (conv => whnf)) | (refine (e54b).callq rfl rfl (fun r (hr : r = _) => ?_); subst hr; conv => whnf) | (refine wIn (by omega) ?_; conv => whnf) | (refine nI (by omega) ?_; conv => whnf)))
        exact ⟨k + 1, (meets_id (by (repeat' apply And.intro) <;> first | rfl | exact True.intro | (intro hh; cases hh))), ⟨by omega, fun j hj => (Nat.lt_succ_iff_lt_or_eq.1 hj).elim (hC j) fun e => e ▸ hyes⟩, by omega⟩
      · have hn := hno fun h => h3 (h.2.2 (by omega))
        rw [decide_eq_false h3] at e54b
        (conv => whnf); (repeat' (first | (refine bT ?_; conv => whnf) | (refine bF ?_; conv => whnf) | (refine bN ?_) | (refine bD (fun hh => ?_) (fun hh => ?_) <;> first | (exfalso; omega) | (conv => whnf)) | (refine bEq (fun hh => ?_) (fun hh => ?_) <;> first | (exfalso; omega) | (conv => whnf)) | (refine bNe (fun hh => ?_) (fun hh => ?_) <;> first | (exfalso; omega) | (conv => whnf)) | (refine wIn (by omega) ?_; conv => whnf) | (refine nI (by omega) ?_; conv => whnf)))
        refine iaI (by omega) (by omega) hgk ?_
        (conv => whnf); (repeat' (first | (refine bT ?_; conv => whnf) | (refine bF ?_; conv => whnf) | (refine bN ?_) | (refine bD (fun hh => ?_) (fun hh => ?_) <;> first | (exfalso; omega) | (conv => whnf)) | (refine bEq (fun hh => ?_) (fun hh => ?_) <;> first | (exfalso; omega) | (conv => whnf)) | (refine bNe (fun hh => ?_) (fun hh => ?_) <;> first | (exfalso; omega) | (conv => whnf)) | (refine (e54).callq rfl rfl (fun r (hr : r = _) => ?_); subst hr; conv => whnf) | (refine wIn (by omega) ?_; conv => whnf) | (refine nI (by omega) ?_; conv => whnf)))
        refine iaI (by omega) (by omega) hgk ?_
        (conv => whnf); (repeat' (first | (refine bT ?_; conv => whnf) | (refine bF ?_; conv => whnf) | (refine bN ?_) | (refine bD (fun hh => ?_) (fun hh => ?_) <;> first | (exfalso; omega) | (conv => whnf)) | (refine bEq (fun hh => ?_) (fun hh => ?_) <;> first | (exfalso; omega) | (conv => whnf)) | (refine bNe (fun hh => ?_) (fun hh => ?_) <;> first | (exfalso; omega) | (conv => whnf)) | (refine (e58).callq rfl rfl (fun r (hr : r = _) => ?_); subst hr; conv => whnf) | (refine wIn (by omega) ?_; conv => whnf) | (refine nI (by omega) ?_; conv => whnf)))
        refine iaI (by omega) (by omega) hgk ?_
        (conv => whnf); (repeat' (first | (refine bT ?_; conv => whnf) | (refine bF ?_; conv => whnf) | (refine bN ?_) | (refine bD (fun hh => ?_) (fun hh => ?_) <;> first | (exfalso; omega) | (conv => whnf)) | (refine bEq (fun hh => ?_) (fun hh => ?_) <;> first | (exfalso; omega) | (conv => whnf)) | (refine bNe (fun hh => ?_) (fun hh => ?_) <;> first | (exfalso; omega) | (conv => whnf)) | (refine wIn (by omega) ?_; conv => whnf) | (refine nI (by omega) ?_; conv => whnf)))
        refine iaI (by omega) (by omega) hgy ?_
        (conv => whnf); (repeat' (first | (refine bT ?_; conv => whnf) | (refine bF ?_; conv => whnf) | (refine bN ?_) | (refine bD (fun hh => ?_) (fun hh => ?_) <;> first | (exfalso; omega) | (conv => whnf)) | (refine bEq (fun hh => ?_) (fun hh => ?_) <;> first | (exfalso; omega) | (conv => whnf)) | (refine bNe (fun hh => ?_) (fun hh => ?_) <;> first | (exfalso; omega) | (conv => whnf)) | (refine (e54b).callq rfl rfl (fun r (hr : r = _) => ?_); subst hr; conv => whnf) | (refine wIn (by omega) ?_; conv => whnf) | (refine nI (by omega) ?_; conv => whnf)))
        exact ⟨false, rfl, by simp [hn]⟩
  · have : k = l.length := by omega
    subst this
    (conv => whnf); (repeat' (first | (refine bT ?_; conv => whnf) | (refine bF ?_; conv => whnf) | (refine bN ?_) | (refine bD (fun hh => ?_) (fun hh => ?_) <;> first | (exfalso; omega) | (conv => whnf)) | (refine bEq (fun hh => ?_) (fun hh => ?_) <;> first | (exfalso; omega) | (conv => whnf)) | (refine bNe (fun hh => ?_) (fun hh => ?_) <;> first | (exfalso; omega) | (conv => whnf)) | (refine wIn (by omega) ?_; conv => whnf) | (refine nI (by omega) ?_; conv => whnf)))
    exact ⟨true, rfl, by simp; exact ⟨hlen, hC⟩⟩

theorem eD_cases (d : Dome) : (d.eD = 0) ∨ d.eD ≠ 0 := by omega
theorem k13 (d : Dome) (i : Int) : FnA Try.prog 13 [.agg d.cells, .int .i64 i] (· = .bool true) := by
  refine fnA 8 ok13 (by simp) ?_
  conv => whnf
  refine (k33 d).callq rfl rfl (fun r hr => ?_); obtain ⟨b, rfl, hb⟩ := hr
  cases b with
  | true =>
    (conv => whnf); (repeat' (first | (refine bT ?_; conv => whnf) | (refine bF ?_; conv => whnf) | (refine bN ?_) | (refine bD (fun hh => ?_) (fun hh => ?_) <;> first | (exfalso; omega) | (conv => whnf)) | (refine bEq (fun hh => ?_) (fun hh => ?_) <;> first | (exfalso; omega) | (conv => whnf)) | (refine bNe (fun hh => ?_) (fun hh => ?_) <;> first | (exfalso; omega) | (conv => whnf)) | (refine (k17).callq rfl rfl (fun r (hr : r = _) => ?_); subst hr; conv => whnf) | (refine wIn (by omega) ?_; conv => whnf) | (refine nI (by omega) ?_; conv => whnf)))
    all_goals rfl
  | false =>
    have hs := hb rfl
    by_cases hB : d.eR i = 0
    · obtain ⟨hok, hh, h0, h1⟩ := eR_ok hB
      obtain ⟨k, rfl⟩ := Int.eq_ofNat_of_zero_le h0
      have hk : k < d.rs.length := by omega
      have hD : d.eD = 0 := by unfold Dome.eD; rw [if_pos hok, hh]; rfl
      have e26 := k26 d k hB hk
      have e41 := k41 d k hB hk
      have e30 := k30 d hD
      have e42 := k42 d hD
      cases hc : d.opn.cut d.rs[k] with
      | none =>
        rw [hc] at e26 e41
        have e26' : FnA Try.prog 26 [.agg d.cells, .int .i64 k] (· = .tup [.agg [.int .i64 0, .int .i64 0], .int .i64 3]) := e26
        have e41' : FnA Try.prog 41 [.agg d.cells, .int .i64 k] (· = .tup [.agg [.int .i64 0, .int .i64 0], .int .i64 3]) := e41
        cases hv : d.opn.curve with
        | none =>
          rw [hv] at e30 e42
          have e30' : FnA Try.prog 30 [.agg d.cells] (· = .tup [.int .i64 0, .int .i64 3]) := e30
          have e42' : FnA Try.prog 42 [.agg d.cells] (· = .tup [.int .i64 0, .int .i64 3]) := e42
          (conv => whnf); (repeat' (first | (refine bT ?_; conv => whnf) | (refine bF ?_; conv => whnf) | (refine bN ?_) | (refine bD (fun hh => ?_) (fun hh => ?_) <;> first | (exfalso; omega) | (conv => whnf)) | (refine bEq (fun hh => ?_) (fun hh => ?_) <;> first | (exfalso; omega) | (conv => whnf)) | (refine bNe (fun hh => ?_) (fun hh => ?_) <;> first | (exfalso; omega) | (conv => whnf)) | (refine (k27 d hs).callzq rfl rfl (fun r (hr : r = _) => ?_); subst hr; conv => whnf) | (refine (e26').callq rfl rfl (fun r (hr : r = _) => ?_); subst hr; conv => whnf) | (refine (e41').callq rfl rfl (fun r (hr : r = _) => ?_); subst hr; conv => whnf) | (refine (e30').callq rfl rfl (fun r (hr : r = _) => ?_); subst hr; conv => whnf) | (refine (e42').callq rfl rfl (fun r (hr : r = _) => ?_); subst hr; conv => whnf) | (refine bKT ?_ ?_; (focus (simp; done)); conv => whnf) | (refine (k37 d hs).callq rfl rfl (fun r (hr : r = _) => ?_); subst hr; conv => whnf) | (refine (k17).callq rfl rfl (fun r (hr : r = _) => ?_); subst hr; conv => whnf) | (refine wIn (by omega) ?_; conv => whnf) | (refine nI (by omega) ?_; conv => whnf)))
          all_goals rfl
        | some l =>
          rw [hv] at e30 e42
          have e30' : FnA Try.prog 30 [.agg d.cells] (· = .tup [.int .i64 l.sum, .int .i64 0]) := e30
          have e42' : FnA Try.prog 42 [.agg d.cells] (· = .tup [.int .i64 l.sum, .int .i64 0]) := e42
          (conv => whnf); (repeat' (first | (refine bT ?_; conv => whnf) | (refine bF ?_; conv => whnf) | (refine bN ?_) | (refine bD (fun hh => ?_) (fun hh => ?_) <;> first | (exfalso; omega) | (conv => whnf)) | (refine bEq (fun hh => ?_) (fun hh => ?_) <;> first | (exfalso; omega) | (conv => whnf)) | (refine bNe (fun hh => ?_) (fun hh => ?_) <;> first | (exfalso; omega) | (conv => whnf)) | (refine (k27 d hs).callzq rfl rfl (fun r (hr : r = _) => ?_); subst hr; conv => whnf) | (refine (e26').callq rfl rfl (fun r (hr : r = _) => ?_); subst hr; conv => whnf) | (refine (e41').callq rfl rfl (fun r (hr : r = _) => ?_); subst hr; conv => whnf) | (refine (e30').callq rfl rfl (fun r (hr : r = _) => ?_); subst hr; conv => whnf) | (refine (e42').callq rfl rfl (fun r (hr : r = _) => ?_); subst hr; conv => whnf) | (refine bKT ?_ ?_; (focus (simp; done)); conv => whnf) | (refine (k37 d hs).callq rfl rfl (fun r (hr : r = _) => ?_); subst hr; conv => whnf) | (refine (k17).callq rfl rfl (fun r (hr : r = _) => ?_); subst hr; conv => whnf) | (refine wIn (by omega) ?_; conv => whnf) | (refine nI (by omega) ?_; conv => whnf)))
          all_goals rfl
      | some c =>
        rw [hc] at e26 e41
        have e26' : FnA Try.prog 26 [.agg d.cells, .int .i64 k] (· = .tup [.agg [.int .i64 c.1, .int .i64 c.2], .int .i64 0]) := e26
        have e41' : FnA Try.prog 41 [.agg d.cells, .int .i64 k] (· = .tup [.agg [.int .i64 c.1, .int .i64 c.2], .int .i64 0]) := e41
        cases hv : d.opn.curve with
        | none =>
          rw [hv] at e30 e42
          have e30' : FnA Try.prog 30 [.agg d.cells] (· = .tup [.int .i64 0, .int .i64 3]) := e30
          have e42' : FnA Try.prog 42 [.agg d.cells] (· = .tup [.int .i64 0, .int .i64 3]) := e42
          (conv => whnf); (repeat' (first | (refine bT ?_; conv => whnf) | (refine bF ?_; conv => whnf) | (refine bN ?_) | (refine bD (fun hh => ?_) (fun hh => ?_) <;> first | (exfalso; omega) | (conv => whnf)) | (refine bEq (fun hh => ?_) (fun hh => ?_) <;> first | (exfalso; omega) | (conv => whnf)) | (refine bNe (fun hh => ?_) (fun hh => ?_) <;> first | (exfalso; omega) | (conv => whnf)) | (refine (k27 d hs).callzq rfl rfl (fun r (hr : r = _) => ?_); subst hr; conv => whnf) | (refine (e26').callq rfl rfl (fun r (hr : r = _) => ?_); subst hr; conv => whnf) | (refine (e41').callq rfl rfl (fun r (hr : r = _) => ?_); subst hr; conv => whnf) | (refine (e30').callq rfl rfl (fun r (hr : r = _) => ?_); subst hr; conv => whnf) | (refine (e42').callq rfl rfl (fun r (hr : r = _) => ?_); subst hr; conv => whnf) | (refine bKT ?_ ?_; (focus (simp; done)); conv => whnf) | (refine (k37 d hs).callq rfl rfl (fun r (hr : r = _) => ?_); subst hr; conv => whnf) | (refine (k17).callq rfl rfl (fun r (hr : r = _) => ?_); subst hr; conv => whnf) | (refine wIn (by omega) ?_; conv => whnf) | (refine nI (by omega) ?_; conv => whnf)))
          all_goals rfl
        | some l =>
          rw [hv] at e30 e42
          have e30' : FnA Try.prog 30 [.agg d.cells] (· = .tup [.int .i64 l.sum, .int .i64 0]) := e30
          have e42' : FnA Try.prog 42 [.agg d.cells] (· = .tup [.int .i64 l.sum, .int .i64 0]) := e42
          (conv => whnf); (repeat' (first | (refine bT ?_; conv => whnf) | (refine bF ?_; conv => whnf) | (refine bN ?_) | (refine bD (fun hh => ?_) (fun hh => ?_) <;> first | (exfalso; omega) | (conv => whnf)) | (refine bEq (fun hh => ?_) (fun hh => ?_) <;> first | (exfalso; omega) | (conv => whnf)) | (refine bNe (fun hh => ?_) (fun hh => ?_) <;> first | (exfalso; omega) | (conv => whnf)) | (refine (k27 d hs).callzq rfl rfl (fun r (hr : r = _) => ?_); subst hr; conv => whnf) | (refine (e26').callq rfl rfl (fun r (hr : r = _) => ?_); subst hr; conv => whnf) | (refine (e41').callq rfl rfl (fun r (hr : r = _) => ?_); subst hr; conv => whnf) | (refine (e30').callq rfl rfl (fun r (hr : r = _) => ?_); subst hr; conv => whnf) | (refine (e42').callq rfl rfl (fun r (hr : r = _) => ?_); subst hr; conv => whnf) | (refine bKT ?_ ?_; (focus (simp; done)); conv => whnf) | (refine (k37 d hs).callq rfl rfl (fun r (hr : r = _) => ?_); subst hr; conv => whnf) | (refine (k17).callq rfl rfl (fun r (hr : r = _) => ?_); subst hr; conv => whnf) | (refine wIn (by omega) ?_; conv => whnf) | (refine nI (by omega) ?_; conv => whnf)))
          all_goals rfl
    · by_cases hD : d.eD = 0
      · have e30 := k30 d hD
        have e42 := k42 d hD
        cases hv : d.opn.curve with
        | none =>
          rw [hv] at e30 e42
          have e30' : FnA Try.prog 30 [.agg d.cells] (· = .tup [.int .i64 0, .int .i64 3]) := e30
          have e42' : FnA Try.prog 42 [.agg d.cells] (· = .tup [.int .i64 0, .int .i64 3]) := e42
          (conv => whnf); (repeat' (first | (refine bT ?_; conv => whnf) | (refine bF ?_; conv => whnf) | (refine bN ?_) | (refine bD (fun hh => ?_) (fun hh => ?_) <;> first | (exfalso; omega) | (conv => whnf)) | (refine bEq (fun hh => ?_) (fun hh => ?_) <;> first | (exfalso; omega) | (conv => whnf)) | (refine bNe (fun hh => ?_) (fun hh => ?_) <;> first | (exfalso; omega) | (conv => whnf)) | (refine (k27 d hs).callzq rfl rfl (fun r (hr : r = _) => ?_); subst hr; conv => whnf) | (refine (k26_no d i hB).callq rfl rfl (fun r (hr : r = _) => ?_); subst hr; conv => whnf) | (refine (k41_no d i hB).callq rfl rfl (fun r (hr : r = _) => ?_); subst hr; conv => whnf) | (refine (e30').callq rfl rfl (fun r (hr : r = _) => ?_); subst hr; conv => whnf) | (refine (e42').callq rfl rfl (fun r (hr : r = _) => ?_); subst hr; conv => whnf) | (refine bKT ?_ ?_; (focus (simp; done)); conv => whnf) | (refine (k37 d hs).callq rfl rfl (fun r (hr : r = _) => ?_); subst hr; conv => whnf) | (refine (k17).callq rfl rfl (fun r (hr : r = _) => ?_); subst hr; conv => whnf) | (refine wIn (by omega) ?_; conv => whnf) | (refine nI (by omega) ?_; conv => whnf)))
          all_goals rfl
        | some l =>
          rw [hv] at e30 e42
          have e30' : FnA Try.prog 30 [.agg d.cells] (· = .tup [.int .i64 l.sum, .int .i64 0]) := e30
          have e42' : FnA Try.prog 42 [.agg d.cells] (· = .tup [.int .i64 l.sum, .int .i64 0]) := e42
          (conv => whnf); (repeat' (first | (refine bT ?_; conv => whnf) | (refine bF ?_; conv => whnf) | (refine bN ?_) | (refine bD (fun hh => ?_) (fun hh => ?_) <;> first | (exfalso; omega) | (conv => whnf)) | (refine bEq (fun hh => ?_) (fun hh => ?_) <;> first | (exfalso; omega) | (conv => whnf)) | (refine bNe (fun hh => ?_) (fun hh => ?_) <;> first | (exfalso; omega) | (conv => whnf)) | (refine (k27 d hs).callzq rfl rfl (fun r (hr : r = _) => ?_); subst hr; conv => whnf) | (refine (k26_no d i hB).callq rfl rfl (fun r (hr : r = _) => ?_); subst hr; conv => whnf) | (refine (k41_no d i hB).callq rfl rfl (fun r (hr : r = _) => ?_); subst hr; conv => whnf) | (refine (e30').callq rfl rfl (fun r (hr : r = _) => ?_); subst hr; conv => whnf) | (refine (e42').callq rfl rfl (fun r (hr : r = _) => ?_); subst hr; conv => whnf) | (refine bKT ?_ ?_; (focus (simp; done)); conv => whnf) | (refine (k37 d hs).callq rfl rfl (fun r (hr : r = _) => ?_); subst hr; conv => whnf) | (refine (k17).callq rfl rfl (fun r (hr : r = _) => ?_); subst hr; conv => whnf) | (refine wIn (by omega) ?_; conv => whnf) | (refine nI (by omega) ?_; conv => whnf)))
          all_goals rfl
      · (conv => whnf); (repeat' (first | (refine bT ?_; conv => whnf) | (refine bF ?_; conv => whnf) | (refine bN ?_) | (refine bD (fun hh => ?_) (fun hh => ?_) <;> first | (exfalso; omega) | (conv => whnf)) | (refine bEq (fun hh => ?_) (fun hh => ?_) <;> first | (exfalso; omega) | (conv => whnf)) | (refine bNe (fun hh => ?_) (fun hh => ?_) <;> first | (exfalso; omega) | (conv => whnf)) | (refine (k27 d hs).callzq rfl rfl (fun r (hr : r = _) => ?_); subst hr; conv => whnf) | (refine (k26_no d i hB).callq rfl rfl (fun r (hr : r = _) => ?_); subst hr; conv => whnf) | (refine (k41_no d i hB).callq rfl rfl (fun r (hr : r = _) => ?_); subst hr; conv => whnf) | (refine (k30_no d hD).callq rfl rfl (fun r (hr : r = _) => ?_); subst hr; conv => whnf) | (refine (k42_no d hD).callq rfl rfl (fun r (hr : r = _) => ?_); subst hr; conv => whnf) | (refine bKT ?_ ?_; (focus (simp; done)); conv => whnf) | (refine (k37 d hs).callq rfl rfl (fun r (hr : r = _) => ?_); subst hr; conv => whnf) | (refine (k17).callq rfl rfl (fun r (hr : r = _) => ?_); subst hr; conv => whnf) | (refine wIn (by omega) ?_; conv => whnf) | (refine nI (by omega) ?_; conv => whnf)))
        all_goals rfl
theorem curve_isC {d : Dome} (hok : d.ok) (hh : d.has = true) {l : List Int} (h : d.opn.curve = some l) : d.isC l := by
  have hsl := hok.1.2.2.2.2.2.2.2.2
  have hll := hok.1.2.2.2.1
  unfold Opn.curve at h
  split at h
  · cases h
  · rename_i cs hcs
    split at h
    · rename_i hin
      simp only [Option.some.injEq] at h
      subst h
      have hlen : cs.length = d.rs.length := cutsN_len hcs
      have hl2 : (curveL d.opn.d.slope cs).length = cs.length := by simp [curveL]
      have hg : ∀ k, k < cs.length → (curveL d.opn.d.slope cs).getD k 0 = curveF d.slope cs k := fun k hk => by
        simp [curveL, List.getD_eq_getElem?_getD, hk, Dome.opn]
      refine ⟨by omega, fun k hk => ?_⟩
      rw [hl2] at hk
      have hc := cutsN_get hcs k (show k < d.rs.length by omega)
      have hb := cut_in (opn_ok hok hh) hc
      have e0 : d.opn.d.loss = d.loss := rfl
      have hi := hin k hk
      have hi2 := inS_iff.1 hi
      have e1 : d.opn.d.slope = d.slope := rfl
      rw [e1] at hi2
      unfold Dome.rowOk
      rw [hg k hk]
      refine ⟨by omega, ?_, fun h0 => ?_⟩
      · have hs := (cut_iff (opn_ok hok hh) hc (w := curveF d.slope cs k) (by omega)).2 hi2
        exact cnt_all.2 ((sure_iff hok hh (by omega) _).1 hs)
      · rw [hg (k - 1) (by omega)]
        have := curve_step hsl.1 (cs := cs) (i := k - 1) (by omega)
        rw [show k - 1 + 1 = k from by omega] at this
        omega
    · cases h

/-- x is a curve of the dome -/
def Dome.V (d : Dome) (x : Nat → Int) : Prop := (∀ i, i < d.rs.length → (2 * d.loss ≤ x i ∧ x i ≤ 2000) ∧ d.opn.sure (d.rs.getD i (0, 0)) (x i) = true) ∧ ∀ i, i + 1 < d.rs.length → x (i + 1) - x i ≤ d.slope ∧ x i - x (i + 1) ≤ d.slope
theorem V_cuts {d : Dome} (hok : d.ok) (hh : d.has = true) {x : Nat → Int} (h : d.V x) : ∀ k, k ≤ d.rs.length → ∃ cs, d.opn.cutsN k = some cs
  | 0, _ => ⟨[], rfl⟩
  | k + 1, hk => by
    obtain ⟨cs, hcs⟩ := V_cuts hok hh h k (by omega)
    cases hc : d.opn.cut (d.rs.getD k (0, 0)) with
    | none =>
      have h1 := (h.1 k (by omega))
      have := cut_none (opn_ok hok hh) hc h1.1
      rw [h1.2] at this; cases this
    | some c =>
      refine ⟨cs ++ [c], ?_⟩
      simp only [Opn.cutsN, hcs]
      rw [show d.opn.d.rs.getD k (0, 0) = d.rs.getD k (0, 0) from rfl, hc]; rfl
theorem V_least {d : Dome} (hok : d.ok) (hh : d.has = true) {x : Nat → Int} (h : d.V x) : ∃ l, d.opn.curve = some l ∧ l.sum ≤ sumK x d.rs.length := by
  obtain ⟨cs, hcs⟩ := V_cuts hok hh h d.rs.length (by omega)
  have hlen := cutsN_len hcs
  have hg := cutsN_get hcs
  have hin : ∀ i, i < cs.length → inS (cs.getD i (0, 0)) (x i) = true := fun i hi => by
    have h1 := h.1 i (by omega)
    exact inS_iff.2 ((cut_iff (opn_ok hok hh) (hg i (by omega)) h1.1).1 h1.2)
  have hle : ∀ i, i < cs.length → curveF d.slope cs i ≤ x i := fun i hi => curveF_le (fun i hi => (inS_iff.1 (hin i hi)).1) (fun i hi => h.2 i (by omega)) hi
  have hc : ∀ i, i < cs.length → inS (cs.getD i (0, 0)) (curveF d.slope cs i) = true := fun i hi => by
    have h1 := inS_iff.1 (hin i hi)
    have h2 := hle i hi
    have h3 := lo_up (s := d.slope) (cs := cs) i
    have h4 := up_curve (s := d.slope) hi
    exact inS_iff.2 (by omega)
  refine ⟨curveL d.slope cs, ?_, ?_⟩
  · unfold Opn.curve Opn.cuts
    rw [show d.opn.d.rs.length = d.rs.length from rfl, hcs, show d.opn.d.slope = d.slope from rfl]
    exact if_pos hc
  · unfold curveL
    rw [sumK_list, hlen]
    exact sumK_le fun i hi => hle i (by omega)
theorem isC_V {d : Dome} (hok : d.ok) (hh : d.has = true) {l : List Int} (h : d.isC l) : d.V fun i => l.getD i 0 := by
  refine ⟨fun i hi => ?_, fun i hi => ?_⟩
  · have h1 := h.2 i (by rw [h.1]; exact hi)
    exact ⟨h1.1, (sure_iff hok hh h1.1.1 _).2 (cnt_all.1 h1.2.1)⟩
  · have h1 := (h.2 (i + 1) (by rw [h.1]; exact hi)).2.2 (by omega)
    simp only [Nat.add_sub_cancel] at h1
    simp only
    omega
theorem sumK_take (l : List Int) : ∀ {k : Nat}, k ≤ l.length → sumK (fun i => l.getD i 0) k = (l.take k).sum
  | 0, _ => by simp [sumK]
  | k + 1, hk => by
    have h := sumK_take l (k := k) (by omega)
    rw [sum_succ (show k < l.length by omega), ← h]
    simp [sumK, List.getD_eq_getElem?_getD, show k < l.length from by omega]
theorem sumK_get (l : List Int) : sumK (fun i => l.getD i 0) l.length = l.sum := by
  rw [sumK_take l (by omega), List.take_length]
theorem least_V {d : Dome} (hok : d.ok) (hh : d.has = true) {l : List Int} (h : d.opn.curve = some l) : ∃ x, d.V x ∧ sumK x d.rs.length = l.sum := by
  have hC := curve_isC hok hh h
  exact ⟨_, isC_V hok hh hC, by rw [← hC.1]; exact sumK_get l⟩
def Dome.wide (d : Dome) (g : Int) : Dome := { d with slope := d.slope + g }
def Dome.turn (d : Dome) : Dome := { d with rs := d.rs.reverse, ws := d.ws.reverse }
theorem V_wide {d : Dome} {x : Nat → Int} (h : d.V x) {g : Int} (hg : 0 ≤ g) : (d.wide g).V x := by
  refine ⟨h.1, fun i hi => ?_⟩
  have := h.2 i hi
  have e : (d.wide g).slope = d.slope + g := rfl
  omega
theorem rev_get {α : Type} (l : List α) (a : α) {i : Nat} (h : i < l.length) : l.reverse.getD i a = l.getD (l.length - 1 - i) a := by
  simp [List.getD_eq_getElem?_getD, List.getElem?_reverse h]
theorem V_turn {d : Dome} {x : Nat → Int} (h : d.V x) : d.turn.V fun i => x (d.rs.length - 1 - i) := by
  have hl : d.turn.rs.length = d.rs.length := by simp [Dome.turn]
  refine ⟨fun i hi => ?_, fun i hi => ?_⟩
  · rw [hl] at hi
    have h1 := h.1 (d.rs.length - 1 - i) (by omega)
    refine ⟨h1.1, ?_⟩
    show d.opn.sure (d.rs.reverse.getD i (0, 0)) _ = true
    rw [rev_get _ _ hi]; exact h1.2
  · rw [hl] at hi
    have h1 := h.2 (d.rs.length - 1 - (i + 1)) (by omega)
    rw [show d.rs.length - 1 - (i + 1) + 1 = d.rs.length - 1 - i from by omega] at h1
    have e : d.turn.slope = d.slope := rfl
    simp only
    omega
theorem turn_turn (d : Dome) : d.turn.turn = d := by simp [Dome.turn]
theorem sumK_shift (f : Nat → Int) : ∀ n, sumK f (n + 1) = f 0 + sumK (fun i => f (i + 1)) n
  | 0 => by simp [sumK]
  | n + 1 => by
    have := sumK_shift f n
    have e1 : sumK f (n + 1 + 1) = sumK f (n + 1) + f (n + 1) := rfl
    have e2 : sumK (fun i => f (i + 1)) (n + 1) = sumK (fun i => f (i + 1)) n + f (n + 1) := rfl
    omega
theorem sumK_rev (x : Nat → Int) : ∀ n, sumK (fun i => x (n - 1 - i)) n = sumK x n
  | 0 => rfl
  | n + 1 => by
    have h := sumK_rev x n
    rw [sumK_shift]
    have e : sumK (fun i => x (n + 1 - 1 - (i + 1))) n = sumK (fun i => x (n - 1 - i)) n := sumK_ext fun i hi => by
      rw [show n + 1 - 1 - (i + 1) = n - 1 - i from by omega]
    rw [e, h]
    have e2 : sumK x (n + 1) = sumK x n + x n := rfl
    simp only [Nat.add_sub_cancel, Nat.sub_zero]
    omega
theorem wide_ok {d : Dome} (hok : d.ok) {g : Int} (hg : 0 ≤ g ∧ g ≤ 500 - d.slope) : (d.wide g).ok := by
  obtain ⟨⟨h1, h2, h3, h4, h5, h6, h7, h8, h9⟩, hB⟩ := hok
  exact ⟨⟨h1, h2, h3, h4, h5, h6, h7, h8, show 0 ≤ d.slope + g ∧ d.slope + g ≤ 500 by omega⟩, hB⟩
theorem turn_ok {d : Dome} (hok : d.ok) : d.turn.ok := by
  obtain ⟨⟨h1, h2, h3, h4, h5, h6, h7, h8, h9⟩, hB⟩ := hok
  exact ⟨⟨h1, h2, h3, h4, by simpa [Dome.turn] using h5, fun s hs => h6 s (List.mem_reverse.1 hs), by simpa [Dome.turn] using h7, fun w hw => h8 w (List.mem_reverse.1 hw), h9⟩, hB⟩
theorem turn_some {d : Dome} (hok : d.ok) (hh : d.has = true) {l : List Int} (h : d.opn.curve = some l) : ∃ l', d.turn.opn.curve = some l' ∧ l'.sum = l.sum := by
  have hl : d.turn.rs.length = d.rs.length := by simp [Dome.turn]
  obtain ⟨x, hx, hs⟩ := least_V hok hh h
  obtain ⟨l', h1, h2⟩ := V_least (turn_ok hok) hh (V_turn hx)
  rw [hl, sumK_rev, hs] at h2
  obtain ⟨y, hy, hs2⟩ := least_V (turn_ok hok) hh h1
  have hy2 := V_turn hy
  rw [turn_turn] at hy2
  obtain ⟨l2, h3, h4⟩ := V_least hok hh hy2
  rw [h] at h3
  cases h3
  rw [hl, sumK_rev] at h4
  rw [hl] at hs2
  exact ⟨l', h1, by omega⟩
theorem turn_none {d : Dome} (hok : d.ok) (hh : d.has = true) (h : d.opn.curve = none) : d.turn.opn.curve = none := by
  cases h1 : d.turn.opn.curve with
  | none => rfl
  | some l' =>
    obtain ⟨y, hy, _⟩ := least_V (turn_ok hok) hh h1
    have hy2 := V_turn hy
    rw [turn_turn] at hy2
    obtain ⟨l2, h3, _⟩ := V_least hok hh hy2
    rw [h] at h3; cases h3
theorem wide_some {d : Dome} (hok : d.ok) (hh : d.has = true) {g : Int} (hg : 0 ≤ g ∧ g ≤ 500 - d.slope) {l : List Int} (h : d.opn.curve = some l) : ∃ l', (d.wide g).opn.curve = some l' ∧ l'.sum ≤ l.sum := by
  obtain ⟨x, hx, hs⟩ := least_V hok hh h
  obtain ⟨l', h1, h2⟩ := V_least (wide_ok hok hg) hh (V_wide hx hg.1)
  exact ⟨l', h1, by rw [← hs]; exact h2⟩
theorem isC_least {d : Dome} (hok : d.ok) (hh : d.has = true) {l : List Int} (h : d.isC l) : ∃ l', d.opn.curve = some l' ∧ l'.sum ≤ l.sum := by
  obtain ⟨l', h1, h2⟩ := V_least hok hh (isC_V hok hh h)
  rw [← h.1, sumK_get] at h2
  exact ⟨l', h1, h2⟩
theorem mix_set {α : Type} (f : α → List AV) (l : List α) {k : Nat} (hk : k < l.length) : ((l.reverse.take k ++ l.drop k).map f).set k (f (l[l.length - 1 - k]'(by omega))) = (l.reverse.take (k + 1) ++ l.drop (k + 1)).map f := by
  have hk2 : k < l.reverse.length := by simpa using hk
  rw [List.take_succ_eq_append_getElem hk2, List.drop_eq_getElem_cons hk, List.getElem_reverse]
  have e : (l.reverse.take k).length = k := by rw [List.length_take]; omega
  rw [List.map_append, List.set_append_right _ _ (by simp; omega)]
  simp only [List.map_cons, List.length_map, e, Nat.sub_self, List.set_cons_zero, List.map_append, List.append_assoc, List.map_nil, List.cons_append, List.nil_append]

theorem k30' (d : Dome) (h : d.eD = 0) : ∃ v cd : Int, FnA Try.prog 30 [.agg d.cells] (· = .tup [.int .i64 v, .int .i64 cd]) ∧ ((cd = 3 ∧ v = 0 ∧ d.opn.curve = none) ∨ ∃ l, cd = 0 ∧ v = l.sum ∧ d.opn.curve = some l) := by
  have e := k30 d h
  cases hv : d.opn.curve with
  | none => rw [hv] at e; exact ⟨0, 3, e, .inl ⟨rfl, rfl, rfl⟩⟩
  | some l => rw [hv] at e; exact ⟨l.sum, 0, e, .inr ⟨l, rfl, rfl, rfl⟩⟩
theorem best_facts (d : Dome) (hok : d.ok) (g : Int) (hg : 0 ≤ g ∧ g ≤ 500 - d.slope) : ∃ v cd vw cdw : Int, FnA Try.prog 30 [.agg d.cells] (· = .tup [.int .i64 v, .int .i64 cd]) ∧ FnA Try.prog 30 [.agg (d.wide g).cells] (· = .tup [.int .i64 vw, .int .i64 cdw]) ∧ FnA Try.prog 30 [.agg d.turn.cells] (· = .tup [.int .i64 v, .int .i64 cd]) ∧ (cd = 0 ∨ cd = 3) ∧ (cd = 3 ∨ cd = 0 ∧ cdw = 0 ∧ vw ≤ v) ∧ ∀ l, d.has = true → d.isC l → cd = 0 ∧ v ≤ l.sum := by
  have hD : ∀ d' : Dome, d'.ok → d'.has = d.has → d'.eD = if d.has = true then 0 else 3 := fun d' h1 h2 => by unfold Dome.eD; rw [if_pos h1, h2]
  by_cases hh : d.has = true
  · have h1 : d.eD = 0 := by rw [hD d hok rfl, if_pos hh]
    have h2 : (d.wide g).eD = 0 := by rw [hD _ (wide_ok hok hg) rfl, if_pos hh]
    have h3 : d.turn.eD = 0 := by rw [hD _ (turn_ok hok) rfl, if_pos hh]
    obtain ⟨v, cd, e1, f1⟩ := k30' d h1
    obtain ⟨vw, cdw, e2, f2⟩ := k30' (d.wide g) h2
    obtain ⟨vt, cdt, e3, f3⟩ := k30' d.turn h3
    have ht : vt = v ∧ cdt = cd := by
      rcases f1 with ⟨a1, a2, a3⟩ | ⟨l, a1, a2, a3⟩
      · have := turn_none hok hh a3
        rcases f3 with ⟨b1, b2, b3⟩ | ⟨l, b1, b2, b3⟩
        · omega
        · rw [this] at b3; cases b3
      · obtain ⟨l', c1, c2⟩ := turn_some hok hh a3
        rcases f3 with ⟨b1, b2, b3⟩ | ⟨l2, b1, b2, b3⟩
        · rw [c1] at b3; cases b3
        · rw [c1] at b3; cases b3; omega
    rw [ht.1, ht.2] at e3
    refine ⟨v, cd, vw, cdw, e1, e2, e3, ?_, ?_, ?_⟩
    · rcases f1 with ⟨a1, _, _⟩ | ⟨l, a1, _, _⟩
      · exact .inr a1
      · exact .inl a1
    · rcases f1 with ⟨a1, _, _⟩ | ⟨l, a1, a2, a3⟩
      · exact .inl a1
      · obtain ⟨l', c1, c2⟩ := wide_some hok hh hg a3
        rcases f2 with ⟨b1, b2, b3⟩ | ⟨l2, b1, b2, b3⟩
        · rw [c1] at b3; cases b3
        · rw [c1] at b3; cases b3; exact .inr ⟨a1, b1, by omega⟩
    · intro l _ hC
      obtain ⟨l', c1, c2⟩ := isC_least hok hh hC
      rcases f1 with ⟨a1, a2, a3⟩ | ⟨l2, a1, a2, a3⟩
      · rw [c1] at a3; cases a3
      · rw [c1] at a3; cases a3; omega
  · have h1 : d.eD = 3 := by rw [hD d hok rfl, if_neg hh]
    have h2 : (d.wide g).eD = 3 := by rw [hD _ (wide_ok hok hg) rfl, if_neg hh]
    have h3 : d.turn.eD = 3 := by rw [hD _ (turn_ok hok) rfl, if_neg hh]
    have e1 := k30_no d (by rw [h1]; decide)
    have e2 := k30_no (d.wide g) (by rw [h2]; decide)
    have e3 := k30_no d.turn (by rw [h3]; decide)
    rw [h1] at e1; rw [h2] at e2; rw [h3] at e3
    exact ⟨0, 3, 0, 3, e1, e2, e3, .inr rfl, .inl rfl, fun l h => absurd h hh⟩
theorem nums_facts (d : Dome) (hok : d.ok) : ∃ (ns : List Int) (c : Int), FnA Try.prog 18 [.agg d.cells, .int .i64 0] (· = .tup [.isl (ns.map iAV), .int .i64 c]) ∧ (c = 0 → d.has = true) := by
  have hbl := hok.1.1
  by_cases hh : d.has = true
  · have hB : d.eB (0 : Nat) = 0 := by
      unfold Dome.eB Dome.no; rw [if_pos hok, if_pos (show 0 ≤ ((0 : Nat) : Int) ∧ ((0 : Nat) : Int) < d.bs.length from ⟨by omega, by omega⟩), if_pos rfl, hh]; rfl
    exact ⟨_, 0, k18 d 0 hB (by omega), fun _ => hh⟩
  · have hB : d.eB 0 = 3 := by
      unfold Dome.eB Dome.no; rw [if_pos hok, if_pos (show 0 ≤ (0 : Int) ∧ (0 : Int) < d.bs.length from ⟨by omega, by omega⟩), if_pos rfl, if_neg hh]
    have e := k18_no d 0 (by rw [hB]; decide)
    rw [hB] at e
    exact ⟨[], 3, e, fun h => by omega⟩
set_option maxHeartbeats 2000000 in
theorem k9 (d : Dome) (l : List Int) (g : Int) : FnA Try.prog 9 [.agg d.cells, .isl (l.map iAV), .int .i64 g] (· = .bool true) := by
  have l1 : (l.map iAV).length = l.length := by simp
  refine fnA 12 ok9 (by simp) ?_
  conv => whnf
  refine (k15 d 0).callq rfl rfl (fun r hr => ?_); obtain ⟨q, rfl, hb⟩ := hr
  cases q with
  | false =>
    (conv => whnf); (repeat' (first | (refine bT ?_; conv => whnf) | (refine bF ?_; conv => whnf) | (refine bN ?_) | (refine bD (fun hh => ?_) (fun hh => ?_) <;> first | (exfalso; omega) | (conv => whnf)) | (refine bEq (fun hh => ?_) (fun hh => ?_) <;> first | (exfalso; omega) | (conv => whnf)) | (refine bNe (fun hh => ?_) (fun hh => ?_) <;> first | (exfalso; omega) | (conv => whnf)) | (refine (k17).callq rfl rfl (fun r (hr : r = _) => ?_); subst hr; conv => whnf) | (refine wIn (by omega) ?_; conv => whnf) | (refine nI (by omega) ?_; conv => whnf)))
    all_goals rfl
  | true =>
    obtain ⟨hs, hok, h0, h1⟩ := hb rfl
    have hsl := hok.1.2.2.2.2.2.2.2.2
    have hbl := hok.1.1
    have hrl := hok.1.2.2.2.2.1
    have hwl := hok.1.2.2.2.2.2.2.1
    have l3 : (d.rs.map pairAV).length = d.rs.length := by simp
    have l4 : (d.ws.map iAV).length = d.ws.length := by simp
    by_cases hg : l.length ≤ 40 ∧ 0 ≤ g ∧ g ≤ 500 - d.slope
    case neg =>
      (conv => whnf); (repeat' (first | (refine bT ?_; conv => whnf) | (refine bF ?_; conv => whnf) | (refine bN ?_) | (refine bD (fun hh => ?_) (fun hh => ?_) <;> first | (exfalso; omega) | (conv => whnf)) | (refine bEq (fun hh => ?_) (fun hh => ?_) <;> first | (exfalso; omega) | (conv => whnf)) | (refine bNe (fun hh => ?_) (fun hh => ?_) <;> first | (exfalso; omega) | (conv => whnf)) | (refine (k17).callq rfl rfl (fun r (hr : r = _) => ?_); subst hr; conv => whnf) | (refine wIn (by omega) ?_; conv => whnf) | (refine nI (by omega) ?_; conv => whnf)))
      all_goals first | rfl | (exfalso; omega)
    obtain ⟨v, cd, vw, cdw, e30, e30w, e30t, F1, F3, F4⟩ := best_facts d hok g ⟨hg.2.1, hg.2.2⟩
    obtain ⟨ns, c, e18, hc⟩ := nums_facts d hok
    have hln : (ns.map iAV).length = ns.length := by simp
    by_cases hc0 : c = 0 ∧ 0 < ns.length
    case neg =>
      rcases F1 with hcdv | hcdv
      · (conv => whnf); (repeat' (first | (refine bT ?_; conv => whnf) | (refine bF ?_; conv => whnf) | (refine bN ?_) | (refine bD (fun hh => ?_) (fun hh => ?_) <;> first | (exfalso; omega) | (conv => whnf)) | (refine bEq (fun hh => ?_) (fun hh => ?_) <;> first | (exfalso; omega) | (conv => whnf)) | (refine bNe (fun hh => ?_) (fun hh => ?_) <;> first | (exfalso; omega) | (conv => whnf)) | (refine (e30).callq rfl rfl (fun r (hr : r = _) => ?_); subst hr; conv => whnf) | (refine (e18).callzq rfl rfl (fun r (hr : r = _) => ?_); subst hr; conv => whnf) | (refine wIn (by omega) ?_; conv => whnf) | (refine nI (by omega) ?_; conv => whnf)))
        all_goals (try (exfalso; omega))
        all_goals
          (conv => whnf); (repeat' (first | (refine bT ?_; conv => whnf) | (refine bF ?_; conv => whnf) | (refine bN ?_) | (refine bD (fun hh => ?_) (fun hh => ?_) <;> first | (exfalso; omega) | (conv => whnf)) | (refine bEq (fun hh => ?_) (fun hh => ?_) <;> first | (exfalso; omega) | (conv => whnf)) | (refine bNe (fun hh => ?_) (fun hh => ?_) <;> first | (exfalso; omega) | (conv => whnf)) | (refine (k27o d hs).callzq rfl rfl (fun r rows (hr : r = _ ∧ rows = _) => ?_); obtain ⟨hr1, hr2⟩ := hr; subst hr1; subst hr2; refine ⟨rfl, ?_⟩; conv => whnf) | (refine wIn (by omega) ?_; conv => whnf) | (refine nI (by omega) ?_; conv => whnf)))
          refine loop_i (α := Nat) (fun k => [(15, .int .i64 k), (14, .own 11 0), (13, .own 10 0), (8, .int .i64 cd), (7, .int .i64 v), (6, .bool false), (3, .own 0 0)]) (fun k => [.box false d.cells, .fresh, .row false 52 4 (d.bs.map Bolt.av), .row false 3 1 (d.gs.map iAV), .row false 36 2 (d.rs.map pairAV), .row false 3 1 (d.ws.map iAV), .row false 52 4 (d.bs.map Bolt.av), .row false 3 1 (d.gs.map iAV), .row false 36 2 ((d.rs.reverse.take k ++ d.rs.drop k).map pairAV), .row false 3 1 ((d.ws.reverse.take k ++ d.ws.drop k).map iAV), .box false [.row 2, .row 3, .int .i64 d.loss, .row 4, .row 5, .int .i64 (d.slope + g)], .box false [.row 6, .row 7, .int .i64 d.loss, .row 8, .row 9, .int .i64 d.slope]]) (fun k => k ≤ d.rs.length) (fun k => d.rs.length - k) 0 (meets_id (by (repeat' apply And.intro) <;> first | rfl | exact True.intro | (intro hh; cases hh))) (by omega) ?_
          intro k hk0
          conv => whnf
          refine bD (fun h4 => ?_) (fun h4 => ?_)
          · have hk : k < d.rs.length := by omega
            have hkw : k < d.ws.length := by omega
            have hg1 : (d.rs.map pairAV).getD (((d.rs.map pairAV).length : Int) - 1 - k).toNat [] = pairAV (d.rs[d.rs.length - 1 - k]'(by omega)) := by
              rw [show (((d.rs.map pairAV).length : Int) - 1 - k).toNat = d.rs.length - 1 - k from by omega]; exact getD_map pairAV d.rs _ (by omega)
            have hg2 : (d.ws.map iAV).getD (((d.rs.map pairAV).length : Int) - 1 - k).toNat [] = iAV (d.ws[d.ws.length - 1 - k]'(by omega)) := by
              rw [show (((d.rs.map pairAV).length : Int) - 1 - k).toNat = d.ws.length - 1 - k from by omega]; exact getD_map iAV d.ws _ (by omega)
            have m1 := mix_set pairAV d.rs hk
            have m2 := mix_set iAV d.ws hkw
            have ml1 : ((d.rs.reverse.take k ++ d.rs.drop k).map pairAV).length = d.rs.length := by simp; omega
            have ml2 : ((d.ws.reverse.take k ++ d.ws.drop k).map iAV).length = d.ws.length := by simp; omega
            have mk1 : k < (d.rs.reverse.take k ++ d.rs.drop k).length := by simp; omega
            have mk2 : k < (d.ws.reverse.take k ++ d.ws.drop k).length := by simp; omega
            (conv => whnf); (repeat' (first | (refine bT ?_; conv => whnf) | (refine bF ?_; conv => whnf) | (refine bN ?_) | (refine bD (fun hh => ?_) (fun hh => ?_) <;> first | (exfalso; omega) | (conv => whnf)) | (refine bEq (fun hh => ?_) (fun hh => ?_) <;> first | (exfalso; omega) | (conv => whnf)) | (refine bNe (fun hh => ?_) (fun hh => ?_) <;> first | (exfalso; omega) | (conv => whnf)) | (refine wIn (by omega) ?_; conv => whnf) | (refine nI (by omega) ?_; conv => whnf)))
            refine iaI (by omega) (by omega) hg1 ?_
            (conv => whnf); (repeat' (first | (refine bT ?_; conv => whnf) | (refine bF ?_; conv => whnf) | (refine bN ?_) | (refine bD (fun hh => ?_) (fun hh => ?_) <;> first | (exfalso; omega) | (conv => whnf)) | (refine bEq (fun hh => ?_) (fun hh => ?_) <;> first | (exfalso; omega) | (conv => whnf)) | (refine bNe (fun hh => ?_) (fun hh => ?_) <;> first | (exfalso; omega) | (conv => whnf)) | (refine wIn (by omega) ?_; conv => whnf) | (refine nI (by omega) ?_; conv => whnf)))
            refine iaI (by omega) (by omega) hg2 ?_
            (conv => whnf); (repeat' (first | (refine bT ?_; conv => whnf) | (refine bF ?_; conv => whnf) | (refine bN ?_) | (refine bD (fun hh => ?_) (fun hh => ?_) <;> first | (exfalso; omega) | (conv => whnf)) | (refine bEq (fun hh => ?_) (fun hh => ?_) <;> first | (exfalso; omega) | (conv => whnf)) | (refine bNe (fun hh => ?_) (fun hh => ?_) <;> first | (exfalso; omega) | (conv => whnf)) | (refine wIn (by omega) ?_; conv => whnf) | (refine nI (by omega) ?_; conv => whnf)))
            refine iaI (by omega) (by omega) (getD_map pairAV _ k mk1) ?_
            (conv => whnf); (repeat' (first | (refine bT ?_; conv => whnf) | (refine bF ?_; conv => whnf) | (refine bN ?_) | (refine bD (fun hh => ?_) (fun hh => ?_) <;> first | (exfalso; omega) | (conv => whnf)) | (refine bEq (fun hh => ?_) (fun hh => ?_) <;> first | (exfalso; omega) | (conv => whnf)) | (refine bNe (fun hh => ?_) (fun hh => ?_) <;> first | (exfalso; omega) | (conv => whnf)) | (refine wIn (by omega) ?_; conv => whnf) | (refine nI (by omega) ?_; conv => whnf)))
            refine iaI (by omega) (by omega) (getD_map iAV _ k mk2) ?_
            (conv => whnf); (repeat' (first | (refine bT ?_; conv => whnf) | (refine bF ?_; conv => whnf) | (refine bN ?_) | (refine bD (fun hh => ?_) (fun hh => ?_) <;> first | (exfalso; omega) | (conv => whnf)) | (refine bEq (fun hh => ?_) (fun hh => ?_) <;> first | (exfalso; omega) | (conv => whnf)) | (refine bNe (fun hh => ?_) (fun hh => ?_) <;> first | (exfalso; omega) | (conv => whnf)) | (refine wIn (by omega) ?_; conv => whnf) | (refine nI (by omega) ?_; conv => whnf)))
            refine ⟨k + 1, ?_, by omega, by omega⟩
            rw [← m1, ← m2]
            exact (meets_id (by (repeat' apply And.intro) <;> first | rfl | exact True.intro | (intro hh; cases hh)))
          · have hke : k = d.rs.length := by omega
            have q1 : d.rs.reverse.take k ++ d.rs.drop k = d.rs.reverse := by rw [List.take_of_length_le (by simp; omega), List.drop_eq_nil_of_le (by omega), List.append_nil]
            have q2 : d.ws.reverse.take k ++ d.ws.drop k = d.ws.reverse := by rw [List.take_of_length_le (by simp; omega), List.drop_eq_nil_of_le (by omega), List.append_nil]
            have e30t' : FnA Try.prog 30 [.agg [.isl (d.bs.map Bolt.av), .isl (d.gs.map iAV), .int .i64 d.loss, .isl ((d.rs.reverse.take k ++ d.rs.drop k).map pairAV), .isl ((d.ws.reverse.take k ++ d.ws.drop k).map iAV), .int .i64 d.slope]] (· = .tup [.int .i64 v, .int .i64 cd]) := by rw [q1, q2]; exact e30t
            rcases F3 with hcd | ⟨hcd, hcw, hvw⟩
            · (conv => whnf); (repeat' (first | (refine bT ?_; conv => whnf) | (refine bF ?_; conv => whnf) | (refine bN ?_) | (refine bD (fun hh => ?_) (fun hh => ?_) <;> first | (exfalso; omega) | (conv => whnf)) | (refine bEq (fun hh => ?_) (fun hh => ?_) <;> first | (exfalso; omega) | (conv => whnf)) | (refine bNe (fun hh => ?_) (fun hh => ?_) <;> first | (exfalso; omega) | (conv => whnf)) | (refine (e30w).lendq rfl (fun r (hr : r = _) => ?_); subst hr; refine ⟨rfl, ?_⟩; conv => whnf) | (refine (e30t').lendq rfl (fun r (hr : r = _) => ?_); subst hr; refine ⟨rfl, ?_⟩; conv => whnf) | (refine (k17).callq rfl rfl (fun r (hr : r = _) => ?_); subst hr; conv => whnf) | (refine wIn (by omega) ?_; conv => whnf) | (refine nI (by omega) ?_; conv => whnf)))
              all_goals first | rfl | (exfalso; omega)
            · (conv => whnf); (repeat' (first | (refine bT ?_; conv => whnf) | (refine bF ?_; conv => whnf) | (refine bN ?_) | (refine bD (fun hh => ?_) (fun hh => ?_) <;> first | (exfalso; omega) | (conv => whnf)) | (refine bEq (fun hh => ?_) (fun hh => ?_) <;> first | (exfalso; omega) | (conv => whnf)) | (refine bNe (fun hh => ?_) (fun hh => ?_) <;> first | (exfalso; omega) | (conv => whnf)) | (refine (e30w).lendq rfl (fun r (hr : r = _) => ?_); subst hr; refine ⟨rfl, ?_⟩; conv => whnf) | (refine (e30t').lendq rfl (fun r (hr : r = _) => ?_); subst hr; refine ⟨rfl, ?_⟩; conv => whnf) | (refine (k17).callq rfl rfl (fun r (hr : r = _) => ?_); subst hr; conv => whnf) | (refine wIn (by omega) ?_; conv => whnf) | (refine nI (by omega) ?_; conv => whnf)))
              all_goals first | rfl | (exfalso; omega)
      · (conv => whnf); (repeat' (first | (refine bT ?_; conv => whnf) | (refine bF ?_; conv => whnf) | (refine bN ?_) | (refine bD (fun hh => ?_) (fun hh => ?_) <;> first | (exfalso; omega) | (conv => whnf)) | (refine bEq (fun hh => ?_) (fun hh => ?_) <;> first | (exfalso; omega) | (conv => whnf)) | (refine bNe (fun hh => ?_) (fun hh => ?_) <;> first | (exfalso; omega) | (conv => whnf)) | (refine (e30).callq rfl rfl (fun r (hr : r = _) => ?_); subst hr; conv => whnf) | (refine (e18).callzq rfl rfl (fun r (hr : r = _) => ?_); subst hr; conv => whnf) | (refine wIn (by omega) ?_; conv => whnf) | (refine nI (by omega) ?_; conv => whnf)))
        all_goals (try (exfalso; omega))
        all_goals
          (conv => whnf); (repeat' (first | (refine bT ?_; conv => whnf) | (refine bF ?_; conv => whnf) | (refine bN ?_) | (refine bD (fun hh => ?_) (fun hh => ?_) <;> first | (exfalso; omega) | (conv => whnf)) | (refine bEq (fun hh => ?_) (fun hh => ?_) <;> first | (exfalso; omega) | (conv => whnf)) | (refine bNe (fun hh => ?_) (fun hh => ?_) <;> first | (exfalso; omega) | (conv => whnf)) | (refine (k27o d hs).callzq rfl rfl (fun r rows (hr : r = _ ∧ rows = _) => ?_); obtain ⟨hr1, hr2⟩ := hr; subst hr1; subst hr2; refine ⟨rfl, ?_⟩; conv => whnf) | (refine wIn (by omega) ?_; conv => whnf) | (refine nI (by omega) ?_; conv => whnf)))
          refine loop_i (α := Nat) (fun k => [(15, .int .i64 k), (14, .own 11 0), (13, .own 10 0), (8, .int .i64 cd), (7, .int .i64 v), (6, .bool false), (3, .own 0 0)]) (fun k => [.box false d.cells, .fresh, .row false 52 4 (d.bs.map Bolt.av), .row false 3 1 (d.gs.map iAV), .row false 36 2 (d.rs.map pairAV), .row false 3 1 (d.ws.map iAV), .row false 52 4 (d.bs.map Bolt.av), .row false 3 1 (d.gs.map iAV), .row false 36 2 ((d.rs.reverse.take k ++ d.rs.drop k).map pairAV), .row false 3 1 ((d.ws.reverse.take k ++ d.ws.drop k).map iAV), .box false [.row 2, .row 3, .int .i64 d.loss, .row 4, .row 5, .int .i64 (d.slope + g)], .box false [.row 6, .row 7, .int .i64 d.loss, .row 8, .row 9, .int .i64 d.slope]]) (fun k => k ≤ d.rs.length) (fun k => d.rs.length - k) 0 (meets_id (by (repeat' apply And.intro) <;> first | rfl | exact True.intro | (intro hh; cases hh))) (by omega) ?_
          intro k hk0
          conv => whnf
          refine bD (fun h4 => ?_) (fun h4 => ?_)
          · have hk : k < d.rs.length := by omega
            have hkw : k < d.ws.length := by omega
            have hg1 : (d.rs.map pairAV).getD (((d.rs.map pairAV).length : Int) - 1 - k).toNat [] = pairAV (d.rs[d.rs.length - 1 - k]'(by omega)) := by
              rw [show (((d.rs.map pairAV).length : Int) - 1 - k).toNat = d.rs.length - 1 - k from by omega]; exact getD_map pairAV d.rs _ (by omega)
            have hg2 : (d.ws.map iAV).getD (((d.rs.map pairAV).length : Int) - 1 - k).toNat [] = iAV (d.ws[d.ws.length - 1 - k]'(by omega)) := by
              rw [show (((d.rs.map pairAV).length : Int) - 1 - k).toNat = d.ws.length - 1 - k from by omega]; exact getD_map iAV d.ws _ (by omega)
            have m1 := mix_set pairAV d.rs hk
            have m2 := mix_set iAV d.ws hkw
            have ml1 : ((d.rs.reverse.take k ++ d.rs.drop k).map pairAV).length = d.rs.length := by simp; omega
            have ml2 : ((d.ws.reverse.take k ++ d.ws.drop k).map iAV).length = d.ws.length := by simp; omega
            have mk1 : k < (d.rs.reverse.take k ++ d.rs.drop k).length := by simp; omega
            have mk2 : k < (d.ws.reverse.take k ++ d.ws.drop k).length := by simp; omega
            (conv => whnf); (repeat' (first | (refine bT ?_; conv => whnf) | (refine bF ?_; conv => whnf) | (refine bN ?_) | (refine bD (fun hh => ?_) (fun hh => ?_) <;> first | (exfalso; omega) | (conv => whnf)) | (refine bEq (fun hh => ?_) (fun hh => ?_) <;> first | (exfalso; omega) | (conv => whnf)) | (refine bNe (fun hh => ?_) (fun hh => ?_) <;> first | (exfalso; omega) | (conv => whnf)) | (refine wIn (by omega) ?_; conv => whnf) | (refine nI (by omega) ?_; conv => whnf)))
            refine iaI (by omega) (by omega) hg1 ?_
            (conv => whnf); (repeat' (first | (refine bT ?_; conv => whnf) | (refine bF ?_; conv => whnf) | (refine bN ?_) | (refine bD (fun hh => ?_) (fun hh => ?_) <;> first | (exfalso; omega) | (conv => whnf)) | (refine bEq (fun hh => ?_) (fun hh => ?_) <;> first | (exfalso; omega) | (conv => whnf)) | (refine bNe (fun hh => ?_) (fun hh => ?_) <;> first | (exfalso; omega) | (conv => whnf)) | (refine wIn (by omega) ?_; conv => whnf) | (refine nI (by omega) ?_; conv => whnf)))
            refine iaI (by omega) (by omega) hg2 ?_
            (conv => whnf); (repeat' (first | (refine bT ?_; conv => whnf) | (refine bF ?_; conv => whnf) | (refine bN ?_) | (refine bD (fun hh => ?_) (fun hh => ?_) <;> first | (exfalso; omega) | (conv => whnf)) | (refine bEq (fun hh => ?_) (fun hh => ?_) <;> first | (exfalso; omega) | (conv => whnf)) | (refine bNe (fun hh => ?_) (fun hh => ?_) <;> first | (exfalso; omega) | (conv => whnf)) | (refine wIn (by omega) ?_; conv => whnf) | (refine nI (by omega) ?_; conv => whnf)))
            refine iaI (by omega) (by omega) (getD_map pairAV _ k mk1) ?_
            (conv => whnf); (repeat' (first | (refine bT ?_; conv => whnf) | (refine bF ?_; conv => whnf) | (refine bN ?_) | (refine bD (fun hh => ?_) (fun hh => ?_) <;> first | (exfalso; omega) | (conv => whnf)) | (refine bEq (fun hh => ?_) (fun hh => ?_) <;> first | (exfalso; omega) | (conv => whnf)) | (refine bNe (fun hh => ?_) (fun hh => ?_) <;> first | (exfalso; omega) | (conv => whnf)) | (refine wIn (by omega) ?_; conv => whnf) | (refine nI (by omega) ?_; conv => whnf)))
            refine iaI (by omega) (by omega) (getD_map iAV _ k mk2) ?_
            (conv => whnf); (repeat' (first | (refine bT ?_; conv => whnf) | (refine bF ?_; conv => whnf) | (refine bN ?_) | (refine bD (fun hh => ?_) (fun hh => ?_) <;> first | (exfalso; omega) | (conv => whnf)) | (refine bEq (fun hh => ?_) (fun hh => ?_) <;> first | (exfalso; omega) | (conv => whnf)) | (refine bNe (fun hh => ?_) (fun hh => ?_) <;> first | (exfalso; omega) | (conv => whnf)) | (refine wIn (by omega) ?_; conv => whnf) | (refine nI (by omega) ?_; conv => whnf)))
            refine ⟨k + 1, ?_, by omega, by omega⟩
            rw [← m1, ← m2]
            exact (meets_id (by (repeat' apply And.intro) <;> first | rfl | exact True.intro | (intro hh; cases hh)))
          · have hke : k = d.rs.length := by omega
            have q1 : d.rs.reverse.take k ++ d.rs.drop k = d.rs.reverse := by rw [List.take_of_length_le (by simp; omega), List.drop_eq_nil_of_le (by omega), List.append_nil]
            have q2 : d.ws.reverse.take k ++ d.ws.drop k = d.ws.reverse := by rw [List.take_of_length_le (by simp; omega), List.drop_eq_nil_of_le (by omega), List.append_nil]
            have e30t' : FnA Try.prog 30 [.agg [.isl (d.bs.map Bolt.av), .isl (d.gs.map iAV), .int .i64 d.loss, .isl ((d.rs.reverse.take k ++ d.rs.drop k).map pairAV), .isl ((d.ws.reverse.take k ++ d.ws.drop k).map iAV), .int .i64 d.slope]] (· = .tup [.int .i64 v, .int .i64 cd]) := by rw [q1, q2]; exact e30t
            rcases F3 with hcd | ⟨hcd, hcw, hvw⟩
            · (conv => whnf); (repeat' (first | (refine bT ?_; conv => whnf) | (refine bF ?_; conv => whnf) | (refine bN ?_) | (refine bD (fun hh => ?_) (fun hh => ?_) <;> first | (exfalso; omega) | (conv => whnf)) | (refine bEq (fun hh => ?_) (fun hh => ?_) <;> first | (exfalso; omega) | (conv => whnf)) | (refine bNe (fun hh => ?_) (fun hh => ?_) <;> first | (exfalso; omega) | (conv => whnf)) | (refine (e30w).lendq rfl (fun r (hr : r = _) => ?_); subst hr; refine ⟨rfl, ?_⟩; conv => whnf) | (refine (e30t').lendq rfl (fun r (hr : r = _) => ?_); subst hr; refine ⟨rfl, ?_⟩; conv => whnf) | (refine (k17).callq rfl rfl (fun r (hr : r = _) => ?_); subst hr; conv => whnf) | (refine wIn (by omega) ?_; conv => whnf) | (refine nI (by omega) ?_; conv => whnf)))
              all_goals first | rfl | (exfalso; omega)
            · (conv => whnf); (repeat' (first | (refine bT ?_; conv => whnf) | (refine bF ?_; conv => whnf) | (refine bN ?_) | (refine bD (fun hh => ?_) (fun hh => ?_) <;> first | (exfalso; omega) | (conv => whnf)) | (refine bEq (fun hh => ?_) (fun hh => ?_) <;> first | (exfalso; omega) | (conv => whnf)) | (refine bNe (fun hh => ?_) (fun hh => ?_) <;> first | (exfalso; omega) | (conv => whnf)) | (refine (e30w).lendq rfl (fun r (hr : r = _) => ?_); subst hr; refine ⟨rfl, ?_⟩; conv => whnf) | (refine (e30t').lendq rfl (fun r (hr : r = _) => ?_); subst hr; refine ⟨rfl, ?_⟩; conv => whnf) | (refine (k17).callq rfl rfl (fun r (hr : r = _) => ?_); subst hr; conv => whnf) | (refine wIn (by omega) ?_; conv => whnf) | (refine nI (by omega) ?_; conv => whnf)))
              all_goals first | rfl | (exfalso; omega)
    obtain ⟨hc0, hn0⟩ := hc0
    subst hc0
    have hhas := hc rfl
    rcases F1 with hcdv | hcdv
    · (conv => whnf); (repeat' (first | (refine bT ?_; conv => whnf) | (refine bF ?_; conv => whnf) | (refine bN ?_) | (refine bD (fun hh => ?_) (fun hh => ?_) <;> first | (exfalso; omega) | (conv => whnf)) | (refine bEq (fun hh => ?_) (fun hh => ?_) <;> first | (exfalso; omega) | (conv => whnf)) | (refine bNe (fun hh => ?_) (fun hh => ?_) <;> first | (exfalso; omega) | (conv => whnf)) | (refine (e30).callq rfl rfl (fun r (hr : r = _) => ?_); subst hr; conv => whnf) | (refine (e18).callzq rfl rfl (fun r (hr : r = _) => ?_); subst hr; conv => whnf) | (refine wIn (by omega) ?_; conv => whnf) | (refine nI (by omega) ?_; conv => whnf)))
      all_goals (try (exfalso; omega))
      all_goals
          refine (k31 d l hok).callq rfl rfl (fun r hr => ?_)
          obtain ⟨b, rfl, hb2⟩ := hr
          cases b with
          | false =>
            (conv => whnf); (repeat' (first | (refine bT ?_; conv => whnf) | (refine bF ?_; conv => whnf) | (refine bN ?_) | (refine bD (fun hh => ?_) (fun hh => ?_) <;> first | (exfalso; omega) | (conv => whnf)) | (refine bEq (fun hh => ?_) (fun hh => ?_) <;> first | (exfalso; omega) | (conv => whnf)) | (refine bNe (fun hh => ?_) (fun hh => ?_) <;> first | (exfalso; omega) | (conv => whnf)) | (refine wIn (by omega) ?_; conv => whnf) | (refine nI (by omega) ?_; conv => whnf)))
            all_goals
              (conv => whnf); (repeat' (first | (refine bT ?_; conv => whnf) | (refine bF ?_; conv => whnf) | (refine bN ?_) | (refine bD (fun hh => ?_) (fun hh => ?_) <;> first | (exfalso; omega) | (conv => whnf)) | (refine bEq (fun hh => ?_) (fun hh => ?_) <;> first | (exfalso; omega) | (conv => whnf)) | (refine bNe (fun hh => ?_) (fun hh => ?_) <;> first | (exfalso; omega) | (conv => whnf)) | (refine (k27o d hs).callzq rfl rfl (fun r rows (hr : r = _ ∧ rows = _) => ?_); obtain ⟨hr1, hr2⟩ := hr; subst hr1; subst hr2; refine ⟨rfl, ?_⟩; conv => whnf) | (refine wIn (by omega) ?_; conv => whnf) | (refine nI (by omega) ?_; conv => whnf)))
              refine loop_i (α := Nat) (fun k => [(15, .int .i64 k), (14, .own 11 0), (13, .own 10 0), (8, .int .i64 cd), (7, .int .i64 v), (6, .bool false), (3, .own 0 0)]) (fun k => [.box false d.cells, .fresh, .row false 52 4 (d.bs.map Bolt.av), .row false 3 1 (d.gs.map iAV), .row false 36 2 (d.rs.map pairAV), .row false 3 1 (d.ws.map iAV), .row false 52 4 (d.bs.map Bolt.av), .row false 3 1 (d.gs.map iAV), .row false 36 2 ((d.rs.reverse.take k ++ d.rs.drop k).map pairAV), .row false 3 1 ((d.ws.reverse.take k ++ d.ws.drop k).map iAV), .box false [.row 2, .row 3, .int .i64 d.loss, .row 4, .row 5, .int .i64 (d.slope + g)], .box false [.row 6, .row 7, .int .i64 d.loss, .row 8, .row 9, .int .i64 d.slope]]) (fun k => k ≤ d.rs.length) (fun k => d.rs.length - k) 0 (meets_id (by (repeat' apply And.intro) <;> first | rfl | exact True.intro | (intro hh; cases hh))) (by omega) ?_
              intro k hk0
              conv => whnf
              refine bD (fun h4 => ?_) (fun h4 => ?_)
              · have hk : k < d.rs.length := by omega
                have hkw : k < d.ws.length := by omega
                have hg1 : (d.rs.map pairAV).getD (((d.rs.map pairAV).length : Int) - 1 - k).toNat [] = pairAV (d.rs[d.rs.length - 1 - k]'(by omega)) := by
                  rw [show (((d.rs.map pairAV).length : Int) - 1 - k).toNat = d.rs.length - 1 - k from by omega]; exact getD_map pairAV d.rs _ (by omega)
                have hg2 : (d.ws.map iAV).getD (((d.rs.map pairAV).length : Int) - 1 - k).toNat [] = iAV (d.ws[d.ws.length - 1 - k]'(by omega)) := by
                  rw [show (((d.rs.map pairAV).length : Int) - 1 - k).toNat = d.ws.length - 1 - k from by omega]; exact getD_map iAV d.ws _ (by omega)
                have m1 := mix_set pairAV d.rs hk
                have m2 := mix_set iAV d.ws hkw
                have ml1 : ((d.rs.reverse.take k ++ d.rs.drop k).map pairAV).length = d.rs.length := by simp; omega
                have ml2 : ((d.ws.reverse.take k ++ d.ws.drop k).map iAV).length = d.ws.length := by simp; omega
                have mk1 : k < (d.rs.reverse.take k ++ d.rs.drop k).length := by simp; omega
                have mk2 : k < (d.ws.reverse.take k ++ d.ws.drop k).length := by simp; omega
                (conv => whnf); (repeat' (first | (refine bT ?_; conv => whnf) | (refine bF ?_; conv => whnf) | (refine bN ?_) | (refine bD (fun hh => ?_) (fun hh => ?_) <;> first | (exfalso; omega) | (conv => whnf)) | (refine bEq (fun hh => ?_) (fun hh => ?_) <;> first | (exfalso; omega) | (conv => whnf)) | (refine bNe (fun hh => ?_) (fun hh => ?_) <;> first | (exfalso; omega) | (conv => whnf)) | (refine wIn (by omega) ?_; conv => whnf) | (refine nI (by omega) ?_; conv => whnf)))
                refine iaI (by omega) (by omega) hg1 ?_
                (conv => whnf); (repeat' (first | (refine bT ?_; conv => whnf) | (refine bF ?_; conv => whnf) | (refine bN ?_) | (refine bD (fun hh => ?_) (fun hh => ?_) <;> first | (exfalso; omega) | (conv => whnf)) | (refine bEq (fun hh => ?_) (fun hh => ?_) <;> first | (exfalso; omega) | (conv => whnf)) | (refine bNe (fun hh => ?_) (fun hh => ?_) <;> first | (exfalso; omega) | (conv => whnf)) | (refine wIn (by omega) ?_; conv => whnf) | (refine nI (by omega) ?_; conv => whnf)))
                refine iaI (by omega) (by omega) hg2 ?_
                (conv => whnf); (repeat' (first | (refine bT ?_; conv => whnf) | (refine bF ?_; conv => whnf) | (refine bN ?_) | (refine bD (fun hh => ?_) (fun hh => ?_) <;> first | (exfalso; omega) | (conv => whnf)) | (refine bEq (fun hh => ?_) (fun hh => ?_) <;> first | (exfalso; omega) | (conv => whnf)) | (refine bNe (fun hh => ?_) (fun hh => ?_) <;> first | (exfalso; omega) | (conv => whnf)) | (refine wIn (by omega) ?_; conv => whnf) | (refine nI (by omega) ?_; conv => whnf)))
                refine iaI (by omega) (by omega) (getD_map pairAV _ k mk1) ?_
                (conv => whnf); (repeat' (first | (refine bT ?_; conv => whnf) | (refine bF ?_; conv => whnf) | (refine bN ?_) | (refine bD (fun hh => ?_) (fun hh => ?_) <;> first | (exfalso; omega) | (conv => whnf)) | (refine bEq (fun hh => ?_) (fun hh => ?_) <;> first | (exfalso; omega) | (conv => whnf)) | (refine bNe (fun hh => ?_) (fun hh => ?_) <;> first | (exfalso; omega) | (conv => whnf)) | (refine wIn (by omega) ?_; conv => whnf) | (refine nI (by omega) ?_; conv => whnf)))
                refine iaI (by omega) (by omega) (getD_map iAV _ k mk2) ?_
                (conv => whnf); (repeat' (first | (refine bT ?_; conv => whnf) | (refine bF ?_; conv => whnf) | (refine bN ?_) | (refine bD (fun hh => ?_) (fun hh => ?_) <;> first | (exfalso; omega) | (conv => whnf)) | (refine bEq (fun hh => ?_) (fun hh => ?_) <;> first | (exfalso; omega) | (conv => whnf)) | (refine bNe (fun hh => ?_) (fun hh => ?_) <;> first | (exfalso; omega) | (conv => whnf)) | (refine wIn (by omega) ?_; conv => whnf) | (refine nI (by omega) ?_; conv => whnf)))
                refine ⟨k + 1, ?_, by omega, by omega⟩
                rw [← m1, ← m2]
                exact (meets_id (by (repeat' apply And.intro) <;> first | rfl | exact True.intro | (intro hh; cases hh)))
              · have hke : k = d.rs.length := by omega
                have q1 : d.rs.reverse.take k ++ d.rs.drop k = d.rs.reverse := by rw [List.take_of_length_le (by simp; omega), List.drop_eq_nil_of_le (by omega), List.append_nil]
                have q2 : d.ws.reverse.take k ++ d.ws.drop k = d.ws.reverse := by rw [List.take_of_length_le (by simp; omega), List.drop_eq_nil_of_le (by omega), List.append_nil]
                have e30t' : FnA Try.prog 30 [.agg [.isl (d.bs.map Bolt.av), .isl (d.gs.map iAV), .int .i64 d.loss, .isl ((d.rs.reverse.take k ++ d.rs.drop k).map pairAV), .isl ((d.ws.reverse.take k ++ d.ws.drop k).map iAV), .int .i64 d.slope]] (· = .tup [.int .i64 v, .int .i64 cd]) := by rw [q1, q2]; exact e30t
                rcases F3 with hcd | ⟨hcd, hcw, hvw⟩
                · (conv => whnf); (repeat' (first | (refine bT ?_; conv => whnf) | (refine bF ?_; conv => whnf) | (refine bN ?_) | (refine bD (fun hh => ?_) (fun hh => ?_) <;> first | (exfalso; omega) | (conv => whnf)) | (refine bEq (fun hh => ?_) (fun hh => ?_) <;> first | (exfalso; omega) | (conv => whnf)) | (refine bNe (fun hh => ?_) (fun hh => ?_) <;> first | (exfalso; omega) | (conv => whnf)) | (refine (e30w).lendq rfl (fun r (hr : r = _) => ?_); subst hr; refine ⟨rfl, ?_⟩; conv => whnf) | (refine (e30t').lendq rfl (fun r (hr : r = _) => ?_); subst hr; refine ⟨rfl, ?_⟩; conv => whnf) | (refine (k17).callq rfl rfl (fun r (hr : r = _) => ?_); subst hr; conv => whnf) | (refine wIn (by omega) ?_; conv => whnf) | (refine nI (by omega) ?_; conv => whnf)))
                  all_goals first | rfl | (exfalso; omega)
                · (conv => whnf); (repeat' (first | (refine bT ?_; conv => whnf) | (refine bF ?_; conv => whnf) | (refine bN ?_) | (refine bD (fun hh => ?_) (fun hh => ?_) <;> first | (exfalso; omega) | (conv => whnf)) | (refine bEq (fun hh => ?_) (fun hh => ?_) <;> first | (exfalso; omega) | (conv => whnf)) | (refine bNe (fun hh => ?_) (fun hh => ?_) <;> first | (exfalso; omega) | (conv => whnf)) | (refine (e30w).lendq rfl (fun r (hr : r = _) => ?_); subst hr; refine ⟨rfl, ?_⟩; conv => whnf) | (refine (e30t').lendq rfl (fun r (hr : r = _) => ?_); subst hr; refine ⟨rfl, ?_⟩; conv => whnf) | (refine (k17).callq rfl rfl (fun r (hr : r = _) => ?_); subst hr; conv => whnf) | (refine wIn (by omega) ?_; conv => whnf) | (refine nI (by omega) ?_; conv => whnf)))
                  all_goals first | rfl | (exfalso; omega)
          | true =>
            have hC := hb2.1 rfl
            obtain ⟨hcd0, hvl⟩ := F4 l hhas hC
            have hll' : l.length ≤ 12 := by rw [hC.1]; exact hrl.2
            have hin : ∀ x ∈ l, 0 ≤ x ∧ x ≤ 2000 := fun x hx => by
              obtain ⟨i, hi, rfl⟩ := List.getElem_of_mem hx
              have h2 := (hC.2 i hi).1
              have h3 := hok.1.2.2.2.1
              rw [show l.getD i 0 = l[i] from by simp [List.getD_eq_getElem?_getD, hi]] at h2
              omega
            (conv => whnf); (repeat' (first | (refine bT ?_; conv => whnf) | (refine bF ?_; conv => whnf) | (refine bN ?_) | (refine bD (fun hh => ?_) (fun hh => ?_) <;> first | (exfalso; omega) | (conv => whnf)) | (refine bEq (fun hh => ?_) (fun hh => ?_) <;> first | (exfalso; omega) | (conv => whnf)) | (refine bNe (fun hh => ?_) (fun hh => ?_) <;> first | (exfalso; omega) | (conv => whnf)) | (refine wIn (by omega) ?_; conv => whnf) | (refine nI (by omega) ?_; conv => whnf)))
            refine loop_i (α := Nat) (fun k => [(12, .int .i64 k), (11, .int .i64 (l.take k).sum), (8, .int .i64 cd), (7, .int .i64 v), (6, .bool false), (3, .own 0 0), (2, .int .i64 g), (1, .isl (l.map iAV))]) (fun k => [.box false d.cells, .fresh, .fresh, .fresh, .fresh, .fresh, .fresh, .fresh, .fresh, .fresh, .fresh, .fresh]) (fun k => k ≤ l.length) (fun k => l.length - k) 0 (meets_id (by (repeat' apply And.intro) <;> first | rfl | exact True.intro | (intro hh; cases hh))) (by omega) ?_
            intro k hk0
            conv => whnf
            refine bD (fun h4 => ?_) (fun h4 => ?_)
            · have hk : k < l.length := by omega
              have h1 := sum_in (l := l.take k) fun x hx => hin x (List.mem_of_mem_take hx)
              have h2 := hin _ (List.getElem_mem hk)
              have h3 : (l.take k).length ≤ 12 := by rw [List.length_take]; omega
              have h5 := sum_succ hk
              (conv => whnf); (repeat' (first | (refine bT ?_; conv => whnf) | (refine bF ?_; conv => whnf) | (refine bN ?_) | (refine bD (fun hh => ?_) (fun hh => ?_) <;> first | (exfalso; omega) | (conv => whnf)) | (refine bEq (fun hh => ?_) (fun hh => ?_) <;> first | (exfalso; omega) | (conv => whnf)) | (refine bNe (fun hh => ?_) (fun hh => ?_) <;> first | (exfalso; omega) | (conv => whnf)) | (refine wIn (by omega) ?_; conv => whnf) | (refine nI (by omega) ?_; conv => whnf)))
              refine iaI (by omega) (by omega) (getD_map iAV l k hk) ?_
              (conv => whnf); (repeat' (first | (refine bT ?_; conv => whnf) | (refine bF ?_; conv => whnf) | (refine bN ?_) | (refine bD (fun hh => ?_) (fun hh => ?_) <;> first | (exfalso; omega) | (conv => whnf)) | (refine bEq (fun hh => ?_) (fun hh => ?_) <;> first | (exfalso; omega) | (conv => whnf)) | (refine bNe (fun hh => ?_) (fun hh => ?_) <;> first | (exfalso; omega) | (conv => whnf)) | (refine wIn (by omega) ?_; conv => whnf) | (refine nI (by omega) ?_; conv => whnf)))
              refine ⟨k + 1, ?_, by omega, by omega⟩
              rw [h5]
              exact (meets_id (by (repeat' apply And.intro) <;> first | rfl | exact True.intro | (intro hh; cases hh)))
            · have hkl : k = l.length := by omega
              have h6 : (l.take k).sum = l.sum := by rw [hkl, List.take_length]
              (conv => whnf); (repeat' (first | (refine bT ?_; conv => whnf) | (refine bF ?_; conv => whnf) | (refine bN ?_) | (refine bD (fun hh => ?_) (fun hh => ?_) <;> first | (exfalso; omega) | (conv => whnf)) | (refine bEq (fun hh => ?_) (fun hh => ?_) <;> first | (exfalso; omega) | (conv => whnf)) | (refine bNe (fun hh => ?_) (fun hh => ?_) <;> first | (exfalso; omega) | (conv => whnf)) | (refine wIn (by omega) ?_; conv => whnf) | (refine nI (by omega) ?_; conv => whnf)))
              all_goals (try (exfalso; omega))
              all_goals
                (conv => whnf); (repeat' (first | (refine bT ?_; conv => whnf) | (refine bF ?_; conv => whnf) | (refine bN ?_) | (refine bD (fun hh => ?_) (fun hh => ?_) <;> first | (exfalso; omega) | (conv => whnf)) | (refine bEq (fun hh => ?_) (fun hh => ?_) <;> first | (exfalso; omega) | (conv => whnf)) | (refine bNe (fun hh => ?_) (fun hh => ?_) <;> first | (exfalso; omega) | (conv => whnf)) | (refine (k27o d hs).callzq rfl rfl (fun r rows (hr : r = _ ∧ rows = _) => ?_); obtain ⟨hr1, hr2⟩ := hr; subst hr1; subst hr2; refine ⟨rfl, ?_⟩; conv => whnf) | (refine wIn (by omega) ?_; conv => whnf) | (refine nI (by omega) ?_; conv => whnf)))
                refine loop_i (α := Nat) (fun k => [(15, .int .i64 k), (14, .own 11 0), (13, .own 10 0), (8, .int .i64 cd), (7, .int .i64 v), (6, .bool false), (3, .own 0 0)]) (fun k => [.box false d.cells, .fresh, .row false 52 4 (d.bs.map Bolt.av), .row false 3 1 (d.gs.map iAV), .row false 36 2 (d.rs.map pairAV), .row false 3 1 (d.ws.map iAV), .row false 52 4 (d.bs.map Bolt.av), .row false 3 1 (d.gs.map iAV), .row false 36 2 ((d.rs.reverse.take k ++ d.rs.drop k).map pairAV), .row false 3 1 ((d.ws.reverse.take k ++ d.ws.drop k).map iAV), .box false [.row 2, .row 3, .int .i64 d.loss, .row 4, .row 5, .int .i64 (d.slope + g)], .box false [.row 6, .row 7, .int .i64 d.loss, .row 8, .row 9, .int .i64 d.slope]]) (fun k => k ≤ d.rs.length) (fun k => d.rs.length - k) 0 (meets_id (by (repeat' apply And.intro) <;> first | rfl | exact True.intro | (intro hh; cases hh))) (by omega) ?_
                intro k hk0
                conv => whnf
                refine bD (fun h4 => ?_) (fun h4 => ?_)
                · have hk : k < d.rs.length := by omega
                  have hkw : k < d.ws.length := by omega
                  have hg1 : (d.rs.map pairAV).getD (((d.rs.map pairAV).length : Int) - 1 - k).toNat [] = pairAV (d.rs[d.rs.length - 1 - k]'(by omega)) := by
                    rw [show (((d.rs.map pairAV).length : Int) - 1 - k).toNat = d.rs.length - 1 - k from by omega]; exact getD_map pairAV d.rs _ (by omega)
                  have hg2 : (d.ws.map iAV).getD (((d.rs.map pairAV).length : Int) - 1 - k).toNat [] = iAV (d.ws[d.ws.length - 1 - k]'(by omega)) := by
                    rw [show (((d.rs.map pairAV).length : Int) - 1 - k).toNat = d.ws.length - 1 - k from by omega]; exact getD_map iAV d.ws _ (by omega)
                  have m1 := mix_set pairAV d.rs hk
                  have m2 := mix_set iAV d.ws hkw
                  have ml1 : ((d.rs.reverse.take k ++ d.rs.drop k).map pairAV).length = d.rs.length := by simp; omega
                  have ml2 : ((d.ws.reverse.take k ++ d.ws.drop k).map iAV).length = d.ws.length := by simp; omega
                  have mk1 : k < (d.rs.reverse.take k ++ d.rs.drop k).length := by simp; omega
                  have mk2 : k < (d.ws.reverse.take k ++ d.ws.drop k).length := by simp; omega
                  (conv => whnf); (repeat' (first | (refine bT ?_; conv => whnf) | (refine bF ?_; conv => whnf) | (refine bN ?_) | (refine bD (fun hh => ?_) (fun hh => ?_) <;> first | (exfalso; omega) | (conv => whnf)) | (refine bEq (fun hh => ?_) (fun hh => ?_) <;> first | (exfalso; omega) | (conv => whnf)) | (refine bNe (fun hh => ?_) (fun hh => ?_) <;> first | (exfalso; omega) | (conv => whnf)) | (refine wIn (by omega) ?_; conv => whnf) | (refine nI (by omega) ?_; conv => whnf)))
                  refine iaI (by omega) (by omega) hg1 ?_
                  (conv => whnf); (repeat' (first | (refine bT ?_; conv => whnf) | (refine bF ?_; conv => whnf) | (refine bN ?_) | (refine bD (fun hh => ?_) (fun hh => ?_) <;> first | (exfalso; omega) | (conv => whnf)) | (refine bEq (fun hh => ?_) (fun hh => ?_) <;> first | (exfalso; omega) | (conv => whnf)) | (refine bNe (fun hh => ?_) (fun hh => ?_) <;> first | (exfalso; omega) | (conv => whnf)) | (refine wIn (by omega) ?_; conv => whnf) | (refine nI (by omega) ?_; conv => whnf)))
                  refine iaI (by omega) (by omega) hg2 ?_
                  (conv => whnf); (repeat' (first | (refine bT ?_; conv => whnf) | (refine bF ?_; conv => whnf) | (refine bN ?_) | (refine bD (fun hh => ?_) (fun hh => ?_) <;> first | (exfalso; omega) | (conv => whnf)) | (refine bEq (fun hh => ?_) (fun hh => ?_) <;> first | (exfalso; omega) | (conv => whnf)) | (refine bNe (fun hh => ?_) (fun hh => ?_) <;> first | (exfalso; omega) | (conv => whnf)) | (refine wIn (by omega) ?_; conv => whnf) | (refine nI (by omega) ?_; conv => whnf)))
                  refine iaI (by omega) (by omega) (getD_map pairAV _ k mk1) ?_
                  (conv => whnf); (repeat' (first | (refine bT ?_; conv => whnf) | (refine bF ?_; conv => whnf) | (refine bN ?_) | (refine bD (fun hh => ?_) (fun hh => ?_) <;> first | (exfalso; omega) | (conv => whnf)) | (refine bEq (fun hh => ?_) (fun hh => ?_) <;> first | (exfalso; omega) | (conv => whnf)) | (refine bNe (fun hh => ?_) (fun hh => ?_) <;> first | (exfalso; omega) | (conv => whnf)) | (refine wIn (by omega) ?_; conv => whnf) | (refine nI (by omega) ?_; conv => whnf)))
                  refine iaI (by omega) (by omega) (getD_map iAV _ k mk2) ?_
                  (conv => whnf); (repeat' (first | (refine bT ?_; conv => whnf) | (refine bF ?_; conv => whnf) | (refine bN ?_) | (refine bD (fun hh => ?_) (fun hh => ?_) <;> first | (exfalso; omega) | (conv => whnf)) | (refine bEq (fun hh => ?_) (fun hh => ?_) <;> first | (exfalso; omega) | (conv => whnf)) | (refine bNe (fun hh => ?_) (fun hh => ?_) <;> first | (exfalso; omega) | (conv => whnf)) | (refine wIn (by omega) ?_; conv => whnf) | (refine nI (by omega) ?_; conv => whnf)))
                  refine ⟨k + 1, ?_, by omega, by omega⟩
                  rw [← m1, ← m2]
                  exact (meets_id (by (repeat' apply And.intro) <;> first | rfl | exact True.intro | (intro hh; cases hh)))
                · have hke : k = d.rs.length := by omega
                  have q1 : d.rs.reverse.take k ++ d.rs.drop k = d.rs.reverse := by rw [List.take_of_length_le (by simp; omega), List.drop_eq_nil_of_le (by omega), List.append_nil]
                  have q2 : d.ws.reverse.take k ++ d.ws.drop k = d.ws.reverse := by rw [List.take_of_length_le (by simp; omega), List.drop_eq_nil_of_le (by omega), List.append_nil]
                  have e30t' : FnA Try.prog 30 [.agg [.isl (d.bs.map Bolt.av), .isl (d.gs.map iAV), .int .i64 d.loss, .isl ((d.rs.reverse.take k ++ d.rs.drop k).map pairAV), .isl ((d.ws.reverse.take k ++ d.ws.drop k).map iAV), .int .i64 d.slope]] (· = .tup [.int .i64 v, .int .i64 cd]) := by rw [q1, q2]; exact e30t
                  rcases F3 with hcd | ⟨hcd, hcw, hvw⟩
                  · (conv => whnf); (repeat' (first | (refine bT ?_; conv => whnf) | (refine bF ?_; conv => whnf) | (refine bN ?_) | (refine bD (fun hh => ?_) (fun hh => ?_) <;> first | (exfalso; omega) | (conv => whnf)) | (refine bEq (fun hh => ?_) (fun hh => ?_) <;> first | (exfalso; omega) | (conv => whnf)) | (refine bNe (fun hh => ?_) (fun hh => ?_) <;> first | (exfalso; omega) | (conv => whnf)) | (refine (e30w).lendq rfl (fun r (hr : r = _) => ?_); subst hr; refine ⟨rfl, ?_⟩; conv => whnf) | (refine (e30t').lendq rfl (fun r (hr : r = _) => ?_); subst hr; refine ⟨rfl, ?_⟩; conv => whnf) | (refine (k17).callq rfl rfl (fun r (hr : r = _) => ?_); subst hr; conv => whnf) | (refine wIn (by omega) ?_; conv => whnf) | (refine nI (by omega) ?_; conv => whnf)))
                    all_goals first | rfl | (exfalso; omega)
                  · (conv => whnf); (repeat' (first | (refine bT ?_; conv => whnf) | (refine bF ?_; conv => whnf) | (refine bN ?_) | (refine bD (fun hh => ?_) (fun hh => ?_) <;> first | (exfalso; omega) | (conv => whnf)) | (refine bEq (fun hh => ?_) (fun hh => ?_) <;> first | (exfalso; omega) | (conv => whnf)) | (refine bNe (fun hh => ?_) (fun hh => ?_) <;> first | (exfalso; omega) | (conv => whnf)) | (refine (e30w).lendq rfl (fun r (hr : r = _) => ?_); subst hr; refine ⟨rfl, ?_⟩; conv => whnf) | (refine (e30t').lendq rfl (fun r (hr : r = _) => ?_); subst hr; refine ⟨rfl, ?_⟩; conv => whnf) | (refine (k17).callq rfl rfl (fun r (hr : r = _) => ?_); subst hr; conv => whnf) | (refine wIn (by omega) ?_; conv => whnf) | (refine nI (by omega) ?_; conv => whnf)))
                    all_goals first | rfl | (exfalso; omega)
    · (conv => whnf); (repeat' (first | (refine bT ?_; conv => whnf) | (refine bF ?_; conv => whnf) | (refine bN ?_) | (refine bD (fun hh => ?_) (fun hh => ?_) <;> first | (exfalso; omega) | (conv => whnf)) | (refine bEq (fun hh => ?_) (fun hh => ?_) <;> first | (exfalso; omega) | (conv => whnf)) | (refine bNe (fun hh => ?_) (fun hh => ?_) <;> first | (exfalso; omega) | (conv => whnf)) | (refine (e30).callq rfl rfl (fun r (hr : r = _) => ?_); subst hr; conv => whnf) | (refine (e18).callzq rfl rfl (fun r (hr : r = _) => ?_); subst hr; conv => whnf) | (refine wIn (by omega) ?_; conv => whnf) | (refine nI (by omega) ?_; conv => whnf)))
      all_goals (try (exfalso; omega))
      all_goals
          refine (k31 d l hok).callq rfl rfl (fun r hr => ?_)
          obtain ⟨b, rfl, hb2⟩ := hr
          cases b with
          | false =>
            (conv => whnf); (repeat' (first | (refine bT ?_; conv => whnf) | (refine bF ?_; conv => whnf) | (refine bN ?_) | (refine bD (fun hh => ?_) (fun hh => ?_) <;> first | (exfalso; omega) | (conv => whnf)) | (refine bEq (fun hh => ?_) (fun hh => ?_) <;> first | (exfalso; omega) | (conv => whnf)) | (refine bNe (fun hh => ?_) (fun hh => ?_) <;> first | (exfalso; omega) | (conv => whnf)) | (refine wIn (by omega) ?_; conv => whnf) | (refine nI (by omega) ?_; conv => whnf)))
            all_goals
              (conv => whnf); (repeat' (first | (refine bT ?_; conv => whnf) | (refine bF ?_; conv => whnf) | (refine bN ?_) | (refine bD (fun hh => ?_) (fun hh => ?_) <;> first | (exfalso; omega) | (conv => whnf)) | (refine bEq (fun hh => ?_) (fun hh => ?_) <;> first | (exfalso; omega) | (conv => whnf)) | (refine bNe (fun hh => ?_) (fun hh => ?_) <;> first | (exfalso; omega) | (conv => whnf)) | (refine (k27o d hs).callzq rfl rfl (fun r rows (hr : r = _ ∧ rows = _) => ?_); obtain ⟨hr1, hr2⟩ := hr; subst hr1; subst hr2; refine ⟨rfl, ?_⟩; conv => whnf) | (refine wIn (by omega) ?_; conv => whnf) | (refine nI (by omega) ?_; conv => whnf)))
              refine loop_i (α := Nat) (fun k => [(15, .int .i64 k), (14, .own 11 0), (13, .own 10 0), (8, .int .i64 cd), (7, .int .i64 v), (6, .bool false), (3, .own 0 0)]) (fun k => [.box false d.cells, .fresh, .row false 52 4 (d.bs.map Bolt.av), .row false 3 1 (d.gs.map iAV), .row false 36 2 (d.rs.map pairAV), .row false 3 1 (d.ws.map iAV), .row false 52 4 (d.bs.map Bolt.av), .row false 3 1 (d.gs.map iAV), .row false 36 2 ((d.rs.reverse.take k ++ d.rs.drop k).map pairAV), .row false 3 1 ((d.ws.reverse.take k ++ d.ws.drop k).map iAV), .box false [.row 2, .row 3, .int .i64 d.loss, .row 4, .row 5, .int .i64 (d.slope + g)], .box false [.row 6, .row 7, .int .i64 d.loss, .row 8, .row 9, .int .i64 d.slope]]) (fun k => k ≤ d.rs.length) (fun k => d.rs.length - k) 0 (meets_id (by (repeat' apply And.intro) <;> first | rfl | exact True.intro | (intro hh; cases hh))) (by omega) ?_
              intro k hk0
              conv => whnf
              refine bD (fun h4 => ?_) (fun h4 => ?_)
              · have hk : k < d.rs.length := by omega
                have hkw : k < d.ws.length := by omega
                have hg1 : (d.rs.map pairAV).getD (((d.rs.map pairAV).length : Int) - 1 - k).toNat [] = pairAV (d.rs[d.rs.length - 1 - k]'(by omega)) := by
                  rw [show (((d.rs.map pairAV).length : Int) - 1 - k).toNat = d.rs.length - 1 - k from by omega]; exact getD_map pairAV d.rs _ (by omega)
                have hg2 : (d.ws.map iAV).getD (((d.rs.map pairAV).length : Int) - 1 - k).toNat [] = iAV (d.ws[d.ws.length - 1 - k]'(by omega)) := by
                  rw [show (((d.rs.map pairAV).length : Int) - 1 - k).toNat = d.ws.length - 1 - k from by omega]; exact getD_map iAV d.ws _ (by omega)
                have m1 := mix_set pairAV d.rs hk
                have m2 := mix_set iAV d.ws hkw
                have ml1 : ((d.rs.reverse.take k ++ d.rs.drop k).map pairAV).length = d.rs.length := by simp; omega
                have ml2 : ((d.ws.reverse.take k ++ d.ws.drop k).map iAV).length = d.ws.length := by simp; omega
                have mk1 : k < (d.rs.reverse.take k ++ d.rs.drop k).length := by simp; omega
                have mk2 : k < (d.ws.reverse.take k ++ d.ws.drop k).length := by simp; omega
                (conv => whnf); (repeat' (first | (refine bT ?_; conv => whnf) | (refine bF ?_; conv => whnf) | (refine bN ?_) | (refine bD (fun hh => ?_) (fun hh => ?_) <;> first | (exfalso; omega) | (conv => whnf)) | (refine bEq (fun hh => ?_) (fun hh => ?_) <;> first | (exfalso; omega) | (conv => whnf)) | (refine bNe (fun hh => ?_) (fun hh => ?_) <;> first | (exfalso; omega) | (conv => whnf)) | (refine wIn (by omega) ?_; conv => whnf) | (refine nI (by omega) ?_; conv => whnf)))
                refine iaI (by omega) (by omega) hg1 ?_
                (conv => whnf); (repeat' (first | (refine bT ?_; conv => whnf) | (refine bF ?_; conv => whnf) | (refine bN ?_) | (refine bD (fun hh => ?_) (fun hh => ?_) <;> first | (exfalso; omega) | (conv => whnf)) | (refine bEq (fun hh => ?_) (fun hh => ?_) <;> first | (exfalso; omega) | (conv => whnf)) | (refine bNe (fun hh => ?_) (fun hh => ?_) <;> first | (exfalso; omega) | (conv => whnf)) | (refine wIn (by omega) ?_; conv => whnf) | (refine nI (by omega) ?_; conv => whnf)))
                refine iaI (by omega) (by omega) hg2 ?_
                (conv => whnf); (repeat' (first | (refine bT ?_; conv => whnf) | (refine bF ?_; conv => whnf) | (refine bN ?_) | (refine bD (fun hh => ?_) (fun hh => ?_) <;> first | (exfalso; omega) | (conv => whnf)) | (refine bEq (fun hh => ?_) (fun hh => ?_) <;> first | (exfalso; omega) | (conv => whnf)) | (refine bNe (fun hh => ?_) (fun hh => ?_) <;> first | (exfalso; omega) | (conv => whnf)) | (refine wIn (by omega) ?_; conv => whnf) | (refine nI (by omega) ?_; conv => whnf)))
                refine iaI (by omega) (by omega) (getD_map pairAV _ k mk1) ?_
                (conv => whnf); (repeat' (first | (refine bT ?_; conv => whnf) | (refine bF ?_; conv => whnf) | (refine bN ?_) | (refine bD (fun hh => ?_) (fun hh => ?_) <;> first | (exfalso; omega) | (conv => whnf)) | (refine bEq (fun hh => ?_) (fun hh => ?_) <;> first | (exfalso; omega) | (conv => whnf)) | (refine bNe (fun hh => ?_) (fun hh => ?_) <;> first | (exfalso; omega) | (conv => whnf)) | (refine wIn (by omega) ?_; conv => whnf) | (refine nI (by omega) ?_; conv => whnf)))
                refine iaI (by omega) (by omega) (getD_map iAV _ k mk2) ?_
                (conv => whnf); (repeat' (first | (refine bT ?_; conv => whnf) | (refine bF ?_; conv => whnf) | (refine bN ?_) | (refine bD (fun hh => ?_) (fun hh => ?_) <;> first | (exfalso; omega) | (conv => whnf)) | (refine bEq (fun hh => ?_) (fun hh => ?_) <;> first | (exfalso; omega) | (conv => whnf)) | (refine bNe (fun hh => ?_) (fun hh => ?_) <;> first | (exfalso; omega) | (conv => whnf)) | (refine wIn (by omega) ?_; conv => whnf) | (refine nI (by omega) ?_; conv => whnf)))
                refine ⟨k + 1, ?_, by omega, by omega⟩
                rw [← m1, ← m2]
                exact (meets_id (by (repeat' apply And.intro) <;> first | rfl | exact True.intro | (intro hh; cases hh)))
              · have hke : k = d.rs.length := by omega
                have q1 : d.rs.reverse.take k ++ d.rs.drop k = d.rs.reverse := by rw [List.take_of_length_le (by simp; omega), List.drop_eq_nil_of_le (by omega), List.append_nil]
                have q2 : d.ws.reverse.take k ++ d.ws.drop k = d.ws.reverse := by rw [List.take_of_length_le (by simp; omega), List.drop_eq_nil_of_le (by omega), List.append_nil]
                have e30t' : FnA Try.prog 30 [.agg [.isl (d.bs.map Bolt.av), .isl (d.gs.map iAV), .int .i64 d.loss, .isl ((d.rs.reverse.take k ++ d.rs.drop k).map pairAV), .isl ((d.ws.reverse.take k ++ d.ws.drop k).map iAV), .int .i64 d.slope]] (· = .tup [.int .i64 v, .int .i64 cd]) := by rw [q1, q2]; exact e30t
                rcases F3 with hcd | ⟨hcd, hcw, hvw⟩
                · (conv => whnf); (repeat' (first | (refine bT ?_; conv => whnf) | (refine bF ?_; conv => whnf) | (refine bN ?_) | (refine bD (fun hh => ?_) (fun hh => ?_) <;> first | (exfalso; omega) | (conv => whnf)) | (refine bEq (fun hh => ?_) (fun hh => ?_) <;> first | (exfalso; omega) | (conv => whnf)) | (refine bNe (fun hh => ?_) (fun hh => ?_) <;> first | (exfalso; omega) | (conv => whnf)) | (refine (e30w).lendq rfl (fun r (hr : r = _) => ?_); subst hr; refine ⟨rfl, ?_⟩; conv => whnf) | (refine (e30t').lendq rfl (fun r (hr : r = _) => ?_); subst hr; refine ⟨rfl, ?_⟩; conv => whnf) | (refine (k17).callq rfl rfl (fun r (hr : r = _) => ?_); subst hr; conv => whnf) | (refine wIn (by omega) ?_; conv => whnf) | (refine nI (by omega) ?_; conv => whnf)))
                  all_goals first | rfl | (exfalso; omega)
                · (conv => whnf); (repeat' (first | (refine bT ?_; conv => whnf) | (refine bF ?_; conv => whnf) | (refine bN ?_) | (refine bD (fun hh => ?_) (fun hh => ?_) <;> first | (exfalso; omega) | (conv => whnf)) | (refine bEq (fun hh => ?_) (fun hh => ?_) <;> first | (exfalso; omega) | (conv => whnf)) | (refine bNe (fun hh => ?_) (fun hh => ?_) <;> first | (exfalso; omega) | (conv => whnf)) | (refine (e30w).lendq rfl (fun r (hr : r = _) => ?_); subst hr; refine ⟨rfl, ?_⟩; conv => whnf) | (refine (e30t').lendq rfl (fun r (hr : r = _) => ?_); subst hr; refine ⟨rfl, ?_⟩; conv => whnf) | (refine (k17).callq rfl rfl (fun r (hr : r = _) => ?_); subst hr; conv => whnf) | (refine wIn (by omega) ?_; conv => whnf) | (refine nI (by omega) ?_; conv => whnf)))
                  all_goals first | rfl | (exfalso; omega)
          | true =>
            obtain ⟨hcd0, hvl⟩ := F4 l hhas (hb2.1 rfl)
            exfalso; omega
end Go.Proofs
