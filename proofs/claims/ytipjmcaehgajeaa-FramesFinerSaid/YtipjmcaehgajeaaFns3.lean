/- What each function of this program answers, proved by walking its body: further contracts that the law rests on. -/
import Derived.Test.YtipjmcaehgajeaaFns2
set_option linter.unusedSimpArgs false
set_option linter.unusedVariables false
set_option linter.unusedSectionVars false
namespace Go.Proofs
open Go.Eng
attribute [local irreducible] Go.Eng.brB Go.Eng.need Go.Eng.wrE Go.Eng.iaE Go.Eng.slE Go.Eng.apE Go.Eng.CallZ Go.Eng.CallE Go.Eng.VCallE Go.Eng.YldE Go.Eng.GoC Go.Eng.MeetsE Go.Eng.FnA Go.Eng.FnV Go.Eng.ItA
set_option maxRecDepth 100000

def leF (x y : Int × Int) : Prop := x.1 * y.2 ≤ y.1 * x.2
theorem leF_trans {x y z : Int × Int} (hx : 1 ≤ x.2) (hy : 1 ≤ y.2) (hz : 1 ≤ z.2) (h1 : leF x y) (h2 : leF y z) : leF x z := by
  unfold leF at *
  have e1 : x.1 * y.2 * z.2 ≤ y.1 * x.2 * z.2 := Int.mul_le_mul_of_nonneg_right h1 (by omega)
  have e2 : y.1 * z.2 * x.2 ≤ z.1 * y.2 * x.2 := Int.mul_le_mul_of_nonneg_right h2 (by omega)
  have e3 : x.1 * z.2 * y.2 ≤ z.1 * x.2 * y.2 := by
    have a1 : x.1 * z.2 * y.2 = x.1 * y.2 * z.2 := Int.mul_right_comm ..
    have a2 : y.1 * x.2 * z.2 = y.1 * z.2 * x.2 := Int.mul_right_comm ..
    have a3 : z.1 * x.2 * y.2 = z.1 * y.2 * x.2 := Int.mul_right_comm ..
    omega
  exact Int.le_of_mul_le_mul_right e3 (by omega)
def cosQ (d : Int) (q : Int × Int) : Int × Int := (cosN d q.1 q.2, cosD d q.1)
theorem cpart_ends {s : Sec} (hok : s.ok) {d : Int} (hd : 1 ≤ d ∧ d ≤ 6000) : ∀ k, ∀ q ∈ s.sides.take k, leF (cpart s d k).1 (cosQ d q) ∧ leF (cosQ d q) (cpart s d k).2
  | 0, q, h => by simp at h
  | k + 1, q, h => by
    have ih := cpart_ends hok hd k
    have hb := cpart_bd hok hd k
    cases hk : s.sides[k]? with
    | none =>
      have h' : s.sides.length ≤ k := List.getElem?_eq_none_iff.1 hk
      have e : cpart s d (k + 1) = cpart s d k := by
        unfold cpart; rw [List.take_of_length_le (by omega), List.take_of_length_le h']
      rw [e]
      rw [List.take_of_length_le (by omega)] at h
      rw [List.take_of_length_le h'] at ih
      exact ih q h
    | some p =>
      have hpm := List.mem_of_getElem? hk
      have hpb : bdF (cosQ d p) := cos_rbd hok hd hpm
      rw [cpart_succ hk]
      obtain ⟨hk1, rfl⟩ := List.getElem?_eq_some_iff.1 hk
      rw [List.take_succ_eq_append_getElem hk1] at h
      generalize hL : cpart s d k = L at *
      generalize hp : s.sides[k] = p at *
      have hs1 : (cstep d L p).1 = if cosN d p.1 p.2 * L.1.2 < L.1.1 * cosD d p.1 then cosQ d p else L.1 := rfl
      have hs2 : (cstep d L p).2 = if L.2.1 * cosD d p.1 < cosN d p.1 p.2 * L.2.2 then cosQ d p else L.2 := rfl
      rw [hs1, hs2]
      rcases List.mem_append.1 h with h | h
      · have h0 := ih q h
        have hqb : bdF (cosQ d q) := cos_rbd hok hd (List.mem_of_mem_take h)
        constructor
        · split
          · rename_i hlt
            exact leF_trans hpb.2.1 hb.1.2.1 hqb.2.1 (show cosN d p.1 p.2 * L.1.2 ≤ L.1.1 * cosD d p.1 by omega) h0.1
          · exact h0.1
        · split
          · rename_i hlt
            exact leF_trans hqb.2.1 hb.2.2.1 hpb.2.1 h0.2 (show L.2.1 * cosD d p.1 ≤ cosN d p.1 p.2 * L.2.2 by omega)
          · exact h0.2
      · simp at h; subst h
        constructor
        · split
          · exact Int.le_refl _
          · rename_i hlt; show L.1.1 * cosD d q.1 ≤ cosN d q.1 q.2 * L.1.2; omega
        · split
          · exact Int.le_refl _
          · rename_i hlt; show cosN d q.1 q.2 * L.2.2 ≤ L.2.1 * cosD d q.1; omega
theorem cosF_ends {s : Sec} (hok : s.ok) {d : Int} (hd : 1 ≤ d ∧ d ≤ 6000) {q : Int × Int} (hq : q ∈ s.sides) : leF (cosF s d).1 (cosQ d q) ∧ leF (cosQ d q) (cosF s d).2 := by
  have := cpart_ends hok hd s.n q (by rw [List.take_of_length_le (by rw [sides_n]; omega)]; exact hq)
  rwa [cpart_all] at this
/-- less, of reduced fractions -/
theorem red_leF {x y : Int × Int} (hx : bdF x) (hy : bdF y) : ¬(redN y.1 y.2 * redD x.1 x.2 < redN x.1 x.2 * redD y.1 y.2) ↔ leF x y := by
  rw [red_lt hy.2.1, red_gt hx.2.1]
  unfold leF; omega
theorem k40r {x y : Int × Int} (hx : bdF x) (hy : bdF y) (h : leF y x) : FnA Try.prog 40 [fr x, fr y] (· = .bool false) := by
  have c1 := red_bd hx.1 hx.2
  have c2 := red_bd hy.1 hy.2
  have m1 := mul_ab (a := redN x.1 x.2) 100000000 100000000 c1.1.1 c1.1.2 (show 0 ≤ redD y.1 y.2 by omega) c2.2.2
  have m2 := mul_ab (a := redN y.1 y.2) 100000000 100000000 c2.1.1 c2.1.2 (show 0 ≤ redD x.1 x.2 by omega) c1.2.2
  have := k40 (redN x.1 x.2) (redD x.1 x.2) (redN y.1 y.2) (redD y.1 y.2) (by omega) (by omega)
  rwa [decide_eq_false ((red_leF hy hx).2 h)] at this
theorem k39r {x : Int × Int} (hx : bdF x) : FnA Try.prog 39 [fr x] (· = .bool true) := by
  have c1 := red_bd hx.1 hx.2
  have := k39 (redN x.1 x.2) (redD x.1 x.2)
  rwa [decide_eq_true (by omega)] at this
theorem agr {s : Sec} (hok : s.ok) (P : Int → Int → Bool) {q : Int × Int} (hq : q ∈ s.sides) : FnA Try.prog 42 [.int .i64 (knw s P), .bool (P q.1 q.2)] (· = .bool true) := by
  have := k42 (knw s P) (P q.1 q.2)
  have e : (if knw s P = 1 then P q.1 q.2 else if knw s P = 2 then !P q.1 q.2 else decide (knw s P = 3)) = true := by
    rcases knw_123 s P with h | h | h
    · rw [if_pos h]; exact (knw1 P).1 h q hq
    · rw [if_neg (by omega), if_pos h, (knw2 hok P).1 h q hq]; rfl
    · rw [if_neg (by omega), if_neg (by omega)]; simp [h]
  rwa [e] at this
theorem agr_n {n : Int} {b : Bool} (h1 : n = 1 → b = true) (h2 : n = 2 → b = false) (h : n = 1 ∨ n = 2 ∨ n = 3) : FnA Try.prog 42 [.int .i64 n, .bool b] (· = .bool true) := by
  have := k42 n b
  have e : (if n = 1 then b else if n = 2 then !b else decide (n = 3)) = true := by
    rcases h with h | h | h
    · rw [if_pos h]; exact h1 h
    · rw [if_neg (by omega), if_pos h, h2 h]; rfl
    · rw [if_neg (by omega), if_neg (by omega)]; simp [h]
  rwa [e] at this

/-! the theorem of each truth -/
def allFree (f : Frm) (ts : List (Int × Int)) (k : Nat) : Bool := (List.range k).all fun i => !f.smw i (ts.getD i (0, 0)).1 (ts.getD i (0, 0)).2
def longT (ts : List (Int × Int)) (k : Nat) : Int := (ts.take k).foldl (fun m q => max m q.1) 0
theorem longT_succ {ts : List (Int × Int)} {k : Nat} (h : k < ts.length) : longT ts (k + 1) = max (longT ts k) (ts[k]).1 := by
  unfold longT
  rw [List.take_succ_eq_append_getElem h, List.foldl_append]; rfl
theorem mx_long {ts : List (Int × Int)} {ss : List Sec} (hl : ts.length = ss.length) : ∀ k ≤ ts.length, (∀ i (h : i < ts.length) (h' : i < ss.length), i < k → ss[i].al ≤ (ts[i]).1 ∧ (ts[i]).1 ≤ ss[i].ah) → mxl (ss.take k) 0 ≤ longT ts k ∧ longT ts k ≤ mxh (ss.take k) 0
  | 0, _, _ => by simp [mxl, mxh, longT]
  | k + 1, hk, h => by
    have ih := mx_long hl k (by omega) fun i h1 h2 h3 => h i h1 h2 (by omega)
    have hk' : k < ss.length := by omega
    rw [longT_succ (by omega), List.take_succ_eq_append_getElem hk']
    have := h k (by omega) hk' (by omega)
    unfold mxl mxh at *
    rw [List.foldl_append, List.foldl_append]
    simp only [List.foldl_cons, List.foldl_nil]
    omega
theorem allFree_succ (f : Frm) (ts : List (Int × Int)) (k : Nat) : allFree f ts (k + 1) = (allFree f ts k && !f.smw k (ts.getD k (0, 0)).1 (ts.getD k (0, 0)).2) := range_all k _
theorem k36t {f : Frm} {i : Nat} {a t : Int} (hok : f.ok) (hi : i < f.ss.length) (h : (a, t) ∈ (f.sec i).sides) : FnA Try.prog 36 [.agg f.cells, .int .i64 i, .agg [.int .i64 a, .int .i64 t]] (· = .bool true) := by
  have := k36 f i a t hok hi
  rwa [decide_eq_true (mem_sides.1 h)] at this
theorem k36f {f : Frm} {i : Nat} {a t : Int} (hok : f.ok) (hi : i < f.ss.length) (h : ¬(a, t) ∈ (f.sec i).sides) : FnA Try.prog 36 [.agg f.cells, .int .i64 i, .agg [.int .i64 a, .int .i64 t]] (· = .bool false) := by
  have := k36 f i a t hok hi
  rwa [decide_eq_false fun h' => h (mem_sides.2 h')] at this
theorem getD_pair (ts : List (Int × Int)) {k : Nat} (h : k < ts.length) : (ts.map pairAV).getD k [] = pairAV (ts.getD k (0, 0)) := by
  rw [getD_map pairAV ts k h]; simp [List.getD_eq_getElem?_getD, h]
theorem free_opens {f : Frm} (hok : f.ok) {ts : List (Int × Int)} (hT : ∀ i < f.ss.length, ts.getD i (0, 0) ∈ (f.sec i).sides) : (f.opens = 1 → allFree f ts f.ss.length = true) ∧ (f.opens = 2 → allFree f ts f.ss.length = false) := by
  constructor
  · intro h
    unfold allFree
    rw [List.all_eq_true]
    intro i hi
    have hi := List.mem_range.1 hi
    have h1 := opens1.1 h i hi
    have h2 := (knw2 (Frm.sec_ok hok hi) (f.smw i)).1 h1 _ (hT i hi)
    simp only [h2]; rfl
  · intro h
    obtain ⟨i, hi, h1⟩ := opens2.1 h
    have h2 := (knw1 (s := f.sec i) (f.smw i)).1 h1 _ (hT i hi)
    unfold allFree
    rw [List.all_eq_false]
    exact ⟨i, List.mem_range.2 hi, by simp only [h2]; simp⟩

set_option maxHeartbeats 4000000 in
theorem k5 (f : Frm) (ts : List (Int × Int)) (i r : Int) (htl : ts.length ≤ maxLen) (hw : FnA Try.prog 12 [] (· = .bool true)) : FnA Try.prog 5 [.agg f.cells, .isl (ts.map pairAV), .agg [.int .i64 i, .int .i64 r]] (· = .bool true) := by
  have hL : (f.ss.map Sec.av).length = f.ss.length := by simp
  have hTl : (ts.map pairAV).length = ts.length := by simp
  refine fnA 5 ok5 (by simp) ?_
  have kr := k34 f
  cases hr : f.rdy
  · rw [hr] at kr
    (conv => whnf); (repeat' (first | (refine bT ?_; conv => whnf) | (refine bF ?_; conv => whnf) | (refine bN ?_) | (refine bD (fun hh => ?_) (fun hh => ?_) <;> first | (exfalso; omega) | (conv => whnf)) | (refine bEq (fun hh => ?_) (fun hh => ?_) <;> first | (exfalso; omega) | (conv => whnf)) | (refine bNe (fun hh => ?_) (fun hh => ?_) <;> first | (exfalso; omega) | (conv => whnf)) | (refine (kr).callq rfl rfl (fun r (hr : r = _) => ?_); subst hr; conv => whnf) | (refine (hw).callq rfl rfl (fun r (hr : r = _) => ?_); subst hr; conv => whnf) | (refine wIn (by omega) ?_; conv => whnf) | (refine nI (by omega) ?_; conv => whnf)))
    all_goals rfl
  rw [hr] at kr
  obtain ⟨hok, hfar⟩ := rdy_ok hr
  have hn := hok.2.1
  have ka := k35 f i r (by omega)
  cases ha : f.ask i r
  · rw [ha] at ka
    (conv => whnf); (repeat' (first | (refine bT ?_; conv => whnf) | (refine bF ?_; conv => whnf) | (refine bN ?_) | (refine bD (fun hh => ?_) (fun hh => ?_) <;> first | (exfalso; omega) | (conv => whnf)) | (refine bEq (fun hh => ?_) (fun hh => ?_) <;> first | (exfalso; omega) | (conv => whnf)) | (refine bNe (fun hh => ?_) (fun hh => ?_) <;> first | (exfalso; omega) | (conv => whnf)) | (refine (kr).callq rfl rfl (fun r (hr : r = _) => ?_); subst hr; conv => whnf) | (refine (ka).callq rfl rfl (fun r (hr : r = _) => ?_); subst hr; conv => whnf) | (refine (hw).callq rfl rfl (fun r (hr : r = _) => ?_); subst hr; conv => whnf) | (refine wIn (by omega) ?_; conv => whnf) | (refine nI (by omega) ?_; conv => whnf)))
    all_goals rfl
  rw [ha] at ka
  unfold Frm.ask at ha
  obtain ⟨⟨hi0, hi1⟩, hr0, hr1⟩ := of_decide_eq_true ha
  obtain ⟨j, rfl⟩ := Int.eq_ofNat_of_zero_le hi0
  have hj : j < f.ss.length := by omega
  by_cases hlen : ts.length = f.ss.length
  case neg =>
    (conv => whnf); (repeat' (first | (refine bT ?_; conv => whnf) | (refine bF ?_; conv => whnf) | (refine bN ?_) | (refine bD (fun hh => ?_) (fun hh => ?_) <;> first | (exfalso; omega) | (conv => whnf)) | (refine bEq (fun hh => ?_) (fun hh => ?_) <;> first | (exfalso; omega) | (conv => whnf)) | (refine bNe (fun hh => ?_) (fun hh => ?_) <;> first | (exfalso; omega) | (conv => whnf)) | (refine (kr).callq rfl rfl (fun r (hr : r = _) => ?_); subst hr; conv => whnf) | (refine (ka).callq rfl rfl (fun r (hr : r = _) => ?_); subst hr; conv => whnf) | (refine (hw).callq rfl rfl (fun r (hr : r = _) => ?_); subst hr; conv => whnf) | (refine wIn (by omega) ?_; conv => whnf) | (refine nI (by omega) ?_; conv => whnf)))
    all_goals rfl
  (conv => whnf); (repeat' (first | (refine bT ?_; conv => whnf) | (refine bF ?_; conv => whnf) | (refine bN ?_) | (refine bD (fun hh => ?_) (fun hh => ?_) <;> first | (exfalso; omega) | (conv => whnf)) | (refine bEq (fun hh => ?_) (fun hh => ?_) <;> first | (exfalso; omega) | (conv => whnf)) | (refine bNe (fun hh => ?_) (fun hh => ?_) <;> first | (exfalso; omega) | (conv => whnf)) | (refine (kr).callq rfl rfl (fun r (hr : r = _) => ?_); subst hr; conv => whnf) | (refine (ka).callq rfl rfl (fun r (hr : r = _) => ?_); subst hr; conv => whnf) | (refine wIn (by omega) ?_; conv => whnf) | (refine nI (by omega) ?_; conv => whnf)))
  refine loop_i (α := Nat) (fun x => [(9, .int .i64 x), (8, .int .i64 (longT ts x)), (7, .bool (allFree f ts x)), (1, .isl (ts.map pairAV)), (3, .own 0 0), (5, .own 1 0)]) (fun x => [.box false f.cells, .box false [.int .i64 j, .int .i64 r], .fresh, .fresh, .fresh])
    (fun x => x ≤ ts.length ∧ ∀ i < x, ts.getD i (0, 0) ∈ (f.sec i).sides) (fun x => ts.length - x) 0 (meets_id (by (repeat' apply And.intro) <;> first | rfl | trivial | (intro hh; cases hh))) ⟨by simp, by simp⟩ ?_
  rintro k ⟨hk, hb⟩
  conv => whnf
  refine bD (fun h7 => ?_) (fun h7 => ?_)
  · have hk' : k < ts.length := by omega
    have hks : k < f.ss.length := by omega
    have hgd : ts[k] = ts.getD k (0, 0) := by simp [List.getD_eq_getElem?_getD, hk']
    have e1 := longT_succ hk'
    have e2 := allFree_succ f ts k
    have hgp := getD_pair ts hk'
    rw [hgd] at e1
    generalize hq : ts.getD k (0, 0) = q at *
    (conv => whnf); (repeat' (first | (refine bT ?_; conv => whnf) | (refine bF ?_; conv => whnf) | (refine bN ?_) | (refine bD (fun hh => ?_) (fun hh => ?_) <;> first | (exfalso; omega) | (conv => whnf)) | (refine bEq (fun hh => ?_) (fun hh => ?_) <;> first | (exfalso; omega) | (conv => whnf)) | (refine bNe (fun hh => ?_) (fun hh => ?_) <;> first | (exfalso; omega) | (conv => whnf)) | (refine wIn (by omega) ?_; conv => whnf) | (refine nI (by omega) ?_; conv => whnf)))
    refine iaI (by omega) (by omega) hgp ?_
    by_cases hin : (q.1, q.2) ∈ (f.sec k).sides
    · have hsb := side_b (Frm.sec_ok hok hks) hin
      cases hA : allFree f ts k
      · rw [hA] at e2
        (conv => whnf); (repeat' (first | (refine bT ?_; conv => whnf) | (refine bF ?_; conv => whnf) | (refine bN ?_) | (refine bD (fun hh => ?_) (fun hh => ?_) <;> first | (exfalso; omega) | (conv => whnf)) | (refine bEq (fun hh => ?_) (fun hh => ?_) <;> first | (exfalso; omega) | (conv => whnf)) | (refine bNe (fun hh => ?_) (fun hh => ?_) <;> first | (exfalso; omega) | (conv => whnf)) | (refine (k36t hok hks hin).callq rfl rfl (fun r (hr : r = _) => ?_); subst hr; conv => whnf) | (refine wIn (by omega) ?_; conv => whnf) | (refine nI (by omega) ?_; conv => whnf)))
        refine iaI (by omega) (by omega) hgp ?_
        (conv => whnf); (repeat' (first | (refine bT ?_; conv => whnf) | (refine bF ?_; conv => whnf) | (refine bN ?_) | (refine bD (fun hh => ?_) (fun hh => ?_) <;> first | (exfalso; omega) | (conv => whnf)) | (refine bEq (fun hh => ?_) (fun hh => ?_) <;> first | (exfalso; omega) | (conv => whnf)) | (refine bNe (fun hh => ?_) (fun hh => ?_) <;> first | (exfalso; omega) | (conv => whnf)) | (refine wIn (by omega) ?_; conv => whnf) | (refine nI (by omega) ?_; conv => whnf)))
        refine ⟨k + 1, ?_, ⟨by omega, fun i hi => ?_⟩, by omega⟩
        · rw [e1, e2]; exact (meets_id (by (repeat' apply And.intro) <;> first | rfl | trivial | (intro hh; cases hh)))
        · by_cases h : i < k
          · exact hb i h
          · have : i = k := by omega
            subst this; rw [hq]; exact hin
      · rw [hA] at e2
        (conv => whnf); (repeat' (first | (refine bT ?_; conv => whnf) | (refine bF ?_; conv => whnf) | (refine bN ?_) | (refine bD (fun hh => ?_) (fun hh => ?_) <;> first | (exfalso; omega) | (conv => whnf)) | (refine bEq (fun hh => ?_) (fun hh => ?_) <;> first | (exfalso; omega) | (conv => whnf)) | (refine bNe (fun hh => ?_) (fun hh => ?_) <;> first | (exfalso; omega) | (conv => whnf)) | (refine (k36t hok hks hin).callq rfl rfl (fun r (hr : r = _) => ?_); subst hr; conv => whnf) | (refine wIn (by omega) ?_; conv => whnf) | (refine nI (by omega) ?_; conv => whnf)))
        refine iaI (by omega) (by omega) hgp ?_
        (conv => whnf); (repeat' (first | (refine bT ?_; conv => whnf) | (refine bF ?_; conv => whnf) | (refine bN ?_) | (refine bD (fun hh => ?_) (fun hh => ?_) <;> first | (exfalso; omega) | (conv => whnf)) | (refine bEq (fun hh => ?_) (fun hh => ?_) <;> first | (exfalso; omega) | (conv => whnf)) | (refine bNe (fun hh => ?_) (fun hh => ?_) <;> first | (exfalso; omega) | (conv => whnf)) | (refine (k37 f k q.1 q.2 hok hks hsb.1 hsb.2).callq rfl rfl (fun r (hr : r = _) => ?_); subst hr; conv => whnf) | (refine wIn (by omega) ?_; conv => whnf) | (refine nI (by omega) ?_; conv => whnf)))
        refine iaI (by omega) (by omega) hgp ?_
        (conv => whnf); (repeat' (first | (refine bT ?_; conv => whnf) | (refine bF ?_; conv => whnf) | (refine bN ?_) | (refine bD (fun hh => ?_) (fun hh => ?_) <;> first | (exfalso; omega) | (conv => whnf)) | (refine bEq (fun hh => ?_) (fun hh => ?_) <;> first | (exfalso; omega) | (conv => whnf)) | (refine bNe (fun hh => ?_) (fun hh => ?_) <;> first | (exfalso; omega) | (conv => whnf)) | (refine wIn (by omega) ?_; conv => whnf) | (refine nI (by omega) ?_; conv => whnf)))
        refine ⟨k + 1, ?_, ⟨by omega, fun i hi => ?_⟩, by omega⟩
        · rw [e1, e2, Bool.true_and]; exact (meets_id (by (repeat' apply And.intro) <;> first | rfl | trivial | (intro hh; cases hh)))
        · by_cases h : i < k
          · exact hb i h
          · have : i = k := by omega
            subst this; rw [hq]; exact hin
    · (conv => whnf); (repeat' (first | (refine bT ?_; conv => whnf) | (refine bF ?_; conv => whnf) | (refine bN ?_) | (refine bD (fun hh => ?_) (fun hh => ?_) <;> first | (exfalso; omega) | (conv => whnf)) | (refine bEq (fun hh => ?_) (fun hh => ?_) <;> first | (exfalso; omega) | (conv => whnf)) | (refine bNe (fun hh => ?_) (fun hh => ?_) <;> first | (exfalso; omega) | (conv => whnf)) | (refine (k36f hok hks hin).callq rfl rfl (fun r (hr : r = _) => ?_); subst hr; conv => whnf) | (refine (hw).callq rfl rfl (fun r (hr : r = _) => ?_); subst hr; conv => whnf) | (refine wIn (by omega) ?_; conv => whnf) | (refine nI (by omega) ?_; conv => whnf)))
      all_goals rfl
  · have hk : k = ts.length := by omega
    subst hk
    have hT : ∀ i < f.ss.length, ts.getD i (0, 0) ∈ (f.sec i).sides := fun i hi => hb i (by omega)
    have hml := mx_long hlen ts.length (by omega) (fun i h1 h2 _ => by
      have := mem_sides.1 (hT i h2)
      rw [Frm.sec_eq h2] at this
      simpa [List.getD_eq_getElem?_getD, h1] using this.1)
    rw [List.take_of_length_le (by omega)] at hml
    have hfo := free_opens hok hT
    have hmb := mx_bd hok.2.2.1 (a := 0) (b := 0) (by omega) (by omega)
    have hrod := hok.2.2.2.2.2
    rw [hlen] at hml ⊢
    have hqj := hT j hj
    have hgp := getD_pair ts (k := j) (by omega)
    have hs := Frm.sec_ok hok hj
    generalize hq : ts.getD j (0, 0) = q at *
    have hsb := side_b hs hqj
    have hpos : f.pos (j : Nat) r = 0 := pos_zero hok (by omega) ⟨hr0, hr1⟩
    have hr2 := hok.2.2.2.1
    unfold okSpan at hr2
    have hd := Frm.dist_bd hok j (show 0 ≤ r by omega) (by omega)
    have a1 := agr hs (fun a t => f.bindsF j a t r) hqj
    have a2 := agr_n hfo.1 hfo.2 (opens_123 f)
    have a3 := agr hs (f.turn j) hqj
    have a4 : FnA Try.prog 42 [.int .i64 f.closes, .bool (decide (f.rod + longT ts f.ss.length ≤ f.cs))] (· = .bool true) := by
      refine agr_n ?_ ?_ ?_ <;> unfold Frm.closes <;> (repeat' split) <;> simp <;> omega
    have kb := k41 f j r q.1 q.2 hok hj (by omega) (by omega) hsb.1 hsb.2
    have kt := k43 f j q.1 q.2 hok hj hsb.1 hsb.2
    have kc := k18 f j r hpos
    have kf := k23 f hok
    have e0 : f.ss.getD j default = f.sec j := rfl
    rw [e0] at kc
    have hb1 : f.first = none → f.bindsF j q.1 q.2 r = false := fun h => (bnd2 hok hj r).1 (first_none.1 h r (mem_poss.2 ⟨hr0, hr1⟩) j hj) q hqj
    have hb2 : ∀ a b, f.first = some (a, b) → f.bindsF j q.1 q.2 r = true → r ≤ b := fun a b h hbt => by
      obtain ⟨c, d, h1, h2⟩ := first_is (f := f) (r := r) (j := j) ⟨hr0, hr1⟩ hj (fun h2 => by rw [(bnd2 hok hj r).1 h2 q hqj] at hbt; cases hbt)
      rw [h] at h1; cases h1; exact h2
    have a1' : FnA Try.prog 42 [.int .i64 (f.bnd j r), .bool (f.bindsF j q.1 q.2 r)] (· = .bool true) := a1
    have a3' : FnA Try.prog 42 [.int .i64 (f.turnK j), .bool (f.turn j q.1 q.2)] (· = .bool true) := a3
    clear a1 a3 hfo
    have kd := k16 f j r hpos
    have hfin : ∀ (bb : Bool), f.bindsF j q.1 q.2 r = bb → (∃ X Y : Int, f.firstAV = .tup [.int .i64 X, .int .i64 Y, .int .i64 0] ∧ (bb = true → r ≤ Y)) ∨ (f.firstAV = .tup [.int .i64 0, .int .i64 0, .int .i64 3] ∧ bb = false) := fun bb hbb => by
      rcases first_case f with ⟨h1, h2⟩ | ⟨a, b, h1, h2⟩
      · exact .inr ⟨h2, by rw [← hbb]; exact hb1 h1⟩
      · exact .inl ⟨a, b, h2, fun h => hb2 a b h1 (by rw [hbb]; exact h)⟩
    have kbn := k20 f j r hpos
    have kop := k25 f hok
    have ktu := k27 f j hok hj
    have kcl := k31 f hok
    have hlb : (0 : Int) ≤ longT ts f.ss.length ∧ longT ts f.ss.length ≤ 2000 := by omega
    clear hb1 hb2 hT hb h7
    obtain ⟨bb, hbb⟩ : ∃ bb, f.bindsF j q.1 q.2 r = bb := ⟨_, rfl⟩
    rw [hbb] at kb a1'
    have hfin := hfin bb hbb
    clear hbb
    by_cases hz : f.dist j r = 0
    · rw [if_pos hz] at kc
      rw [hz] at kd
      have kq := k38z q.1 q.2
      rcases hfin with ⟨X, Y, h1, h2⟩ | ⟨h1, h2⟩
      · rw [h1] at kf
        cases bb
        all_goals
          (conv => whnf); (repeat' (first | (refine bT ?_; conv => whnf) | (refine bF ?_; conv => whnf) | (refine bN ?_) | (refine bD (fun hh => ?_) (fun hh => ?_) <;> first | (exfalso; omega) | (conv => whnf)) | (refine bEq (fun hh => ?_) (fun hh => ?_) <;> first | (exfalso; omega) | (conv => whnf)) | (refine bNe (fun hh => ?_) (fun hh => ?_) <;> first | (exfalso; omega) | (conv => whnf)) | (refine (kc).callq rfl rfl (fun r (hr : r = _) => ?_); subst hr; conv => whnf) | (refine (kbn).callq rfl rfl (fun r (hr : r = _) => ?_); subst hr; conv => whnf) | (refine (kop).callq rfl rfl (fun r (hr : r = _) => ?_); subst hr; conv => whnf) | (refine (ktu).callq rfl rfl (fun r (hr : r = _) => ?_); subst hr; conv => whnf) | (refine (kcl).callq rfl rfl (fun r (hr : r = _) => ?_); subst hr; conv => whnf) | (refine (kd).callq rfl rfl (fun r (hr : r = _) => ?_); subst hr; conv => whnf) | (refine wIn (by omega) ?_; conv => whnf) | (refine nI (by omega) ?_; conv => whnf)))
          refine iaI (by omega) (by omega) hgp ?_
          (conv => whnf); (repeat' (first | (refine bT ?_; conv => whnf) | (refine bF ?_; conv => whnf) | (refine bN ?_) | (refine bD (fun hh => ?_) (fun hh => ?_) <;> first | (exfalso; omega) | (conv => whnf)) | (refine bEq (fun hh => ?_) (fun hh => ?_) <;> first | (exfalso; omega) | (conv => whnf)) | (refine bNe (fun hh => ?_) (fun hh => ?_) <;> first | (exfalso; omega) | (conv => whnf)) | (refine (kq).callq rfl rfl (fun r (hr : r = _) => ?_); subst hr; conv => whnf) | (refine wIn (by omega) ?_; conv => whnf) | (refine nI (by omega) ?_; conv => whnf)))
          refine iaI (by omega) (by omega) hgp ?_
          (conv => whnf); (repeat' (first | (refine bT ?_; conv => whnf) | (refine bF ?_; conv => whnf) | (refine bN ?_) | (refine bD (fun hh => ?_) (fun hh => ?_) <;> first | (exfalso; omega) | (conv => whnf)) | (refine bEq (fun hh => ?_) (fun hh => ?_) <;> first | (exfalso; omega) | (conv => whnf)) | (refine bNe (fun hh => ?_) (fun hh => ?_) <;> first | (exfalso; omega) | (conv => whnf)) | (refine (kb).callq rfl rfl (fun r (hr : r = _) => ?_); subst hr; conv => whnf) | (refine (a1').callq rfl rfl (fun r (hr : r = _) => ?_); subst hr; conv => whnf) | (refine (a2).callq rfl rfl (fun r (hr : r = _) => ?_); subst hr; conv => whnf) | (refine wIn (by omega) ?_; conv => whnf) | (refine nI (by omega) ?_; conv => whnf)))
          refine iaI (by omega) (by omega) hgp ?_
          (conv => whnf); (repeat' (first | (refine bT ?_; conv => whnf) | (refine bF ?_; conv => whnf) | (refine bN ?_) | (refine bD (fun hh => ?_) (fun hh => ?_) <;> first | (exfalso; omega) | (conv => whnf)) | (refine bEq (fun hh => ?_) (fun hh => ?_) <;> first | (exfalso; omega) | (conv => whnf)) | (refine bNe (fun hh => ?_) (fun hh => ?_) <;> first | (exfalso; omega) | (conv => whnf)) | (refine (kt).callq rfl rfl (fun r (hr : r = _) => ?_); subst hr; conv => whnf) | (refine (a3').callq rfl rfl (fun r (hr : r = _) => ?_); subst hr; conv => whnf) | (refine (a4).callq rfl rfl (fun r (hr : r = _) => ?_); subst hr; conv => whnf) | (refine (kf).callq rfl rfl (fun r (hr : r = _) => ?_); subst hr; conv => whnf) | (refine (hw).callq rfl rfl (fun r (hr : r = _) => ?_); subst hr; conv => whnf) | (refine wIn (by omega) ?_; conv => whnf) | (refine nI (by omega) ?_; conv => whnf)))
        all_goals exact absurd (h2 rfl) hh
      · rw [h1] at kf
        subst h2
        (conv => whnf); (repeat' (first | (refine bT ?_; conv => whnf) | (refine bF ?_; conv => whnf) | (refine bN ?_) | (refine bD (fun hh => ?_) (fun hh => ?_) <;> first | (exfalso; omega) | (conv => whnf)) | (refine bEq (fun hh => ?_) (fun hh => ?_) <;> first | (exfalso; omega) | (conv => whnf)) | (refine bNe (fun hh => ?_) (fun hh => ?_) <;> first | (exfalso; omega) | (conv => whnf)) | (refine (kc).callq rfl rfl (fun r (hr : r = _) => ?_); subst hr; conv => whnf) | (refine (kbn).callq rfl rfl (fun r (hr : r = _) => ?_); subst hr; conv => whnf) | (refine (kop).callq rfl rfl (fun r (hr : r = _) => ?_); subst hr; conv => whnf) | (refine (ktu).callq rfl rfl (fun r (hr : r = _) => ?_); subst hr; conv => whnf) | (refine (kcl).callq rfl rfl (fun r (hr : r = _) => ?_); subst hr; conv => whnf) | (refine (kd).callq rfl rfl (fun r (hr : r = _) => ?_); subst hr; conv => whnf) | (refine wIn (by omega) ?_; conv => whnf) | (refine nI (by omega) ?_; conv => whnf)))
        refine iaI (by omega) (by omega) hgp ?_
        (conv => whnf); (repeat' (first | (refine bT ?_; conv => whnf) | (refine bF ?_; conv => whnf) | (refine bN ?_) | (refine bD (fun hh => ?_) (fun hh => ?_) <;> first | (exfalso; omega) | (conv => whnf)) | (refine bEq (fun hh => ?_) (fun hh => ?_) <;> first | (exfalso; omega) | (conv => whnf)) | (refine bNe (fun hh => ?_) (fun hh => ?_) <;> first | (exfalso; omega) | (conv => whnf)) | (refine (kq).callq rfl rfl (fun r (hr : r = _) => ?_); subst hr; conv => whnf) | (refine wIn (by omega) ?_; conv => whnf) | (refine nI (by omega) ?_; conv => whnf)))
        refine iaI (by omega) (by omega) hgp ?_
        (conv => whnf); (repeat' (first | (refine bT ?_; conv => whnf) | (refine bF ?_; conv => whnf) | (refine bN ?_) | (refine bD (fun hh => ?_) (fun hh => ?_) <;> first | (exfalso; omega) | (conv => whnf)) | (refine bEq (fun hh => ?_) (fun hh => ?_) <;> first | (exfalso; omega) | (conv => whnf)) | (refine bNe (fun hh => ?_) (fun hh => ?_) <;> first | (exfalso; omega) | (conv => whnf)) | (refine (kb).callq rfl rfl (fun r (hr : r = _) => ?_); subst hr; conv => whnf) | (refine (a1').callq rfl rfl (fun r (hr : r = _) => ?_); subst hr; conv => whnf) | (refine (a2).callq rfl rfl (fun r (hr : r = _) => ?_); subst hr; conv => whnf) | (refine wIn (by omega) ?_; conv => whnf) | (refine nI (by omega) ?_; conv => whnf)))
        refine iaI (by omega) (by omega) hgp ?_
        (conv => whnf); (repeat' (first | (refine bT ?_; conv => whnf) | (refine bF ?_; conv => whnf) | (refine bN ?_) | (refine bD (fun hh => ?_) (fun hh => ?_) <;> first | (exfalso; omega) | (conv => whnf)) | (refine bEq (fun hh => ?_) (fun hh => ?_) <;> first | (exfalso; omega) | (conv => whnf)) | (refine bNe (fun hh => ?_) (fun hh => ?_) <;> first | (exfalso; omega) | (conv => whnf)) | (refine (kt).callq rfl rfl (fun r (hr : r = _) => ?_); subst hr; conv => whnf) | (refine (a3').callq rfl rfl (fun r (hr : r = _) => ?_); subst hr; conv => whnf) | (refine (a4).callq rfl rfl (fun r (hr : r = _) => ?_); subst hr; conv => whnf) | (refine (kf).callq rfl rfl (fun r (hr : r = _) => ?_); subst hr; conv => whnf) | (refine (hw).callq rfl rfl (fun r (hr : r = _) => ?_); subst hr; conv => whnf) | (refine wIn (by omega) ?_; conv => whnf) | (refine nI (by omega) ?_; conv => whnf)))
    · rw [if_neg hz] at kc
      have hd1 : 1 ≤ f.dist j r ∧ f.dist j r ≤ 6000 := by omega
      have kq := k38 (f.dist j r) q.1 q.2 hd1 hsb.1 hsb.2
      have ce := cosF_ends hs hd1 hqj
      have cb := cosF_bd hs hd1
      have cq : bdF (cosQ (f.dist j r) q) := cos_rbd hs hd1 hqj
      have l1 := k40r cq cb.1 ce.1
      have l2 := k40r cb.2 cq ce.2
      have f1 := k39r (x := (cosF (f.sec j) (f.dist j r)).1) cb.1
      have f2 := k39r (x := (cosF (f.sec j) (f.dist j r)).2) cb.2
      clear ce cb cq
      rcases hfin with ⟨X, Y, h1, h2⟩ | ⟨h1, h2⟩
      · rw [h1] at kf
        cases bb
        all_goals
          (conv => whnf); (repeat' (first | (refine bT ?_; conv => whnf) | (refine bF ?_; conv => whnf) | (refine bN ?_) | (refine bD (fun hh => ?_) (fun hh => ?_) <;> first | (exfalso; omega) | (conv => whnf)) | (refine bEq (fun hh => ?_) (fun hh => ?_) <;> first | (exfalso; omega) | (conv => whnf)) | (refine bNe (fun hh => ?_) (fun hh => ?_) <;> first | (exfalso; omega) | (conv => whnf)) | (refine (kc).callq rfl rfl (fun r (hr : r = _) => ?_); subst hr; conv => whnf) | (refine (kbn).callq rfl rfl (fun r (hr : r = _) => ?_); subst hr; conv => whnf) | (refine (kop).callq rfl rfl (fun r (hr : r = _) => ?_); subst hr; conv => whnf) | (refine (ktu).callq rfl rfl (fun r (hr : r = _) => ?_); subst hr; conv => whnf) | (refine (kcl).callq rfl rfl (fun r (hr : r = _) => ?_); subst hr; conv => whnf) | (refine (kd).callq rfl rfl (fun r (hr : r = _) => ?_); subst hr; conv => whnf) | (refine wIn (by omega) ?_; conv => whnf) | (refine nI (by omega) ?_; conv => whnf)))
          refine iaI (by omega) (by omega) hgp ?_
          (conv => whnf); (repeat' (first | (refine bT ?_; conv => whnf) | (refine bF ?_; conv => whnf) | (refine bN ?_) | (refine bD (fun hh => ?_) (fun hh => ?_) <;> first | (exfalso; omega) | (conv => whnf)) | (refine bEq (fun hh => ?_) (fun hh => ?_) <;> first | (exfalso; omega) | (conv => whnf)) | (refine bNe (fun hh => ?_) (fun hh => ?_) <;> first | (exfalso; omega) | (conv => whnf)) | (refine (kq).callq rfl rfl (fun r (hr : r = _) => ?_); subst hr; conv => whnf) | (refine (f1).callq rfl rfl (fun r (hr : r = _) => ?_); subst hr; conv => whnf) | (refine (f2).callq rfl rfl (fun r (hr : r = _) => ?_); subst hr; conv => whnf) | (refine (l1).callq rfl rfl (fun r (hr : r = _) => ?_); subst hr; conv => whnf) | (refine (l2).callq rfl rfl (fun r (hr : r = _) => ?_); subst hr; conv => whnf) | (refine wIn (by omega) ?_; conv => whnf) | (refine nI (by omega) ?_; conv => whnf)))
          refine iaI (by omega) (by omega) hgp ?_
          (conv => whnf); (repeat' (first | (refine bT ?_; conv => whnf) | (refine bF ?_; conv => whnf) | (refine bN ?_) | (refine bD (fun hh => ?_) (fun hh => ?_) <;> first | (exfalso; omega) | (conv => whnf)) | (refine bEq (fun hh => ?_) (fun hh => ?_) <;> first | (exfalso; omega) | (conv => whnf)) | (refine bNe (fun hh => ?_) (fun hh => ?_) <;> first | (exfalso; omega) | (conv => whnf)) | (refine (kb).callq rfl rfl (fun r (hr : r = _) => ?_); subst hr; conv => whnf) | (refine (a1').callq rfl rfl (fun r (hr : r = _) => ?_); subst hr; conv => whnf) | (refine (a2).callq rfl rfl (fun r (hr : r = _) => ?_); subst hr; conv => whnf) | (refine wIn (by omega) ?_; conv => whnf) | (refine nI (by omega) ?_; conv => whnf)))
          refine iaI (by omega) (by omega) hgp ?_
          (conv => whnf); (repeat' (first | (refine bT ?_; conv => whnf) | (refine bF ?_; conv => whnf) | (refine bN ?_) | (refine bD (fun hh => ?_) (fun hh => ?_) <;> first | (exfalso; omega) | (conv => whnf)) | (refine bEq (fun hh => ?_) (fun hh => ?_) <;> first | (exfalso; omega) | (conv => whnf)) | (refine bNe (fun hh => ?_) (fun hh => ?_) <;> first | (exfalso; omega) | (conv => whnf)) | (refine (kt).callq rfl rfl (fun r (hr : r = _) => ?_); subst hr; conv => whnf) | (refine (a3').callq rfl rfl (fun r (hr : r = _) => ?_); subst hr; conv => whnf) | (refine (a4).callq rfl rfl (fun r (hr : r = _) => ?_); subst hr; conv => whnf) | (refine (kf).callq rfl rfl (fun r (hr : r = _) => ?_); subst hr; conv => whnf) | (refine (hw).callq rfl rfl (fun r (hr : r = _) => ?_); subst hr; conv => whnf) | (refine wIn (by omega) ?_; conv => whnf) | (refine nI (by omega) ?_; conv => whnf)))
        all_goals exact absurd (h2 rfl) hh
      · rw [h1] at kf
        subst h2
        (conv => whnf); (repeat' (first | (refine bT ?_; conv => whnf) | (refine bF ?_; conv => whnf) | (refine bN ?_) | (refine bD (fun hh => ?_) (fun hh => ?_) <;> first | (exfalso; omega) | (conv => whnf)) | (refine bEq (fun hh => ?_) (fun hh => ?_) <;> first | (exfalso; omega) | (conv => whnf)) | (refine bNe (fun hh => ?_) (fun hh => ?_) <;> first | (exfalso; omega) | (conv => whnf)) | (refine (kc).callq rfl rfl (fun r (hr : r = _) => ?_); subst hr; conv => whnf) | (refine (kbn).callq rfl rfl (fun r (hr : r = _) => ?_); subst hr; conv => whnf) | (refine (kop).callq rfl rfl (fun r (hr : r = _) => ?_); subst hr; conv => whnf) | (refine (ktu).callq rfl rfl (fun r (hr : r = _) => ?_); subst hr; conv => whnf) | (refine (kcl).callq rfl rfl (fun r (hr : r = _) => ?_); subst hr; conv => whnf) | (refine (kd).callq rfl rfl (fun r (hr : r = _) => ?_); subst hr; conv => whnf) | (refine wIn (by omega) ?_; conv => whnf) | (refine nI (by omega) ?_; conv => whnf)))
        refine iaI (by omega) (by omega) hgp ?_
        (conv => whnf); (repeat' (first | (refine bT ?_; conv => whnf) | (refine bF ?_; conv => whnf) | (refine bN ?_) | (refine bD (fun hh => ?_) (fun hh => ?_) <;> first | (exfalso; omega) | (conv => whnf)) | (refine bEq (fun hh => ?_) (fun hh => ?_) <;> first | (exfalso; omega) | (conv => whnf)) | (refine bNe (fun hh => ?_) (fun hh => ?_) <;> first | (exfalso; omega) | (conv => whnf)) | (refine (kq).callq rfl rfl (fun r (hr : r = _) => ?_); subst hr; conv => whnf) | (refine (f1).callq rfl rfl (fun r (hr : r = _) => ?_); subst hr; conv => whnf) | (refine (f2).callq rfl rfl (fun r (hr : r = _) => ?_); subst hr; conv => whnf) | (refine (l1).callq rfl rfl (fun r (hr : r = _) => ?_); subst hr; conv => whnf) | (refine (l2).callq rfl rfl (fun r (hr : r = _) => ?_); subst hr; conv => whnf) | (refine wIn (by omega) ?_; conv => whnf) | (refine nI (by omega) ?_; conv => whnf)))
        refine iaI (by omega) (by omega) hgp ?_
        (conv => whnf); (repeat' (first | (refine bT ?_; conv => whnf) | (refine bF ?_; conv => whnf) | (refine bN ?_) | (refine bD (fun hh => ?_) (fun hh => ?_) <;> first | (exfalso; omega) | (conv => whnf)) | (refine bEq (fun hh => ?_) (fun hh => ?_) <;> first | (exfalso; omega) | (conv => whnf)) | (refine bNe (fun hh => ?_) (fun hh => ?_) <;> first | (exfalso; omega) | (conv => whnf)) | (refine (kb).callq rfl rfl (fun r (hr : r = _) => ?_); subst hr; conv => whnf) | (refine (a1').callq rfl rfl (fun r (hr : r = _) => ?_); subst hr; conv => whnf) | (refine (a2).callq rfl rfl (fun r (hr : r = _) => ?_); subst hr; conv => whnf) | (refine wIn (by omega) ?_; conv => whnf) | (refine nI (by omega) ?_; conv => whnf)))
        refine iaI (by omega) (by omega) hgp ?_
        (conv => whnf); (repeat' (first | (refine bT ?_; conv => whnf) | (refine bF ?_; conv => whnf) | (refine bN ?_) | (refine bD (fun hh => ?_) (fun hh => ?_) <;> first | (exfalso; omega) | (conv => whnf)) | (refine bEq (fun hh => ?_) (fun hh => ?_) <;> first | (exfalso; omega) | (conv => whnf)) | (refine bNe (fun hh => ?_) (fun hh => ?_) <;> first | (exfalso; omega) | (conv => whnf)) | (refine (kt).callq rfl rfl (fun r (hr : r = _) => ?_); subst hr; conv => whnf) | (refine (a3').callq rfl rfl (fun r (hr : r = _) => ?_); subst hr; conv => whnf) | (refine (a4).callq rfl rfl (fun r (hr : r = _) => ?_); subst hr; conv => whnf) | (refine (kf).callq rfl rfl (fun r (hr : r = _) => ?_); subst hr; conv => whnf) | (refine (hw).callq rfl rfl (fun r (hr : r = _) => ?_); subst hr; conv => whnf) | (refine wIn (by omega) ?_; conv => whnf) | (refine nI (by omega) ?_; conv => whnf)))

theorem cnt_n {s : Sec} (h : s.ok) (P : Int → Int → Bool) : (knw s P = 1 ↔ cnt s P s.n = (s.n : Int)) ∧ (knw s P = 2 ↔ cnt s P s.n = 0) := by
  have hc := cnt_knw h P
  have hn := n_bd h
  rw [← hc]
  constructor
  · constructor
    · intro h1; split at h1
      · assumption
      · split at h1 <;> omega
    · intro h1; rw [if_pos h1]
  · constructor
    · intro h1; split at h1
      · omega
      · split at h1
        · assumption
        · omega
    · intro h1; rw [if_neg (by omega), if_pos h1]
theorem beq_dec (a b c d : Int) (h : a = b ↔ c = d) : (a == b) = (c == d) := by
  show decide (a = b) = decide (c = d)
  exact decide_eq_decide.2 h
def eq2 (d : Int) (q p : Int × Int) : Bool := redN (cosN d q.1 q.2) (cosD d q.1) == redN (cosN d p.1 p.2) (cosD d p.1) && (redD (cosN d q.1 q.2) (cosD d q.1) == redD (cosN d p.1 p.2) (cosD d p.1) && true)
theorem eq2_self (d : Int) (q : Int × Int) : eq2 d q q = true := by simp [eq2]
set_option maxHeartbeats 8000000 in
theorem k6 (f : Frm) (i r : Int) (hw : FnA Try.prog 12 [] (· = .bool true)) : FnA Try.prog 6 [.agg f.cells, .agg [.int .i64 i, .int .i64 r]] (· = .bool true) := by
  have hL : (f.ss.map Sec.av).length = f.ss.length := by simp
  refine fnA 6 ok6 (by simp) ?_
  have kr := k34 f
  cases hr : f.rdy
  · rw [hr] at kr
    (conv => whnf); (repeat' (first | (refine bT ?_; conv => whnf) | (refine bF ?_; conv => whnf) | (refine bN ?_) | (refine bD (fun hh => ?_) (fun hh => ?_) <;> first | (exfalso; omega) | (conv => whnf)) | (refine bEq (fun hh => ?_) (fun hh => ?_) <;> first | (exfalso; omega) | (conv => whnf)) | (refine bNe (fun hh => ?_) (fun hh => ?_) <;> first | (exfalso; omega) | (conv => whnf)) | (refine (kr).callq rfl rfl (fun r (hr : r = _) => ?_); subst hr; conv => whnf) | (refine (hw).callq rfl rfl (fun r (hr : r = _) => ?_); subst hr; conv => whnf) | (refine wIn (by omega) ?_; conv => whnf) | (refine nI (by omega) ?_; conv => whnf)))
    all_goals rfl
  rw [hr] at kr
  obtain ⟨hok, hfar⟩ := rdy_ok hr
  have hn := hok.2.1
  have ka := k35 f i r (by omega)
  cases ha : f.ask i r
  · rw [ha] at ka
    (conv => whnf); (repeat' (first | (refine bT ?_; conv => whnf) | (refine bF ?_; conv => whnf) | (refine bN ?_) | (refine bD (fun hh => ?_) (fun hh => ?_) <;> first | (exfalso; omega) | (conv => whnf)) | (refine bEq (fun hh => ?_) (fun hh => ?_) <;> first | (exfalso; omega) | (conv => whnf)) | (refine bNe (fun hh => ?_) (fun hh => ?_) <;> first | (exfalso; omega) | (conv => whnf)) | (refine (kr).callq rfl rfl (fun r (hr : r = _) => ?_); subst hr; conv => whnf) | (refine (ka).callq rfl rfl (fun r (hr : r = _) => ?_); subst hr; conv => whnf) | (refine (hw).callq rfl rfl (fun r (hr : r = _) => ?_); subst hr; conv => whnf) | (refine wIn (by omega) ?_; conv => whnf) | (refine nI (by omega) ?_; conv => whnf)))
    all_goals rfl
  rw [ha] at ka
  unfold Frm.ask at ha
  obtain ⟨⟨hi0, hi1⟩, hr0, hr1⟩ := of_decide_eq_true ha
  obtain ⟨j, rfl⟩ := Int.eq_ofNat_of_zero_le hi0
  have hj : j < f.ss.length := by omega
  have hpos : f.pos (j : Nat) r = 0 := pos_zero hok (by omega) ⟨hr0, hr1⟩
  have hr2 := hok.2.2.2.1
  unfold okSpan at hr2
  have hd := Frm.dist_bd hok j (show 0 ≤ r by omega) (by omega)
  have kc := k18 f j r hpos
  have e0 : f.ss.getD j default = f.sec j := rfl
  rw [e0] at kc
  have kd := k16 f j r hpos
  have kb := k20 f j r hpos
  have kp := k44 f j hok hj
  have kf := k23 f hok
  have hs := Frm.sec_ok hok hj
  have hsn := n_bd hs
  have hl := sides_rows (f.sec j)
  have hcn : (f.bnd j r = 1 ↔ _) ∧ (f.bnd j r = 2 ↔ _) := cnt_n hs (fun a t => f.bindsF j a t r)
  have hcb := cnt_bd (f.sec j) (fun a t => f.bindsF j a t r)
  have hM := bnd_123 f j r
  have hB1 : (f.bnd j r == 1) = (cnt (f.sec j) (fun a t => f.bindsF j a t r) (f.sec j).n == (((f.sec j).sides.map pairAV).length : Int)) := beq_dec _ _ _ _ (by rw [hl]; exact hcn.1)
  have hB2 : (f.bnd j r == 2) = (cnt (f.sec j) (fun a t => f.bindsF j a t r) (f.sec j).n == 0) := beq_dec _ _ _ _ hcn.2
  have hfin : (f.firstAV = .tup [.int .i64 0, .int .i64 0, .int .i64 3] ∧ f.bnd j r = 2) ∨ ∃ a : Nat, ∃ b : Int, f.firstAV = .tup [.int .i64 a, .int .i64 b, .int .i64 0] ∧ f.pos a b = 0 ∧ f.bnd a b ≠ 2 ∧ (f.bnd j r ≠ 2 → r < b ∨ r = b ∧ a ≤ j) := by
    rcases first_case f with ⟨h1, h2⟩ | ⟨a, b, h1, h2⟩
    · exact .inl ⟨h2, first_none.1 h1 r (mem_poss.2 ⟨hr0, hr1⟩) j hj⟩
    · obtain ⟨g1, g2, g3, g4, g5⟩ := first_some h1
      refine .inr ⟨a, b, h2, pos_zero hok (by omega) g1, g3, fun h => ?_⟩
      by_cases hlt : r < b
      · exact .inl hlt
      · by_cases heq : r = b
        · subst heq
          refine .inr ⟨rfl, ?_⟩
          by_cases hja : j < a
          · exact absurd (g4 j hja) h
          · omega
        · exact absurd (g5 r (by omega) hr1 j hj) h
  by_cases hz : f.dist j r = 0
  · rw [if_pos hz] at kc
    rw [hz] at kd
    (conv => whnf); (repeat' (first | (refine bT ?_; conv => whnf) | (refine bF ?_; conv => whnf) | (refine bN ?_) | (refine bD (fun hh => ?_) (fun hh => ?_) <;> first | (exfalso; omega) | (conv => whnf)) | (refine bEq (fun hh => ?_) (fun hh => ?_) <;> first | (exfalso; omega) | (conv => whnf)) | (refine bNe (fun hh => ?_) (fun hh => ?_) <;> first | (exfalso; omega) | (conv => whnf)) | (refine (kr).callq rfl rfl (fun r (hr : r = _) => ?_); subst hr; conv => whnf) | (refine (ka).callq rfl rfl (fun r (hr : r = _) => ?_); subst hr; conv => whnf) | (refine (kc).callq rfl rfl (fun r (hr : r = _) => ?_); subst hr; conv => whnf) | (refine (kb).callq rfl rfl (fun r (hr : r = _) => ?_); subst hr; conv => whnf) | (refine (kd).callq rfl rfl (fun r (hr : r = _) => ?_); subst hr; conv => whnf) | (refine (kp).callzq rfl rfl (fun r (hr : r = _) => ?_); subst hr; conv => whnf) | (refine wIn (by omega) ?_; conv => whnf) | (refine nI (by omega) ?_; conv => whnf)))
    refine loop_i (α := Nat) (fun x => [(16, .int .i64 x), (15, .int .i64 (cnt (f.sec j) (fun a t => f.bindsF j a t r) x)), (14, .bool true), (13, .bool true), (12, .isl ((f.sec j).sides.map pairAV)), (10, .int .i64 0), (8, .int .i64 (f.bnd j r)), (5, .own 2 0), (6, .own 3 0), (2, .own 0 0), (3, .own 1 0)])
      (fun x => [.box false f.cells, .box false [.int .i64 j, .int .i64 r], .box false [.int .i64 0, .int .i64 0], .box false [.int .i64 0, .int .i64 0], .fresh, .fresh])
      (fun x => x ≤ (f.sec j).n) (fun x => (f.sec j).n - x) 0 ?_ (by omega) ?_
    · rw [cnt_zero]; exact (meets_id (by (repeat' apply And.intro) <;> first | rfl | trivial | (intro hh; cases hh)))
    intro k hk
    conv => whnf
    refine bD (fun h7 => ?_) (fun h7 => ?_)
    · obtain ⟨q, hq, hg⟩ := side_get (f.sec j) (k := k) (by omega)
      have hm := side_b hs (List.mem_of_getElem? hq)
      have hcs := cnt_succ (P := fun a t => f.bindsF j a t r) hq
      have hck := hcb k
      (conv => whnf); (repeat' (first | (refine bT ?_; conv => whnf) | (refine bF ?_; conv => whnf) | (refine bN ?_) | (refine bD (fun hh => ?_) (fun hh => ?_) <;> first | (exfalso; omega) | (conv => whnf)) | (refine bEq (fun hh => ?_) (fun hh => ?_) <;> first | (exfalso; omega) | (conv => whnf)) | (refine bNe (fun hh => ?_) (fun hh => ?_) <;> first | (exfalso; omega) | (conv => whnf)) | (refine wIn (by omega) ?_; conv => whnf) | (refine nI (by omega) ?_; conv => whnf)))
      refine iaI (by omega) (by omega) hg ?_
      (conv => whnf); (repeat' (first | (refine bT ?_; conv => whnf) | (refine bF ?_; conv => whnf) | (refine bN ?_) | (refine bD (fun hh => ?_) (fun hh => ?_) <;> first | (exfalso; omega) | (conv => whnf)) | (refine bEq (fun hh => ?_) (fun hh => ?_) <;> first | (exfalso; omega) | (conv => whnf)) | (refine bNe (fun hh => ?_) (fun hh => ?_) <;> first | (exfalso; omega) | (conv => whnf)) | (refine (k38z q.1 q.2).callq rfl rfl (fun r (hr : r = _) => ?_); subst hr; conv => whnf) | (refine wIn (by omega) ?_; conv => whnf) | (refine nI (by omega) ?_; conv => whnf)))
      refine iaI (by omega) (by omega) hg ?_
      (conv => whnf); (repeat' (first | (refine bT ?_; conv => whnf) | (refine bF ?_; conv => whnf) | (refine bN ?_) | (refine bD (fun hh => ?_) (fun hh => ?_) <;> first | (exfalso; omega) | (conv => whnf)) | (refine bEq (fun hh => ?_) (fun hh => ?_) <;> first | (exfalso; omega) | (conv => whnf)) | (refine bNe (fun hh => ?_) (fun hh => ?_) <;> first | (exfalso; omega) | (conv => whnf)) | (refine (k41 f j r q.1 q.2 hok hj (by omega) (by omega) hm.1 hm.2).callq rfl rfl (fun r (hr : r = _) => ?_); subst hr; conv => whnf) | (refine wIn (by omega) ?_; conv => whnf) | (refine nI (by omega) ?_; conv => whnf) | (refine bS (fun hh => ?_) (fun hh => ?_) <;> (conv => whnf))))
      · rw [if_pos hh] at hcs
        refine ⟨k + 1, ?_, by omega, by omega⟩
        rw [hcs]; exact (meets_id (by (repeat' apply And.intro) <;> first | rfl | trivial | (intro hh; cases hh)))
      · rw [if_neg (by simp [hh])] at hcs
        refine ⟨k + 1, ?_, by omega, by omega⟩
        rw [hcs]; exact (meets_id (by (repeat' apply And.intro) <;> first | rfl | trivial | (intro hh; cases hh)))
    · have : k = (f.sec j).n := by omega
      subst this
      have hck := hcb (f.sec j).n
      rcases hfin with ⟨h1, h2⟩ | ⟨a, b, h1, h2, h3, h4⟩
      · rw [h1] at kf
        (conv => whnf); (repeat' (first | (refine bT ?_; conv => whnf) | (refine bF ?_; conv => whnf) | (refine bN ?_) | (refine bD (fun hh => ?_) (fun hh => ?_) <;> first | (exfalso; omega) | (conv => whnf)) | (refine bEq (fun hh => ?_) (fun hh => ?_) <;> first | (exfalso; omega) | (conv => whnf)) | (refine bNe (fun hh => ?_) (fun hh => ?_) <;> first | (exfalso; omega) | (conv => whnf)) | (refine (kf).callq rfl rfl (fun r (hr : r = _) => ?_); subst hr; conv => whnf) | (refine (hw).callq rfl rfl (fun r (hr : r = _) => ?_); subst hr; conv => whnf) | (refine wIn (by omega) ?_; conv => whnf) | (refine nI (by omega) ?_; conv => whnf)))
        all_goals first | rfl | exact absurd hB1 hh | exact absurd hB2 hh
      · rw [h1] at kf
        have kb0 := k20 f a b h2
        (conv => whnf); (repeat' (first | (refine bT ?_; conv => whnf) | (refine bF ?_; conv => whnf) | (refine bN ?_) | (refine bD (fun hh => ?_) (fun hh => ?_) <;> first | (exfalso; omega) | (conv => whnf)) | (refine bEq (fun hh => ?_) (fun hh => ?_) <;> first | (exfalso; omega) | (conv => whnf)) | (refine bNe (fun hh => ?_) (fun hh => ?_) <;> first | (exfalso; omega) | (conv => whnf)) | (refine (kf).callq rfl rfl (fun r (hr : r = _) => ?_); subst hr; conv => whnf) | (refine (kb0).callq rfl rfl (fun r (hr : r = _) => ?_); subst hr; conv => whnf) | (refine (hw).callq rfl rfl (fun r (hr : r = _) => ?_); subst hr; conv => whnf) | (refine wIn (by omega) ?_; conv => whnf) | (refine nI (by omega) ?_; conv => whnf)))
        all_goals first | rfl | exact absurd hB1 hh | exact absurd hB2 hh
  · rw [if_neg hz] at kc
    have hd1 : 1 ≤ f.dist j r ∧ f.dist j r ≤ 6000 := by omega
    obtain ⟨⟨qa, hqa, hea⟩, ⟨qb, hqb, heb⟩⟩ := cosF_mem (f.sec j) (f.dist j r) (fst_side hs)
    have hLo : fr (cosF (f.sec j) (f.dist j r)).1 = fr (cosQ (f.dist j r) qa) := by rw [hea]; rfl
    have hHi : fr (cosF (f.sec j) (f.dist j r)).2 = fr (cosQ (f.dist j r) qb) := by rw [heb]; rfl
    rw [hLo, hHi] at kc
    clear hLo hHi hea heb
    generalize hD : f.dist j r = d at *
    (conv => whnf); (repeat' (first | (refine bT ?_; conv => whnf) | (refine bF ?_; conv => whnf) | (refine bN ?_) | (refine bD (fun hh => ?_) (fun hh => ?_) <;> first | (exfalso; omega) | (conv => whnf)) | (refine bEq (fun hh => ?_) (fun hh => ?_) <;> first | (exfalso; omega) | (conv => whnf)) | (refine bNe (fun hh => ?_) (fun hh => ?_) <;> first | (exfalso; omega) | (conv => whnf)) | (refine (kr).callq rfl rfl (fun r (hr : r = _) => ?_); subst hr; conv => whnf) | (refine (ka).callq rfl rfl (fun r (hr : r = _) => ?_); subst hr; conv => whnf) | (refine (kc).callq rfl rfl (fun r (hr : r = _) => ?_); subst hr; conv => whnf) | (refine (kb).callq rfl rfl (fun r (hr : r = _) => ?_); subst hr; conv => whnf) | (refine (kd).callq rfl rfl (fun r (hr : r = _) => ?_); subst hr; conv => whnf) | (refine (kp).callzq rfl rfl (fun r (hr : r = _) => ?_); subst hr; conv => whnf) | (refine wIn (by omega) ?_; conv => whnf) | (refine nI (by omega) ?_; conv => whnf)))
    case' neg.refine_2 => exact absurd (beq_dec 0 3 d 0 (by omega)) hh
    refine loop_i (α := Nat × Bool × Bool) (fun x => [(16, .int .i64 x.1), (15, .int .i64 (cnt (f.sec j) (fun a t => f.bindsF j a t r) x.1)), (14, .bool x.2.2), (13, .bool x.2.1), (12, .isl ((f.sec j).sides.map pairAV)), (10, .int .i64 d), (8, .int .i64 (f.bnd j r)), (5, .own 2 0), (6, .own 3 0), (2, .own 0 0), (3, .own 1 0)])
      (fun x => [.box false f.cells, .box false [.int .i64 j, .int .i64 r], .box false [.int .i64 (redN (cosN d qa.1 qa.2) (cosD d qa.1)), .int .i64 (redD (cosN d qa.1 qa.2) (cosD d qa.1))], .box false [.int .i64 (redN (cosN d qb.1 qb.2) (cosD d qb.1)), .int .i64 (redD (cosN d qb.1 qb.2) (cosD d qb.1))], .fresh, .fresh])
      (fun x => x.1 ≤ (f.sec j).n ∧ (qa ∈ (f.sec j).sides.take x.1 → x.2.1 = true) ∧ (qb ∈ (f.sec j).sides.take x.1 → x.2.2 = true)) (fun x => (f.sec j).n - x.1) (0, false, false) ?_ ⟨by simp, by simp, by simp⟩ ?_
    · simp only [cnt_zero]; exact (meets_id (by (repeat' apply And.intro) <;> first | rfl | trivial | (intro hh; cases hh)))
    rintro ⟨k, fi, la⟩ ⟨hk, hfi, hla⟩
    simp only at hk hfi hla
    dsimp only
    conv => whnf
    refine bD (fun h7 => ?_) (fun h7 => ?_)
    · obtain ⟨q, hq, hg⟩ := side_get (f.sec j) (k := k) (by omega)
      have hm := side_b hs (List.mem_of_getElem? hq)
      have hcs := cnt_succ (P := fun a t => f.bindsF j a t r) hq
      have hck := hcb k
      have hmem : ∀ p, p ∈ (f.sec j).sides.take (k + 1) → p ∈ (f.sec j).sides.take k ∨ p = q := fun p hp => by
        obtain ⟨hk1, rfl⟩ := List.getElem?_eq_some_iff.1 hq
        rw [List.take_succ_eq_append_getElem hk1, List.mem_append] at hp
        simpa using hp
      have fin : ∀ (fi' la' : Bool), (fi = true → fi' = true) → (la = true → la' = true) → (q = qa → fi' = true) → (q = qb → la' = true) → (qa ∈ (f.sec j).sides.take (k + 1) → fi' = true) ∧ (qb ∈ (f.sec j).sides.take (k + 1) → la' = true) := fun fi' la' g1 g2 g3 g4 =>
        ⟨fun h => (hmem _ h).elim (fun h => g1 (hfi h)) (fun h => g3 h.symm), fun h => (hmem _ h).elim (fun h => g2 (hla h)) (fun h => g4 h.symm)⟩
      clear hmem hfi hla hB1 hB2 hcn hfin
      (conv => whnf); (repeat' (first | (refine bT ?_; conv => whnf) | (refine bF ?_; conv => whnf) | (refine bN ?_) | (refine bD (fun hh => ?_) (fun hh => ?_) <;> first | (exfalso; omega) | (conv => whnf)) | (refine bEq (fun hh => ?_) (fun hh => ?_) <;> first | (exfalso; omega) | (conv => whnf)) | (refine bNe (fun hh => ?_) (fun hh => ?_) <;> first | (exfalso; omega) | (conv => whnf)) | (refine wIn (by omega) ?_; conv => whnf) | (refine nI (by omega) ?_; conv => whnf)))
      refine iaI (by omega) (by omega) hg ?_
      cases fi <;> cases la
      all_goals (conv => whnf); (repeat' (first | (refine bT ?_; conv => whnf) | (refine bF ?_; conv => whnf) | (refine bN ?_) | (refine bD (fun hh => ?_) (fun hh => ?_) <;> first | (exfalso; omega) | (conv => whnf)) | (refine bEq (fun hh => ?_) (fun hh => ?_) <;> first | (exfalso; omega) | (conv => whnf)) | (refine bNe (fun hh => ?_) (fun hh => ?_) <;> first | (exfalso; omega) | (conv => whnf)) | (refine (k38 d q.1 q.2 hd1 hm.1 hm.2).callq rfl rfl (fun r (hr : r = _) => ?_); subst hr; conv => whnf) | (refine wIn (by omega) ?_; conv => whnf) | (refine nI (by omega) ?_; conv => whnf)))
      all_goals
        refine iaI (by omega) (by omega) hg ?_
        (conv => whnf); (repeat' (first | (refine bT ?_; conv => whnf) | (refine bF ?_; conv => whnf) | (refine bN ?_) | (refine bD (fun hh => ?_) (fun hh => ?_) <;> first | (exfalso; omega) | (conv => whnf)) | (refine bEq (fun hh => ?_) (fun hh => ?_) <;> first | (exfalso; omega) | (conv => whnf)) | (refine bNe (fun hh => ?_) (fun hh => ?_) <;> first | (exfalso; omega) | (conv => whnf)) | (refine (k41 f j r q.1 q.2 hok hj (by omega) (by omega) hm.1 hm.2).callq rfl rfl (fun r (hr : r = _) => ?_); subst hr; conv => whnf) | (refine wIn (by omega) ?_; conv => whnf) | (refine nI (by omega) ?_; conv => whnf) | (refine bS (fun hh => ?_) (fun hh => ?_) <;> (conv => whnf))))
      all_goals first
        | rw [if_pos hh] at hcs
        | rw [if_neg (by simp [hh])] at hcs
      · exact ⟨(k + 1, eq2 d q qa, eq2 d q qb), by dsimp only; rw [hcs]; exact (meets_id (by (repeat' apply And.intro) <;> first | rfl | trivial | (intro hh; cases hh))), ⟨by dsimp only; omega, fin _ _ (by simp) (by simp) (fun h => by subst h; exact eq2_self _ _) (fun h => by subst h; exact eq2_self _ _)⟩, by dsimp only; omega⟩
      · exact ⟨(k + 1, eq2 d q qa, eq2 d q qb), by dsimp only; rw [hcs]; exact (meets_id (by (repeat' apply And.intro) <;> first | rfl | trivial | (intro hh; cases hh))), ⟨by dsimp only; omega, fin _ _ (by simp) (by simp) (fun h => by subst h; exact eq2_self _ _) (fun h => by subst h; exact eq2_self _ _)⟩, by dsimp only; omega⟩
      · exact ⟨(k + 1, eq2 d q qa, true), by dsimp only; rw [hcs]; exact (meets_id (by (repeat' apply And.intro) <;> first | rfl | trivial | (intro hh; cases hh))), ⟨by dsimp only; omega, fin _ _ (by simp) (by simp) (fun h => by subst h; exact eq2_self _ _) (fun _ => rfl)⟩, by dsimp only; omega⟩
      · exact ⟨(k + 1, eq2 d q qa, true), by dsimp only; rw [hcs]; exact (meets_id (by (repeat' apply And.intro) <;> first | rfl | trivial | (intro hh; cases hh))), ⟨by dsimp only; omega, fin _ _ (by simp) (by simp) (fun h => by subst h; exact eq2_self _ _) (fun _ => rfl)⟩, by dsimp only; omega⟩
      · exact ⟨(k + 1, true, eq2 d q qb), by dsimp only; rw [hcs]; exact (meets_id (by (repeat' apply And.intro) <;> first | rfl | trivial | (intro hh; cases hh))), ⟨by dsimp only; omega, fin _ _ (by simp) (by simp) (fun _ => rfl) (fun h => by subst h; exact eq2_self _ _)⟩, by dsimp only; omega⟩
      · exact ⟨(k + 1, true, eq2 d q qb), by dsimp only; rw [hcs]; exact (meets_id (by (repeat' apply And.intro) <;> first | rfl | trivial | (intro hh; cases hh))), ⟨by dsimp only; omega, fin _ _ (by simp) (by simp) (fun _ => rfl) (fun h => by subst h; exact eq2_self _ _)⟩, by dsimp only; omega⟩
      · exact ⟨(k + 1, true, true), by dsimp only; rw [hcs]; exact (meets_id (by (repeat' apply And.intro) <;> first | rfl | trivial | (intro hh; cases hh))), ⟨by dsimp only; omega, fin _ _ (by simp) (by simp) (fun _ => rfl) (fun _ => rfl)⟩, by dsimp only; omega⟩
      · exact ⟨(k + 1, true, true), by dsimp only; rw [hcs]; exact (meets_id (by (repeat' apply And.intro) <;> first | rfl | trivial | (intro hh; cases hh))), ⟨by dsimp only; omega, fin _ _ (by simp) (by simp) (fun _ => rfl) (fun _ => rfl)⟩, by dsimp only; omega⟩
    · have hk' : k = (f.sec j).n := by omega
      subst hk'
      have e : (f.sec j).sides.take (f.sec j).n = (f.sec j).sides := List.take_of_length_le (by rw [sides_n]; omega)
      rw [e] at hfi hla
      have hfi := hfi hqa
      have hla := hla hqb
      subst hfi hla
      have hck := hcb (f.sec j).n
      rcases hfin with ⟨h1, h2⟩ | ⟨a, b, h1, h2, h3, h4⟩
      · rw [h1] at kf
        (conv => whnf); (repeat' (first | (refine bT ?_; conv => whnf) | (refine bF ?_; conv => whnf) | (refine bN ?_) | (refine bD (fun hh => ?_) (fun hh => ?_) <;> first | (exfalso; omega) | (conv => whnf)) | (refine bEq (fun hh => ?_) (fun hh => ?_) <;> first | (exfalso; omega) | (conv => whnf)) | (refine bNe (fun hh => ?_) (fun hh => ?_) <;> first | (exfalso; omega) | (conv => whnf)) | (refine (kf).callq rfl rfl (fun r (hr : r = _) => ?_); subst hr; conv => whnf) | (refine (hw).callq rfl rfl (fun r (hr : r = _) => ?_); subst hr; conv => whnf) | (refine wIn (by omega) ?_; conv => whnf) | (refine nI (by omega) ?_; conv => whnf)))
        all_goals first | rfl | exact absurd hB1 hh | exact absurd hB2 hh
      · rw [h1] at kf
        have kb0 := k20 f a b h2
        (conv => whnf); (repeat' (first | (refine bT ?_; conv => whnf) | (refine bF ?_; conv => whnf) | (refine bN ?_) | (refine bD (fun hh => ?_) (fun hh => ?_) <;> first | (exfalso; omega) | (conv => whnf)) | (refine bEq (fun hh => ?_) (fun hh => ?_) <;> first | (exfalso; omega) | (conv => whnf)) | (refine bNe (fun hh => ?_) (fun hh => ?_) <;> first | (exfalso; omega) | (conv => whnf)) | (refine (kf).callq rfl rfl (fun r (hr : r = _) => ?_); subst hr; conv => whnf) | (refine (kb0).callq rfl rfl (fun r (hr : r = _) => ?_); subst hr; conv => whnf) | (refine (hw).callq rfl rfl (fun r (hr : r = _) => ?_); subst hr; conv => whnf) | (refine wIn (by omega) ?_; conv => whnf) | (refine nI (by omega) ?_; conv => whnf)))
        all_goals first | rfl | exact absurd hB1 hh | exact absurd hB2 hh
end Go.Proofs
