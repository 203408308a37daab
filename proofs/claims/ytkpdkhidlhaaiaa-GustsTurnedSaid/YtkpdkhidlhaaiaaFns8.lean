/- What each function of this program answers, proved by walking its body: further contracts that the law rests on. -/
import Derived.Test.YtkpdkhidlhaaiaaFns5
set_option linter.unusedSimpArgs false
set_option linter.unusedVariables false
set_option linter.unusedSectionVars false
namespace Go.Proofs
open Go.Eng
attribute [local irreducible] Go.Eng.brB Go.Eng.need Go.Eng.wrE Go.Eng.iaE Go.Eng.slE Go.Eng.apE Go.Eng.CallZ Go.Eng.CallE Go.Eng.VCallE Go.Eng.YldE Go.Eng.GoC Go.Eng.MeetsE Go.Eng.FnA Go.Eng.FnV Go.Eng.ItA
set_option maxRecDepth 100000

theorem ar_ar {n : Nat} (x y : Int) : ar n (ar n x + y) = ar n (x + y) := by unfold ar; rw [Int.emod_add_emod]
theorem ar_ar2 {n : Nat} (x y : Int) : ar n (y + ar n x) = ar n (y + x) := by rw [Int.add_comm, ar_ar, Int.add_comm]
theorem ar_neg {n : Nat} (x y : Int) : ar n (y - ar n x) = ar n (y - x) := by unfold ar; rw [Int.sub_emod, Int.emod_emod, ← Int.sub_emod]
theorem ar_id {n : Nat} {x : Nat} (h : x < n) : ar n x = x := by unfold ar; exact Int.emod_eq_of_lt (by omega) (by omega)
theorem ar_mod {n : Nat} (x : Nat) : (((x % n : Nat)) : Int) = ar n x := by unfold ar; simp
theorem sumr_mod {l : Int → Int} {gs : List Bool} {n : Nat} {i s : Int} : ∀ k j, sumr l gs n (ar n i) s k j = sumr l gs n i s k j
  | 0, _ => rfl
  | k + 1, j => by
    unfold sumr
    rw [ar_ar, sumr_mod k (j + 1)]
/-- one truth is the other one, numbered from another rib on -/
structure Turn (t u : Tr) (g h : Gu) (b : Nat) : Prop where
  n0 : 0 < t.ss.length
  len : u.ss.length = t.ss.length
  ss : ∀ i < t.ss.length, u.ss.getD i 0 = t.ss.getD ((i + b) % t.ss.length) 0
  ld : ∀ i : Int, u.ld h i = t.ld g (ar t.ss.length (i + b))
  ld0 : ∀ i, 0 ≤ t.ld g i
theorem turn_sumr {t u : Tr} {g h : Gu} {b : Nat} (H : Turn t u g h b) {gs gs' : List Bool} (hg : ∀ i < t.ss.length, gs'.getD i false = gs.getD ((i + b) % t.ss.length) false) (i s : Int) : ∀ k j, sumr (u.ld h) gs' t.ss.length i s k j = sumr (t.ld g) gs t.ss.length (i + b) s k j
  | 0, _ => rfl
  | k + 1, j => by
    have h0 := H.n0
    have hb := ar_bd (n := t.ss.length) (i + j * s) h0
    have e1 : ar t.ss.length (ar t.ss.length (i + j * s) + b) = ar t.ss.length (i + b + j * s) := by
      rw [ar_ar, Int.add_right_comm]
    have e2 : gs'.getD (ar t.ss.length (i + j * s)).toNat false = gs.getD (ar t.ss.length (i + b + j * s)).toNat false := by
      rw [hg _ (by omega)]
      congr 1
      have : ((((ar t.ss.length (i + j * s)).toNat + b) % t.ss.length : Nat) : Int) = ar t.ss.length (i + b + j * s) := by
        rw [ar_mod, Int.natCast_add, ar_nat h0, e1]
      omega
    unfold sumr
    rw [e2, H.ld, e1, turn_sumr H hg i s k (j + 1)]
theorem turn_cond {t u : Tr} {g h : Gu} {b : Nat} (H : Turn t u g h b) {gs gs' : List Bool} (hg : ∀ i < t.ss.length, gs'.getD i false = gs.getD ((i + b) % t.ss.length) false) {i : Nat} (hi : i < t.ss.length) : u.cond h gs' i = t.cond g gs ((i + b) % t.ss.length) := by
  have e : ((((i + b) % t.ss.length : Nat)) : Int) = ar t.ss.length (i + b) := by rw [ar_mod, Int.natCast_add]
  have hh : hand (u.ld h) gs' u.ss.length i = hand (t.ld g) gs t.ss.length (((i + b) % t.ss.length : Nat) : Int) := by
    unfold hand sside
    rw [H.len, turn_sumr H hg, turn_sumr H hg, e, sumr_mod, sumr_mod]
  unfold Tr.cond
  rw [hh, hg i hi, H.ss i hi, H.ld, e]
theorem turn_G {t u : Tr} {g h : Gu} {b : Nat} (H : Turn t u g h b) : ∀ r, ∀ i < t.ss.length, (u.G h r).getD i false = (t.G g r).getD ((i + b) % t.ss.length) false
  | 0, i, hi => by rw [G0, G0]
  | r + 1, i, hi => by
    rw [G_succ u h r i (by rw [H.len]; exact hi), G_succ t g r _ (Nat.mod_lt _ H.n0), turn_cond H (turn_G H r) hi, turn_G H r i hi]
theorem gone_ex {t : Tr} {g : Gu} (h0 : ∀ i, 0 ≤ t.ld g i) {i : Nat} : i ∈ t.gone g ↔ ∃ r, (t.G g r).getD i false = true :=
  ⟨fun h => ⟨_, (gone_mem.1 h).2⟩, fun ⟨r, h⟩ => gone_mem.2 ⟨G_in t g r i h, G_mono ⟨rfl, fun _ => Int.le_refl _, h0, fun _ => Int.le_refl _⟩ r i h⟩⟩
theorem turn_gone {t u : Tr} {g h : Gu} {b : Nat} (H : Turn t u g h b) {i : Nat} (hi : i < t.ss.length) : i ∈ u.gone h ↔ (i + b) % t.ss.length ∈ t.gone g := by
  have h0 : ∀ i, 0 ≤ u.ld h i := fun i => by rw [H.ld]; exact H.ld0 _
  rw [gone_ex h0, gone_ex H.ld0]
  exact exists_congr fun r => by rw [turn_G H r i hi]
theorem rot_perm {n : Nat} (h : 0 < n) (b : Nat) : ((List.range n).map fun i => (i + b) % n).Perm (List.range n) := by
  rw [List.perm_ext_iff_of_nodup ?_ List.nodup_range]
  · intro a
    simp only [List.mem_map, List.mem_range]
    refine ⟨fun ⟨i, _, e⟩ => by rw [← e]; exact Nat.mod_lt _ h, fun ha => ⟨(a + (n - b % n)) % n, Nat.mod_lt _ h, ?_⟩⟩
    have h1 := Nat.mod_lt b h
    rw [Nat.mod_add_mod]
    have e : a + (n - b % n) + b = a + n * (b / n + 1) := by
      have := Nat.div_add_mod b n
      rw [Nat.mul_add, Nat.mul_one]; omega
    rw [e, Nat.add_mul_mod_self_left, Nat.mod_eq_of_lt ha]
  · unfold List.Nodup
    rw [List.pairwise_map, List.pairwise_iff_getElem]
    intro i j hi hj hij
    simp only [List.getElem_range]
    simp only [List.length_range] at hi hj
    intro e
    have h1 := Nat.div_add_mod (i + b) n
    have h2 := Nat.div_add_mod (j + b) n
    rw [e] at h1
    have h3 : n * ((j + b) / n) = n * ((i + b) / n) + (j - i) := by omega
    have h4 : (i + b) / n ≤ (j + b) / n := Nat.div_le_div_right (by omega)
    obtain ⟨q, hq⟩ : ∃ q, (j + b) / n = (i + b) / n + q := ⟨(j + b) / n - (i + b) / n, by omega⟩
    rw [hq, Nat.mul_add] at h3
    cases q with
    | zero => omega
    | succ q => rw [Nat.mul_succ] at h3; omega
theorem turn_len {t u : Tr} {g h : Gu} {b : Nat} (H : Turn t u g h b) : (u.gone h).length = (t.gone g).length := by
  have e1 : ∀ (t : Tr) (g : Gu), (t.gone g).length = (List.range t.ss.length).countP fun i => decide (i ∈ t.gone g) := fun t g => by
    unfold Tr.gone lst
    rw [← List.countP_eq_length_filter]
    refine List.countP_congr fun i hi => ?_
    have hi' : i < t.ss.length := by simpa using hi
    simp [hi']
  have hp := (rot_perm H.n0 b).countP_eq fun i => decide (i ∈ t.gone g)
  rw [List.countP_map] at hp
  rw [e1 u, e1 t, H.len, ← hp]
  refine List.countP_congr fun i hi => ?_
  have hi' : i < t.ss.length := by simpa using hi
  simp [turn_gone H hi']

/-- all ribs are numbered from another one on: so far as the k-th -/
def turnK (rs : List (Int × Int)) (b k : Nat) : List (Int × Int) := (List.range rs.length).map fun i => rs.getD (if i < k then (i + b) % rs.length else i) (0, 0)
theorem turnK_len (rs : List (Int × Int)) (b k : Nat) : (turnK rs b k).length = rs.length := by simp [turnK]
theorem turnK_zero (rs : List (Int × Int)) (b : Nat) : turnK rs b 0 = rs := by
  refine List.ext_getElem (turnK_len _ _ _) fun i h1 h2 => ?_
  simp [turnK, List.getD_eq_getElem?_getD, h2]
theorem turnK_get (rs : List (Int × Int)) (b k i : Nat) (hi : i < rs.length) : (turnK rs b k).getD i (0, 0) = rs.getD (if i < k then (i + b) % rs.length else i) (0, 0) := by
  simp [turnK, List.getD_eq_getElem?_getD, hi]
theorem turnK_succ (rs : List (Int × Int)) (b k : Nat) (h : k < rs.length) : turnK rs b (k + 1) = (turnK rs b k).set k (rs.getD ((k + b) % rs.length) (0, 0)) := by
  refine List.ext_getElem (by simp [turnK]) fun i h1 h2 => ?_
  have hi : i < rs.length := by simpa [turnK] using h1
  rw [List.getElem_set]
  by_cases e : k = i
  · subst e; rw [if_pos rfl]; simp [turnK]
  · rw [if_neg e]
    simp only [turnK, List.getElem_map, List.getElem_range]
    have : (i < k + 1) ↔ i < k := by omega
    simp only [this]
def Dm.turn (d : Dm) (b : Nat) : Dm := ⟨d.f, turnK d.rs b d.rs.length, d.sh⟩
theorem turn_rlen (d : Dm) (b : Nat) : (d.turn b).rs.length = d.rs.length := turnK_len _ _ _
theorem turn_get (d : Dm) (b i : Nat) (hi : i < d.rs.length) : (d.turn b).rs.getD i (0, 0) = d.rs.getD ((i + b) % d.rs.length) (0, 0) := by
  show (turnK d.rs b d.rs.length).getD i (0, 0) = _
  rw [turnK_get _ _ _ _ hi, if_pos hi]
theorem turn_ok {d : Dm} (h : d.okB = true) (b : Nat) : (d.turn b).okB = true := by
  have h' := okB_iff.1 h
  have hl := turn_rlen d b
  refine okB_iff.2 ⟨h'.1, by rw [hl]; exact h'.2.1, fun p hp => ?_, by rw [hl]; exact h'.2.2.2.1, h'.2.2.2.2⟩
  obtain ⟨i, hi, rfl⟩ := List.mem_iff_getElem.1 hp
  rw [hl] at hi
  have e := turn_get d b i hi
  rw [List.getD_eq_getElem?_getD, List.getElem?_eq_getElem (by rw [hl]; exact hi)] at e
  simp only [Option.getD_some] at e
  rw [e]
  have hm : (i + b) % d.rs.length < d.rs.length := Nat.mod_lt _ (by omega)
  rw [List.getD_eq_getElem?_getD, List.getElem?_eq_getElem hm]
  exact rib_mem h _ (List.getElem_mem hm)
/-- the gust that meets the same rib first -/
def tG (n : Nat) (g : Gu) (b : Nat) : Gu := ⟨g.F, ((g.A - (b : Int).tmod n) + n).tmod n⟩
theorem tG_A {n : Nat} {g : Gu} {b : Nat} (hn : 0 < n) (hg : g.ok n) : (tG n g b).A = ar n (g.A - b) := by
  have h1 : (b : Int).tmod n = ar n b := by unfold ar; exact Int.tmod_eq_emod_of_nonneg (by omega)
  have h2 := ar_bd (n := n) b hn
  have h3 := hg.2
  unfold tG
  simp only
  rw [h1, Int.tmod_eq_emod_of_nonneg (by omega), Int.add_emod_right]
  have := ar_neg (n := n) b g.A
  unfold ar at this ⊢
  exact this
theorem tG_ok {n : Nat} {g : Gu} {b : Nat} (hn : 0 < n) (hg : g.ok n) : (tG n g b).ok n := by
  have h := ar_bd (n := n) (g.A - b) hn
  rw [← tG_A hn hg] at h
  exact ⟨hg.1, h⟩
theorem turn_ld {t u : Tr} {g : Gu} {b : Nat} (hL : u.L = t.L) (hsh : u.sh = t.sh) (hlen : u.ss.length = t.ss.length) (hn : 0 < t.ss.length) (hg : g.ok t.ss.length) (i : Int) : u.ld (tG t.ss.length g b) i = t.ld g (ar t.ss.length (i + b)) := by
  unfold Tr.ld Tr.share
  have e1 : ar t.ss.length (i - (g.A - b)) = ar t.ss.length (ar t.ss.length (i + b) - g.A) := by
    rw [show ar t.ss.length (i + b) - g.A = ar t.ss.length (i + b) + (-g.A) from by omega, ar_ar, show i + b + -g.A = i - (g.A - b) from by omega]
  rw [hlen, hL, hsh, tG_A hn hg, ar_neg, e1]
  rfl
theorem turn_best {d : Dm} (h : d.okB = true) {g : Gu} (hg : g.ok d.rs.length) (b : Nat) : Turn d.best (d.turn b).best g (tG d.rs.length g b) b := by
  have h' := okB_iff.1 h
  have hl := turn_rlen d b
  have e := best_len d
  refine ⟨by omega, by rw [best_len, best_len, hl], fun i hi => ?_, fun i => ?_, fun i => (ld_bd (best_ok h) hg i).1⟩
  · rw [e] at hi ⊢
    rw [best_get (by rw [hl]; exact hi), best_get (Nat.mod_lt _ (by omega)), turn_get d b i hi]
  · have := turn_ld (t := d.best) (u := (d.turn b).best) (g := g) (b := b) rfl rfl (by rw [best_len, best_len, hl]) (by omega) (by rw [e]; exact hg) i
    rwa [e] at this ⊢
theorem turn_worst {d : Dm} (h : d.okB = true) {g : Gu} (hg : g.ok d.rs.length) (b : Nat) : Turn d.worst (d.turn b).worst g (tG d.rs.length g b) b := by
  have h' := okB_iff.1 h
  have hl := turn_rlen d b
  have e := worst_len d
  refine ⟨by omega, by rw [worst_len, worst_len, hl], fun i hi => ?_, fun i => ?_, fun i => (ld_bd (worst_ok h) hg i).1⟩
  · rw [e] at hi ⊢
    rw [worst_get (by rw [hl]; exact hi), worst_get (Nat.mod_lt _ (by omega)), turn_get d b i hi]
  · have := turn_ld (t := d.worst) (u := (d.turn b).worst) (g := g) (b := b) rfl rfl (by rw [worst_len, worst_len, hl]) (by omega) (by rw [e]; exact hg) i
    rwa [e] at this ⊢

theorem rot_tmod {n : Nat} (x b : Nat) : ((x : Int) + b).tmod n = (((x + b) % n : Nat) : Int) := by
  rw [Int.tmod_eq_emod_of_nonneg (by omega)]; simp
set_option maxHeartbeats 4000000 in
theorem k7 (d : Dm) (g : Gu) (b0 : Int) : FnA Try.prog 7 [.agg d.cells, .agg g.av, .int .i64 b0] (· = .bool true) := by
  have c10 := g10 d [g] (by simp)
  cases hr : d.rdy [g] with
  | false =>
    rw [hr] at c10
    refine fnA 12 ok7 (by simp) ?_
    (conv => whnf); (repeat' (first | (refine bT ?_; conv => whnf) | (refine bF ?_; conv => whnf) | (refine bN ?_) | (refine bD (fun hh => ?_) (fun hh => ?_) <;> first | (exfalso; omega) | (conv => whnf)) | (refine bEq (fun hh => ?_) (fun hh => ?_) <;> first | (exfalso; omega) | (conv => whnf)) | (refine bNe (fun hh => ?_) (fun hh => ?_) <;> first | (exfalso; omega) | (conv => whnf)) | (refine (c10).lendq rfl (fun r (hr : r = _) => ?_); subst hr; refine ⟨rfl, ?_⟩; conv => whnf) | (refine (g12).callq rfl rfl (fun r (hr : r = _) => ?_); subst hr; conv => whnf) | (refine wIn (by omega) ?_; conv => whnf) | (refine nI (by omega) ?_; conv => whnf)))
    all_goals rfl
  | true =>
    rw [hr] at c10
    by_cases hb0 : 0 ≤ b0 ∧ b0 ≤ 100
    · obtain ⟨b, rfl⟩ : ∃ b : Nat, b0 = b := ⟨b0.toNat, by omega⟩
      have he := rdy_iff.1 hr
      obtain ⟨hb, hcl⟩ := errC_ok he
      have hg := (okCl_g hcl).2 g (by simp)
      have hb' := okB_iff.1 hb
      have hn := hb'.2.1
      have hs := hb'.2.2.2.1
      have hss := hb'.1.2.1
      have hL : (d.rs.map s2).length = d.rs.length := by simp
      have hL' : ∀ k, ((turnK d.rs b k).map s2).length = d.rs.length := fun k => by rw [List.length_map, turnK_len]
      have hn0 : 0 < d.rs.length := by omega
      have c24 := g24 d (by omega) (by omega) (by omega)
      have hb2 := turn_ok hb b
      have hl2 := turn_rlen d b
      have hg2 := tG_ok (b := b) hn0 hg
      have c16 := g16 d g (by omega) (by omega) he
      have c16b := g16 (d.turn b) (tG d.rs.length g b) (by omega) (show d.sh.length ≤ 1000 by omega) (errC_zero hb2 (by rw [hl2]; exact okCl1 hg2))
      have T1 := turn_best hb hg b
      have T2 := turn_worst hb hg b
      have l1 := turn_len T1
      have l2 := turn_len T2
      have m1 := gone_le d.best g
      have m2 := gone_le d.worst g
      have eb := best_len d
      have ew := worst_len d
      have hAb := hg.2
      have hFb := hg.1
      have hmod : (b : Int).tmod (d.rs.map s2).length = ((b % d.rs.length : Nat) : Int) := by rw [hL, Int.tmod_eq_emod_of_nonneg (by omega)]; simp
      have hmod2 := Nat.mod_lt b hn0
      have hw1 : -9223372036854775808 ≤ g.A - (b : Int).tmod (d.rs.map s2).length ∧ g.A - (b : Int).tmod (d.rs.map s2).length ≤ 9223372036854775807 := by rw [hmod]; omega
      have hw2 : -9223372036854775808 ≤ g.A - (b : Int).tmod (d.rs.map s2).length + (d.rs.map s2).length ∧ g.A - (b : Int).tmod (d.rs.map s2).length + (d.rs.map s2).length ≤ 9223372036854775807 := by rw [hmod]; omega
      have hw3 : -9223372036854775808 ≤ (g.A - (b : Int).tmod (d.rs.map s2).length + (d.rs.map s2).length).tmod (d.rs.map s2).length ∧ (g.A - (b : Int).tmod (d.rs.map s2).length + (d.rs.map s2).length).tmod (d.rs.map s2).length ≤ 9223372036854775807 := by
        have := tG_ok (b := b) hn0 hg
        rw [show d.rs.length = (d.rs.map s2).length from hL.symm] at this
        have h2 := this.2
        unfold tG at h2
        simp only at h2
        omega
      have eG : tG d.rs.length g b = tG (d.rs.map s2).length g b := by rw [hL]
      rw [eG] at c16b T1 T2 l1 l2
      have q1 : ((d.best.gone g).map n1).length = (d.best.gone g).length := by simp
      have q2 : ((d.worst.gone g).map n1).length = (d.worst.gone g).length := by simp
      have q3 : (((d.turn b).best.gone (tG (d.rs.map s2).length g b)).map n1).length = ((d.turn b).best.gone (tG (d.rs.map s2).length g b)).length := by simp
      have q4 : (((d.turn b).worst.gone (tG (d.rs.map s2).length g b)).map n1).length = ((d.turn b).worst.gone (tG (d.rs.map s2).length g b)).length := by simp
      refine fnA 12 ok7 (by simp) ?_
      (conv => whnf); (repeat' (first | (refine bT ?_; conv => whnf) | (refine bF ?_; conv => whnf) | (refine bN ?_) | (refine bD (fun hh => ?_) (fun hh => ?_) <;> first | (exfalso; omega) | (conv => whnf)) | (refine bEq (fun hh => ?_) (fun hh => ?_) <;> first | (exfalso; omega) | (conv => whnf)) | (refine bNe (fun hh => ?_) (fun hh => ?_) <;> first | (exfalso; omega) | (conv => whnf)) | (refine (c10).lendq rfl (fun r (hr : r = _) => ?_); subst hr; refine ⟨rfl, ?_⟩; conv => whnf) | (refine (c24).callzq rfl rfl (fun r rows (hr : r = _ ∧ rows = _) => ?_); obtain ⟨hr1, hr2⟩ := hr; subst hr1; subst hr2; refine ⟨rfl, ?_⟩; conv => whnf) | (refine wIn (by omega) ?_; conv => whnf) | (refine nI (by omega) ?_; conv => whnf)))
      refine loop_i (α := Nat) (fun k => [(9, .int .i64 k), (8, .own 6 0), (7, .int .i64 (d.rs.map s2).length), (4, .own 1 0), (3, .own 0 0), (2, .int .i64 b)]) (fun k => [.box false d.cells, .box false g.av, .fresh, .row false 114 7 (d.f.ss.map Sec.av), .row false 45 2 ((turnK d.rs b k).map s2), .row false 3 1 (d.sh.map i1), .box false (d.cp 3 4 5), .fresh, .fresh, .fresh, .fresh, .fresh]) (fun k => k ≤ d.rs.length) (fun k => d.rs.length - k) 0 ?_ (by omega) ?_
      · rw [turnK_zero]; exact (meets_id (by (repeat' apply And.intro) <;> first | rfl | exact True.intro | (intro hh; cases hh)))
      intro k hk
      have hlk := hL' k
      conv => whnf
      refine bD (fun h3 => ?_) (fun h3 => ?_)
      · have hlt : k < d.rs.length := by omega
        have hm := Nat.mod_lt (k + b) hn0
        have ri := rot_tmod (n := (d.rs.map s2).length) k b
        rw [hL] at ri
        rw [← hL] at ri
        have ed : (d.rs.map s2).getD (((k : Int) + b).tmod (d.rs.map s2).length).toNat [] = s2 (d.rs.getD ((k + b) % d.rs.length) (0, 0)) := by
          rw [ri, Int.toNat_natCast, hL, getD_mapD s2 _ _ (0, 0) hm]
        have eo : ((turnK d.rs b k).map s2).getD (k : Int).toNat [] = s2 ((turnK d.rs b k).getD k (0, 0)) := by
          rw [Int.toNat_natCast, getD_mapD s2 _ k (0, 0) (by rw [turnK_len]; exact hlt)]
        have hri : ((k + b) % (d.rs.map s2).length : Nat) < d.rs.length := by rw [hL]; exact hm
        (conv => whnf); (repeat' (first | (refine bT ?_; conv => whnf) | (refine bF ?_; conv => whnf) | (refine bN ?_) | (refine bD (fun hh => ?_) (fun hh => ?_) <;> first | (exfalso; omega) | (conv => whnf)) | (refine bEq (fun hh => ?_) (fun hh => ?_) <;> first | (exfalso; omega) | (conv => whnf)) | (refine bNe (fun hh => ?_) (fun hh => ?_) <;> first | (exfalso; omega) | (conv => whnf)) | (refine iaI (by omega) (by omega) ed ?_; conv => whnf) | (refine iaI (by omega) (by omega) eo ?_; conv => whnf) | (refine wIn (by omega) ?_; conv => whnf) | (refine nI (by omega) ?_; conv => whnf)))
        refine ⟨k + 1, ?_, by omega, by omega⟩
        rw [turnK_succ _ _ _ hlt, List.map_set]
        simp only [Int.natCast_add, Int.natCast_one]
        exact (meets_id (by (repeat' apply And.intro) <;> first | rfl | exact True.intro | (intro hh; cases hh)))
      · have hkk : k = d.rs.length := by omega
        subst hkk
        (conv => whnf); (repeat' (first | (refine bT ?_; conv => whnf) | (refine bF ?_; conv => whnf) | (refine bN ?_) | (refine bD (fun hh => ?_) (fun hh => ?_) <;> first | (exfalso; omega) | (conv => whnf)) | (refine bEq (fun hh => ?_) (fun hh => ?_) <;> first | (exfalso; omega) | (conv => whnf)) | (refine bNe (fun hh => ?_) (fun hh => ?_) <;> first | (exfalso; omega) | (conv => whnf)) | (refine wIn hw1 ?_; conv => whnf) | (refine wIn hw2 ?_; conv => whnf) | (refine wIn hw3 ?_; conv => whnf) | (refine (c16).callzq rfl rfl (fun r rows (hr : r = _ ∧ rows = _) => ?_); obtain ⟨hr1, hr2⟩ := hr; subst hr1; subst hr2; refine ⟨rfl, ?_⟩; conv => whnf) | (refine (c16b).callzq rfl rfl (fun r rows (hr : r = _ ∧ rows = _) => ?_); obtain ⟨hr1, hr2⟩ := hr; subst hr1; subst hr2; refine ⟨rfl, ?_⟩; conv => whnf) | (refine wIn (by omega) ?_; conv => whnf) | (refine nI (by omega) ?_; conv => whnf)))
        refine loop_i (α := Nat) (fun k => [(17, .int .i64 k), (15, .row 11), (14, .row 10), (12, .row 9), (11, .row 8), (7, .int .i64 (d.rs.map s2).length), (2, .int .i64 b)]) (fun k => [.fresh, .fresh, .fresh, .fresh, .fresh, .fresh, .fresh, .fresh, .row false 3 1 ((d.best.gone g).map n1), .row false 3 1 ((d.worst.gone g).map n1), .row false 3 1 (((d.turn b).best.gone (tG (d.rs.map s2).length g b)).map n1), .row false 3 1 (((d.turn b).worst.gone (tG (d.rs.map s2).length g b)).map n1)]) (fun k => k ≤ ((d.turn b).best.gone (tG (d.rs.map s2).length g b)).length) (fun k => ((d.turn b).best.gone (tG (d.rs.map s2).length g b)).length - k) 0 (meets_id (by (repeat' apply And.intro) <;> first | rfl | exact True.intro | (intro hh; cases hh))) (by omega) ?_
        intro k hk
        conv => whnf
        refine bD (fun h4 => ?_) (fun h4 => ?_)
        · have hlt : k < ((d.turn b).best.gone (tG (d.rs.map s2).length g b)).length := by omega
          obtain ⟨x, hx⟩ : ∃ x, ((d.turn b).best.gone (tG (d.rs.map s2).length g b))[k] = x := ⟨_, rfl⟩
          have hxm : x ∈ (d.turn b).best.gone (tG (d.rs.map s2).length g b) := by rw [← hx]; exact List.getElem_mem hlt
          have hxn : x < d.rs.length := by have := (gone_mem.1 hxm).1; rw [best_len, hl2] at this; exact this
          have hrow : (((d.turn b).best.gone (tG (d.rs.map s2).length g b)).map n1).getD (k : Int).toNat [] = [.int .i64 x] := by
            rw [Int.toNat_natCast, getD_map n1 _ k hlt, hx]; rfl
          have c21 := g21 (d.best.gone g) ((x + b) % (d.rs.map s2).length) (by omega)
          rw [show (d.best.gone g).contains ((x + b) % (d.rs.map s2).length) = true from by
            have := (turn_gone T1 (by rw [eb]; exact hxn)).1 hxm
            rw [eb] at this; rw [hL]; simpa using this, ← rot_tmod] at c21
          have rx := rot_tmod (n := (d.rs.map s2).length) x b
          have rx2 := Nat.mod_lt (x + b) (show 0 < (d.rs.map s2).length by omega)
          (conv => whnf); (repeat' (first | (refine bT ?_; conv => whnf) | (refine bF ?_; conv => whnf) | (refine bN ?_) | (refine bD (fun hh => ?_) (fun hh => ?_) <;> first | (exfalso; omega) | (conv => whnf)) | (refine bEq (fun hh => ?_) (fun hh => ?_) <;> first | (exfalso; omega) | (conv => whnf)) | (refine bNe (fun hh => ?_) (fun hh => ?_) <;> first | (exfalso; omega) | (conv => whnf)) | (refine iaI (by omega) (by omega) hrow ?_; conv => whnf) | (refine (c21).lendq rfl (fun r (hr : r = _) => ?_); subst hr; refine ⟨rfl, ?_⟩; conv => whnf) | (refine wIn (by omega) ?_; conv => whnf) | (refine nI (by omega) ?_; conv => whnf)))
          all_goals exact ⟨k + 1, (meets_id (by (repeat' apply And.intro) <;> first | rfl | exact True.intro | (intro hh; cases hh))), by omega, by omega⟩
        · (conv => whnf); (repeat' (first | (refine bT ?_; conv => whnf) | (refine bF ?_; conv => whnf) | (refine bN ?_) | (refine bD (fun hh => ?_) (fun hh => ?_) <;> first | (exfalso; omega) | (conv => whnf)) | (refine bEq (fun hh => ?_) (fun hh => ?_) <;> first | (exfalso; omega) | (conv => whnf)) | (refine bNe (fun hh => ?_) (fun hh => ?_) <;> first | (exfalso; omega) | (conv => whnf)) | (refine wIn (by omega) ?_; conv => whnf) | (refine nI (by omega) ?_; conv => whnf)))
          refine loop_i (α := Nat) (fun k => [(18, .int .i64 k), (15, .row 11), (14, .row 10), (12, .row 9), (11, .row 8), (7, .int .i64 (d.rs.map s2).length), (2, .int .i64 b)]) (fun k => [.fresh, .fresh, .fresh, .fresh, .fresh, .fresh, .fresh, .fresh, .row false 3 1 ((d.best.gone g).map n1), .row false 3 1 ((d.worst.gone g).map n1), .row false 3 1 (((d.turn b).best.gone (tG (d.rs.map s2).length g b)).map n1), .row false 3 1 (((d.turn b).worst.gone (tG (d.rs.map s2).length g b)).map n1)]) (fun k => k ≤ ((d.turn b).worst.gone (tG (d.rs.map s2).length g b)).length) (fun k => ((d.turn b).worst.gone (tG (d.rs.map s2).length g b)).length - k) 0 (meets_id (by (repeat' apply And.intro) <;> first | rfl | exact True.intro | (intro hh; cases hh))) (by omega) ?_
          intro k hk
          conv => whnf
          refine bD (fun h5 => ?_) (fun h5 => ?_)
          · have hlt : k < ((d.turn b).worst.gone (tG (d.rs.map s2).length g b)).length := by omega
            obtain ⟨x, hx⟩ : ∃ x, ((d.turn b).worst.gone (tG (d.rs.map s2).length g b))[k] = x := ⟨_, rfl⟩
            have hxm : x ∈ (d.turn b).worst.gone (tG (d.rs.map s2).length g b) := by rw [← hx]; exact List.getElem_mem hlt
            have hxn : x < d.rs.length := by have := (gone_mem.1 hxm).1; rw [worst_len, hl2] at this; exact this
            have hrow : (((d.turn b).worst.gone (tG (d.rs.map s2).length g b)).map n1).getD (k : Int).toNat [] = [.int .i64 x] := by
              rw [Int.toNat_natCast, getD_map n1 _ k hlt, hx]; rfl
            have c21 := g21 (d.worst.gone g) ((x + b) % (d.rs.map s2).length) (by omega)
            rw [show (d.worst.gone g).contains ((x + b) % (d.rs.map s2).length) = true from by
              have := (turn_gone T2 (by rw [ew]; exact hxn)).1 hxm
              rw [ew] at this; rw [hL]; simpa using this, ← rot_tmod] at c21
            have rx := rot_tmod (n := (d.rs.map s2).length) x b
            have rx2 := Nat.mod_lt (x + b) (show 0 < (d.rs.map s2).length by omega)
            (conv => whnf); (repeat' (first | (refine bT ?_; conv => whnf) | (refine bF ?_; conv => whnf) | (refine bN ?_) | (refine bD (fun hh => ?_) (fun hh => ?_) <;> first | (exfalso; omega) | (conv => whnf)) | (refine bEq (fun hh => ?_) (fun hh => ?_) <;> first | (exfalso; omega) | (conv => whnf)) | (refine bNe (fun hh => ?_) (fun hh => ?_) <;> first | (exfalso; omega) | (conv => whnf)) | (refine iaI (by omega) (by omega) hrow ?_; conv => whnf) | (refine (c21).lendq rfl (fun r (hr : r = _) => ?_); subst hr; refine ⟨rfl, ?_⟩; conv => whnf) | (refine wIn (by omega) ?_; conv => whnf) | (refine nI (by omega) ?_; conv => whnf)))
            all_goals exact ⟨k + 1, (meets_id (by (repeat' apply And.intro) <;> first | rfl | exact True.intro | (intro hh; cases hh))), by omega, by omega⟩
          · (conv => whnf); (repeat' (first | (refine bT ?_; conv => whnf) | (refine bF ?_; conv => whnf) | (refine bN ?_) | (refine bD (fun hh => ?_) (fun hh => ?_) <;> first | (exfalso; omega) | (conv => whnf)) | (refine bEq (fun hh => ?_) (fun hh => ?_) <;> first | (exfalso; omega) | (conv => whnf)) | (refine bNe (fun hh => ?_) (fun hh => ?_) <;> first | (exfalso; omega) | (conv => whnf)) | (refine (g12).callq rfl rfl (fun r (hr : r = _) => ?_); subst hr; conv => whnf) | (refine wIn (by omega) ?_; conv => whnf) | (refine nI (by omega) ?_; conv => whnf)))
            all_goals rfl
    · refine fnA 12 ok7 (by simp) ?_
      (conv => whnf); (repeat' (first | (refine bT ?_; conv => whnf) | (refine bF ?_; conv => whnf) | (refine bN ?_) | (refine bD (fun hh => ?_) (fun hh => ?_) <;> first | (exfalso; omega) | (conv => whnf)) | (refine bEq (fun hh => ?_) (fun hh => ?_) <;> first | (exfalso; omega) | (conv => whnf)) | (refine bNe (fun hh => ?_) (fun hh => ?_) <;> first | (exfalso; omega) | (conv => whnf)) | (refine (c10).lendq rfl (fun r (hr : r = _) => ?_); subst hr; refine ⟨rfl, ?_⟩; conv => whnf) | (refine (g12).callq rfl rfl (fun r (hr : r = _) => ?_); subst hr; conv => whnf) | (refine wIn (by omega) ?_; conv => whnf) | (refine nI (by omega) ?_; conv => whnf)))
      all_goals rfl
end Go.Proofs
