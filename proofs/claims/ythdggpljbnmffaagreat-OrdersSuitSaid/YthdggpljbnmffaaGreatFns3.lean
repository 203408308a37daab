/- What each function of this program answers, proved by walking its body: the contracts that the law rests on, part 3. -/
import Derived.Test.YthdggpljbnmffaaGreatFns2
set_option linter.unusedSimpArgs false
set_option linter.unusedVariables false
set_option linter.unusedSectionVars false
namespace Go.Proofs
open Go.Eng
attribute [local irreducible] Go.Eng.brB Go.Eng.need Go.Eng.wrE Go.Eng.iaE Go.Eng.slE Go.Eng.apE Go.Eng.CallZ Go.Eng.CallE Go.Eng.VCallE Go.Eng.YldE Go.Eng.GoC Go.Eng.MeetsE Go.Eng.FnA Go.Eng.FnV Go.Eng.ItM
set_option maxRecDepth 100000
theorem f_one (l : List (List Int)) : ∀ e ∈ l.map fAV, e.length = 1 /\ e.all AV.one = true := fun e he => by
 obtain ⟨x, _, rfl⟩ := List.mem_map.1 he; exact ⟨rfl, rfl⟩
theorem takej (l : List (List AV)) (n : Nat) (h : l.length = n) : (l.take ((n : Nat) : Int).toNat).drop (0 : Int).toNat = l := by
 subst h; simp
structure GRes where
 b : Bool
 left : List Int
 g : List Int
 tr : List Bool
abbrev GRec := List Int -> List Int -> List Bool -> Nat -> GRes
def goO (rec : GRec) (x : Int) : List Nat -> List Int -> List Int -> List Bool -> GRes
 | [], left, g, tr => ⟨false, left, g, tr⟩
 | j :: js, left, g, tr => if g.getD j 0 = x then (match rec left g tr j with
   | ⟨true, l, h, t⟩ => ⟨true, l, h, t⟩
   | ⟨false, l, h, t⟩ => goO rec x js l h t) else goO rec x js left g tr
def goS (rec : GRec) (J : Nat) : List Int -> List Int -> List Int -> List Bool -> GRes
 | [], left, g, tr => ⟨false, left, g, tr⟩
 | x :: xs, left, g, tr => if tr.getD x.toNat false = true then goS rec J xs left g tr else
   if 0 < left.getD x.toNat 0 then ⟨true, left.set x.toNat (left.getD x.toNat 0 - 1), g.set J x, tr.set x.toNat true⟩ else
   match goO rec x (List.range g.length) left g (tr.set x.toNat true) with
   | ⟨true, l, h, t⟩ => ⟨true, l, h.set J x, t⟩
   | ⟨false, l, h, t⟩ => goS rec J xs l h t
def noR : GRec := fun left g tr _ => ⟨false, left, g, tr⟩
def gv (fs : List (List Int)) : Nat -> GRec
 | 0 => fun left g tr J => goS noR J (fsG fs J) left g tr
 | n + 1 => fun left g tr J => goS (gv fs n) J (fsG fs J) left g tr
def recF (fs : List (List Int)) : Nat -> GRec
 | 0 => noR
 | n + 1 => gv fs n
theorem gv_eq (fs : List (List Int)) (n : Nat) (left g : List Int) (tr : List Bool) (J : Nat) : gv fs n left g tr J = goS (recF fs n) J (fsG fs J) left g tr := by cases n <;> rfl
structure GOk (fs : List (List Int)) (left g : List Int) (tr : List Bool) (J : Nat) (r : GRes) : Prop where
 len : r.tr.length = tr.length
 no : r.b = false -> r.left = left /\ r.g = g /\ Fail fs left g tr r.tr J
 yes : r.b = true -> Win fs left g tr r.left r.g J
theorem trB_sub {tr tr' : List Bool} (hl : tr'.length = tr.length) (h : ∀ x, trB tr x = true -> trB tr' x = true) : untr tr' <= untr tr := untr_le hl (fun i hi => by
 have := h (i : Nat) (by unfold trB; simpa using hi)
 unfold trB at this; simpa using this)
structure OOk (fs : List (List Int)) (left g : List Int) (t1 : List Bool) (x : Int) (js : List Nat) (r : GRes) : Prop where
 len : r.tr.length = t1.length
 no : r.b = false -> r.left = left /\ r.g = g /\ (∀ y, trB t1 y = true -> trB r.tr y = true) /\ (∀ j ∈ js, g.getD j 0 = x -> ∀ y ∈ fsG fs j, trB r.tr y = true) /\ ∀ y, 0 <= y -> trB r.tr y = true -> trB t1 y = false -> left.getD y.toNat 0 = 0 /\ ∀ j, j < g.length -> g.getD j 0 = y -> ∀ z ∈ fsG fs j, trB r.tr z = true
 yes : r.b = true -> ∃ t2 O, O < g.length /\ g.getD O 0 = x /\ (∀ y, trB t1 y = true -> trB t2 y = true) /\ Win fs left g t2 r.left r.g O
theorem goO_ok {fs : List (List Int)} {left g : List Int} {x : Int} {rec : GRec} {n T : Nat} (hrec : ∀ tr j, j < g.length -> g.getD j 0 = x -> trB tr x = true -> tr.length = T -> untr tr < n -> GOk fs left g tr j (rec left g tr j)) : ∀ (js : List Nat) (t1 : List Bool), (∀ j ∈ js, j < g.length) -> trB t1 x = true -> t1.length = T -> untr t1 < n -> OOk fs left g t1 x js (goO rec x js left g t1)
 | [], t1, _, _, _, _ => ⟨rfl, fun _ => ⟨rfl, rfl, fun y hy => hy, by simp, fun y _ h1 h2 => by simp only [goO] at h1; rw [h2] at h1; cases h1⟩, fun h => by cases h⟩
 | j :: js, t1, hj, hx, hT, hu => by
  unfold goO
  by_cases he : g.getD j 0 = x
  ·rw [if_pos he]
   have h := hrec t1 j (hj j (by simp)) he hx hT hu
   generalize rec left g t1 j = r at h
   obtain ⟨b, l, h', t⟩ := r
   cases b with
   | true => exact ⟨h.len, (fun h => by cases h), fun _ => ⟨t1, j, hj j (by simp), he, fun y hy => hy, h.yes rfl⟩⟩
   | false =>
    obtain ⟨e1, e2, hF⟩ := h.no rfl
    have hlen := h.len
    dsimp only at e1 e2 hF hlen
    subst e1; subst e2
    have ih := goO_ok hrec js t (fun j hj' => hj j (by simp [hj'])) (hF.sup x hx) (hlen.trans hT) (by have := trB_sub hlen hF.sup; omega)
    refine ⟨ih.len.trans hlen, fun hb => ?_, fun hb => ?_⟩
    ·obtain ⟨a1, a2, a3, a4, a5⟩ := ih.no hb
     refine ⟨a1, a2, fun y hy => a3 y (hF.sup y hy), fun i hi hgi y hy => ?_, fun y hy0 hy hyr => ?_⟩
     ·rcases List.mem_cons.1 hi with rfl | hi
      ·exact a3 y (hF.all y hy)
      ·exact a4 i hi hgi y hy
     ·cases hq : trB t y with
      | true =>
       obtain ⟨c1, c2⟩ := hF.shut y hy0 hq hyr
       exact ⟨c1, fun i hi hgi z hz => a3 z (c2 i hi hgi z hz)⟩
      | false => exact a5 y hy0 hy hq
    ·obtain ⟨t2, O, a1, a2, a3, a4⟩ := ih.yes hb
     exact ⟨t2, O, a1, a2, fun y hy => a3 y (hF.sup y hy), a4⟩
  ·rw [if_neg he]
   have ih := goO_ok hrec js t1 (fun j hj' => hj j (by simp [hj'])) hx hT hu
   refine ⟨ih.len, fun hb => ?_, ih.yes⟩
   obtain ⟨a1, a2, a3, a4, a5⟩ := ih.no hb
   refine ⟨a1, a2, a3, fun i hi hgi y hy => ?_, a5⟩
   rcases List.mem_cons.1 hi with rfl | hi
   ·exact absurd hgi he
   ·exact a4 i hi hgi y hy
theorem goS_ok {fs : List (List Int)} {left g : List Int} {tr : List Bool} {J n : Nat} {rec : GRec} (h : Pre fs left g tr J) (hrec : ∀ tr' j, j < g.length -> trB tr' (g.getD j 0) = true -> tr'.length = tr.length -> untr tr' < n -> GOk fs left g tr' j (rec left g tr' j)) :
  ∀ (xs : List Int) (t1 : List Bool), (∀ x ∈ xs, x ∈ fsG fs J) -> (∀ x, trB tr x = true -> trB t1 x = true) -> t1.length = tr.length -> untr t1 <= n ->
   (∀ x ∈ fsG fs J, x ∈ xs \/ trB t1 x = true) -> (∀ x, 0 <= x -> trB t1 x = true -> trB tr x = false -> left.getD x.toNat 0 = 0 /\ ∀ j, j < g.length -> g.getD j 0 = x -> ∀ y ∈ fsG fs j, trB t1 y = true) -> GOk fs left g tr J (goS rec J xs left g t1)
 | [], t1, _, hsup, hl, _, hall, hshut => ⟨hl, fun _ => ⟨rfl, rfl, hsup, fun x hx => (hall x hx).resolve_left (by simp), fun x h0 h1 h2 => hshut x h0 h1 h2⟩, fun h => by cases h⟩
 | x :: xs, t1, hxs, hsup, hl, hu, hall, hshut => by
  unfold goS
  have hxm := hxs x (by simp)
  obtain ⟨hx0, hx1⟩ := h.sp J x hxm
  have hxt : x.toNat < t1.length := by rw [hl, h.lt]; omega
  by_cases hb : t1.getD x.toNat false = true
  ·rw [if_pos hb]
   exact goS_ok h hrec xs t1 (fun y hy => hxs y (by simp [hy])) hsup hl hu (fun y hy => by
    rcases hall y hy with q | q
    ·rcases List.mem_cons.1 q with rfl | q
     ·exact .inr hb
     ·exact .inl q
    ·exact .inr q) hshut
  ·rw [if_neg hb]
   have hb' : t1.getD x.toNat false = false := by simpa using hb
   have hxr : trB tr x = false := by
    cases hq : trB tr x with
    | false => rfl
    | true => exact absurd (hsup x hq) hb
   have hu1 := untr_set hxt hb'
   have hsx : trB (t1.set x.toNat true) x = true := by unfold trB; rw [getD_setB _ _ _ _ hxt, if_pos rfl]
   have hsup2 : ∀ y, trB t1 y = true -> trB (t1.set x.toNat true) y = true := fun y hy => sup_set ⟨hx0, hxt⟩ hy
   have hnew : ∀ y, 0 <= y -> trB (t1.set x.toNat true) y = true -> y ≠ x -> trB t1 y = true := fun y hy0 hy hne => by
    unfold trB at hy ⊢
    rw [getD_setB _ _ _ _ hxt] at hy
    split at hy
    ·omega
    ·exact hy
   by_cases hp : 0 < left.getD x.toNat 0
   ·rw [if_pos hp]
    exact ⟨by simp [hl], (fun h => by cases h), fun _ => win_take h hxm hp⟩
   ·rw [if_neg hp]
    have hl0 : left.getD x.toNat 0 = 0 := by
     have := h.nn x.toNat (by omega)
     omega
    have hO := goO_ok (fs := fs) (left := left) (g := g) (x := x) (rec := rec) (n := n) (T := tr.length) (fun tr' j hj hgj htx hT hun => hrec tr' j hj (by rw [hgj]; exact htx) hT hun) (List.range g.length) (t1.set x.toNat true) (fun j hj => List.mem_range.1 hj) hsx (by simp [hl]) (by omega)
    generalize goO rec x (List.range g.length) left g (t1.set x.toNat true) = r at hO
    obtain ⟨b, l, g', t⟩ := r
    cases b with
    | true =>
     obtain ⟨t2, O, a1, a2, a3, a4⟩ := hO.yes rfl
     have hlen := hO.len
     dsimp only at a4 hlen
     exact ⟨by dsimp only; rw [hlen]; simp [hl], (fun h => by cases h), fun _ => win_from h hxm a1 a2 hxr (fun y hy => a3 y (hsup2 y (hsup y hy))) a4⟩
    | false =>
     obtain ⟨e1, e2, a3, a4, a5⟩ := hO.no rfl
     have hlen := hO.len
     dsimp only at e1 e2 a3 a4 a5 hlen
     subst e1; subst e2
     have hlt : t.length = tr.length := by rw [hlen]; simp [hl]
     refine goS_ok h hrec xs t (fun y hy => hxs y (by simp [hy])) (fun y hy => a3 y (hsup2 y (hsup y hy))) hlt ?_ (fun y hy => ?_) (fun y hy0 hy hyr => ?_)
     ·have := trB_sub hlen a3; omega
     ·rcases hall y hy with q | q
      ·rcases List.mem_cons.1 q with rfl | q
       ·exact .inr (a3 _ hsx)
       ·exact .inl q
      ·exact .inr (a3 y (hsup2 y q))
     ·by_cases e : y = x
      ·subst e
       exact ⟨hl0, fun j hj hgj => a4 j (List.mem_range.2 hj) hgj⟩
      ·cases hq : trB (t1.set x.toNat true) y with
       | true =>
        obtain ⟨c1, c2⟩ := hshut y hy0 (hnew y hy0 hq e) hyr
        exact ⟨c1, fun j hj hgj z hz => a3 z (hsup2 z (c2 j hj hgj z hz))⟩
       | false => exact a5 y hy0 hy hq
theorem gv_ok {fs : List (List Int)} : ∀ (n : Nat) (left g : List Int) (tr : List Bool) (J : Nat), untr tr <= n -> Pre fs left g tr J -> GOk fs left g tr J (gv fs n left g tr J) := by
 intro n
 induction n with
 | zero =>
  intro left g tr J hn h
  rw [gv_eq]
  exact goS_ok h (n := 0) (fun _ _ _ _ _ hu => absurd hu (by omega)) (fsG fs J) tr (fun x hx => hx) (fun x hx => hx) rfl hn (fun x hx => .inl hx) (fun x _ h1 h2 => by rw [h2] at h1; cases h1)
 | succ n ih =>
  intro left g tr J hn h
  rw [gv_eq]
  exact goS_ok h (n := n + 1) (fun tr' j hj htj hl hu => ih left g tr' j (by omega) ⟨h.sp, by rw [hl]; exact h.lt, h.lg, by rw [<- h.lg]; exact hj, h.nn, h.gok, .inr htj, h.s1, h.s2, h.s3, h.s4⟩) (fsG fs J) tr (fun x hx => hx) (fun x hx => hx) rfl hn (fun x hx => .inl hx) (fun x _ h1 h2 => by rw [h2] at h1; cases h1)
def resG (s : Ord) (pl : List Int) (lost lacks : Int) (fs fx : List (List Int)) (q : GRes) (r : AV) (outs : List Res) : Prop := r = .bool q.b /\ outs = fIns s pl lost lacks fs fx q.left q.g q.tr
def contS (rec : GRec) (J : Nat) (xs : List Int) (x : Int) : GRes -> GRes
 | ⟨true, l, h, t⟩ => ⟨true, l, h.set J x, t⟩
 | ⟨false, l, h, t⟩ => goS rec J xs l h t
theorem goS_yes {rec : GRec} {J : Nat} {x : Int} {xs : List Int} {left g : List Int} {tr : List Bool} (h : tr.getD x.toNat false = true) : goS rec J (x :: xs) left g tr = goS rec J xs left g tr := by rw [goS, if_pos h]
theorem goS_take {rec : GRec} {J : Nat} {x : Int} {xs : List Int} {left g : List Int} {tr : List Bool} (h : tr.getD x.toNat false = false) (hp : 0 < left.getD x.toNat 0) : goS rec J (x :: xs) left g tr = ⟨true, left.set x.toNat (left.getD x.toNat 0 - 1), g.set J x, tr.set x.toNat true⟩ := by rw [goS, if_neg (by rw [h]; simp), if_pos hp]
theorem goS_try {rec : GRec} {J : Nat} {x : Int} {xs : List Int} {left g : List Int} {tr : List Bool} (h : tr.getD x.toNat false = false) (hp : ¬ 0 < left.getD x.toNat 0) : goS rec J (x :: xs) left g tr = contS rec J xs x (goO rec x (List.range g.length) left g (tr.set x.toNat true)) := by
 rw [goS, if_neg (by rw [h]; simp), if_neg hp]; rfl
theorem drop_cons {α : Type} {l : List α} {k : Nat} (h : k < l.length) : l.drop k = l[k] :: l.drop (k + 1) := List.drop_eq_getElem_cons h
theorem v106s (s : Ord) (pl : List Int) (lost lacks : Int) (fs fx : List (List Int)) (hfx : fx.length <= 1000) (left g : List Int) (tr : List Bool) (J : Nat) (rec : GRec) (h : Pre fs left g tr J)
  (hrec : ∀ t2 j, j < g.length -> trB t2 (g.getD j 0) = true -> t2.length = tr.length -> untr t2 < untr tr -> GOk fs left g t2 j (rec left g t2 j) /\ FnW Tryz.prog 106 [.own 0 0, .int .i64 (j : Nat), .row 3] (fIns s pl lost lacks fs fx left g t2) (resG s pl lost lacks fs fx (rec left g t2 j))) :
  FnW Tryz.prog 106 [.own 0 0, .int .i64 (J : Nat), .row 3] (fIns s pl lost lacks fs fx left g tr) (resG s pl lost lacks fs fx (goS rec J (fsG fs J) left g tr)) := by
  have hJ : J < g.length := by rw [h.lg]; exact h.jlt
  have hJf := h.jlt
  have hs1 := h.s1
  have hs2 := h.s2
  have hs3 := h.s3 J
  have hlg := h.lg
  have hlt := h.lt
  have lf : ((fs ++ fx).map fAV).length = fs.length + fx.length := by simp
  have lg : (g.map jAV).length = g.length := by simp
  have ll : (left.map jAV).length = left.length := by simp
  have lJ : ((fsG fs J).map jAV).length = (fsG fs J).length := by simp
  refine fnW 0 [] ok106 (by simp) rfl rfl ?_
  (conv=>whnf);(repeat'((first|apply bT|apply bF|apply bN|((first|apply bD|apply bEq|apply bNe)<;>intro hh<;>try(exfalso;omega))|refine iaJ (fgetx fx hJf) ?_|refine wJ ?_|refine nJ ?_)<;>conv=>whnf))
  refine loop_i (α := Nat × List Bool) (fun q => [(19, .int .i64 q.1), (18, .int .i64 ↑((fsG fs J).map jAV).length), (17, .isl ((fsG fs J).map jAV)), (2, .row 3), (1, .int .i64 J), (0, .own 0 0)]) (fun q => fIns s pl lost lacks fs fx left g q.2) (fun q => q.1 <= (fsG fs J).length /\ q.2.length = tr.length /\ (∀ x, trB tr x = true -> trB q.2 x = true) /\ goS rec J (fsG fs J) left g tr = goS rec J ((fsG fs J).drop q.1) left g q.2) (fun q => (fsG fs J).length - q.1) (0, tr) mI ⟨by simp, rfl, fun x hx => hx, by simp⟩ ?_
  rintro ⟨k, t1⟩ ⟨hk0, hl1, hsup, heq⟩
  dsimp only at hk0 hl1 hsup heq ⊢
  rw [heq]
  clear heq
  have lt1 : (t1.map bAV).length = t1.length := by simp
  conv => whnf
  refine bD (fun h3 => ?_) (fun h3 => ?_)
  ·have hk : k < (fsG fs J).length := by omega
   have hgx := getM jAV (fsG fs J) k hk
   have hxm : (fsG fs J)[k] ∈ fsG fs J := List.getElem_mem hk
   have hdc := drop_cons hk
   generalize (fsG fs J)[k] = x at hgx hxm hdc
   generalize hxs : (fsG fs J).drop (k + 1) = xs at hdc
   obtain ⟨hx0, hx1⟩ := h.sp J x hxm
   have hxt : x.toNat < t1.length := by omega
   have hxl : x.toNat < left.length := by omega
   have g1 := bget hxt
   have gl := jget hxl
   have gJ := jget hJ
   rw [hdc]
   cases hb : t1.getD x.toNat false with
   | true =>
    rw [hb] at g1
    rw [goS_yes hb, <- hxs]
    (conv=>whnf);(repeat'((first|apply bT|apply bF|apply bN|((first|apply bD|apply bEq|apply bNe)<;>intro hh<;>try(exfalso;omega))|refine iaJ hgx ?_|refine iaJ g1 ?_|refine wJ ?_|refine nJ ?_)<;>conv=>whnf))
    exact ⟨(k + 1, t1), mI, ⟨by dsimp only; omega, hl1, hsup, rfl⟩, by dsimp only; omega⟩
   | false =>
    rw [hb] at g1
    have hb' : trB t1 x = false := hb
    have hu1 := untr_set hxt hb
    have hu2 := trB_sub hl1 hsup
    have hput : (t1.map bAV).set x.toNat [.bool true] = (t1.set x.toNat true).map bAV := by rw [List.map_set]; rfl
    have hsx : trB (t1.set x.toNat true) x = true := by unfold trB; rw [getD_setB _ _ _ _ hxt, if_pos rfl]
    have hsup2 : ∀ y, trB t1 y = true -> trB (t1.set x.toNat true) y = true := fun y hy => sup_set ⟨hx0, hxt⟩ hy
    by_cases hp : 0 < left.getD x.toNat 0
    ·-- some are left
     have hput2 : (left.map jAV).set x.toNat [.int .i64 (left.getD x.toNat 0 - 1)] = (left.set x.toNat (left.getD x.toNat 0 - 1)).map jAV := by rw [List.map_set]; rfl
     have hput3 : (g.map jAV).set J [.int .i64 x] = (g.set J x).map jAV := by rw [List.map_set]; rfl
     have hs4 := h.s4 x.toNat
     rw [goS_take hb hp]
     (conv=>whnf);(repeat'((first|apply bT|apply bF|apply bN|((first|apply bD|apply bEq|apply bNe)<;>intro hh<;>try(exfalso;omega))|refine iaJ hgx ?_|refine iaJ g1 ?_|refine iaJ gl ?_|refine iaJ gJ ?_|refine wJ ?_|refine nJ ?_)<;>conv=>whnf))
     all_goals
      refine ⟨rfl, ?_⟩
      unfold fIns
      dsimp only
      rw [<- hput, <- hput2, <- hput3]
      rfl
    ·-- those that have it
     have lt2 : (t1.set x.toNat true).length = tr.length := by simp [hl1]
     rw [goS_try hb hp]
     (conv=>whnf);(repeat'((first|apply bT|apply bF|apply bN|((first|apply bD|apply bEq|apply bNe)<;>intro hh<;>try(exfalso;omega))|refine iaJ hgx ?_|refine iaJ g1 ?_|refine iaJ gl ?_|refine wJ ?_|refine nJ ?_)<;>conv=>whnf))
     refine loop_i (α := Nat × List Bool) (fun q => [(59, .int .i64 q.1), (58, .int .i64 ↑(g.map jAV).length), (57, .row 1), (19, .int .i64 k), (18, .int .i64 ↑((fsG fs J).map jAV).length), (17, .isl ((fsG fs J).map jAV)), (8, .int .i64 x), (2, .row 3), (1, .int .i64 J), (0, .own 0 0)]) (fun q => fIns s pl lost lacks fs fx left g q.2) (fun q => q.1 <= g.length /\ q.2.length = tr.length /\ (∀ y, trB (t1.set x.toNat true) y = true -> trB q.2 y = true) /\ contS rec J xs x (goO rec x (List.range g.length) left g (t1.set x.toNat true)) = contS rec J xs x (goO rec x ((List.range g.length).drop q.1) left g q.2)) (fun q => g.length - q.1) (0, t1.set x.toNat true) ?_ ⟨by simp, lt2, fun y hy => hy, by simp⟩ ?_
     ·dsimp only
      unfold fIns
      rw [<- hput]
      exact mI
     rintro ⟨j, t2⟩ ⟨hj0, hl2, hs2', heq2⟩
     dsimp only at hj0 hl2 hs2' heq2 ⊢
     rw [heq2]
     clear heq2
     conv => whnf
     refine bD (fun h5 => ?_) (fun h5 => ?_)
     ·have hj : j < g.length := by omega
      have gj := jget hj
      have hdr : (List.range g.length).drop j = j :: (List.range g.length).drop (j + 1) := by
       rw [drop_cons (l := List.range g.length) (k := j) (by simpa using hj), List.getElem_range]
      rw [hdr]
      by_cases he : g.getD j 0 = x
      ·have hx2 : trB t2 x = true := hs2' x hsx
       have hu3 := trB_sub (tr := t1.set x.toNat true) (tr' := t2) (by rw [hl2, lt2]) hs2'
       obtain ⟨hG, hW⟩ := hrec t2 j hj (by rw [he]; exact hx2) hl2 (by omega)
       have hgo : goO rec x (j :: (List.range g.length).drop (j + 1)) left g t2 = (match rec left g t2 j with
         | ⟨true, l, h, t⟩ => ⟨true, l, h, t⟩
         | ⟨false, l, h, t⟩ => goO rec x ((List.range g.length).drop (j + 1)) l h t) := by
        rw [goO, if_pos he]
        try (generalize rec left g t2 j = q; obtain ⟨b, l, h, t⟩ := q; cases b <;> rfl)
       rw [hgo]
       generalize rec left g t2 j = q at hG hW
       obtain ⟨b, l', g', t3⟩ := q
       have hW : FnW Tryz.prog 106 [.own 0 0, .int .i64 (j : Nat), .row 3] (fIns s pl lost lacks fs fx left g t2) (fun r outs => r = .bool b /\ outs = fIns s pl lost lacks fs fx l' g' t3) := hW
       have hl3 := hG.len
       dsimp only at hl3
       (conv=>whnf);(repeat'((first|apply bT|apply bF|apply bN|((first|apply bD|apply bEq|apply bNe)<;>intro hh<;>try(exfalso;omega))|refine iaJ gj ?_|refine wJ ?_|refine nJ ?_)<;>conv=>whnf))
       refine hW.callwq [0, 1, 2, 3, 4, 5] rfl rfl ⟨rfl, rfl, rfl, rfl, rfl, rfl, trivial⟩ rfl rfl rfl rfl (fun r outs hr => ?_)
       obtain ⟨hr1, ho⟩ := hr
       subst hr1; subst ho
       refine ⟨⟨rfl, rfl, rfl, rfl⟩, ?_⟩
       cases b with
       | false =>
        obtain ⟨e1, e2, hF⟩ := hG.no rfl
        dsimp only at e1 e2 hF
        subst e1; subst e2
        (conv=>whnf);(repeat'((first|apply bT|apply bF|apply bN|((first|apply bD|apply bEq|apply bNe)<;>intro hh<;>try(exfalso;omega))|refine wJ ?_|refine nJ ?_)<;>conv=>whnf))
        exact ⟨(j + 1, t3), mI, ⟨by dsimp only; omega, by rw [hl3, hl2], fun y hy => hF.sup y (hs2' y hy), rfl⟩, by dsimp only; omega⟩
       | true =>
        have hWn := hG.yes rfl
        dsimp only at hWn
        have hJ1 : J < g'.length := by rw [hWn.gl]; exact hJ
        have lg1 : (g'.map jAV).length = g'.length := by simp
        have gJ1 := jget hJ1
        have hput3 : (g'.map jAV).set J [.int .i64 x] = (g'.set J x).map jAV := by rw [List.map_set]; rfl
        have hgl := hWn.gl
        (conv=>whnf);(repeat'((first|apply bT|apply bF|apply bN|((first|apply bD|apply bEq|apply bNe)<;>intro hh<;>try(exfalso;omega))|refine iaJ gJ1 ?_|refine wJ ?_|refine nJ ?_)<;>conv=>whnf))
        all_goals
         refine ⟨rfl, ?_⟩
         unfold fIns
         dsimp only [contS]
         rw [<- hput3]
         rfl
      ·have hgo : goO rec x (j :: (List.range g.length).drop (j + 1)) left g t2 = goO rec x ((List.range g.length).drop (j + 1)) left g t2 := by rw [goO, if_neg he]
       rw [hgo]
       (conv=>whnf);(repeat'((first|apply bT|apply bF|apply bN|((first|apply bD|apply bEq|apply bNe)<;>intro hh<;>try(exfalso;omega))|refine iaJ gj ?_|refine wJ ?_|refine nJ ?_)<;>conv=>whnf))
       exact ⟨(j + 1, t2), mI, ⟨by dsimp only; omega, hl2, hs2', rfl⟩, by dsimp only; omega⟩
     ·have : j = g.length := by omega
      subst this
      have hdn : (List.range g.length).drop g.length = [] := by simp
      rw [hdn]
      (conv=>whnf);(repeat'((first|apply bT|apply bF|apply bN|((first|apply bD|apply bEq|apply bNe)<;>intro hh<;>try(exfalso;omega))|refine wJ ?_|refine nJ ?_)<;>conv=>whnf))
      refine ⟨(k + 1, t2), mI, ⟨by dsimp only; omega, hl2, fun y hy => hs2' y (hsup2 y (hsup y hy)), ?_⟩, by dsimp only; omega⟩
      dsimp only
      rw [hxs]; rfl
  ·have : k = (fsG fs J).length := by omega
   subst this
   have hdn : (fsG fs J).drop (fsG fs J).length = [] := by simp
   rw [hdn]
   (conv=>whnf);(repeat'((first|apply bT|apply bF|apply bN|((first|apply bD|apply bEq|apply bNe)<;>intro hh<;>try(exfalso;omega))|refine wJ ?_|refine nJ ?_)<;>conv=>whnf))
   all_goals exact ⟨rfl, rfl⟩
theorem v106 (s : Ord) (pl : List Int) (lost lacks : Int) (fs fx : List (List Int)) (hfx : fx.length <= 1000) : ∀ (n : Nat) (left g : List Int) (tr : List Bool) (J : Nat), untr tr <= n -> Pre fs left g tr J -> FnW Tryz.prog 106 [.own 0 0, .int .i64 (J : Nat), .row 3] (fIns s pl lost lacks fs fx left g tr) (resG s pl lost lacks fs fx (gv fs n left g tr J)) := by
 intro n
 induction n with
 | zero =>
  intro left g tr J hn h
  rw [gv_eq]
  exact v106s s pl lost lacks fs fx hfx left g tr J _ h fun t2 j _ _ _ hu => absurd hu (by omega)
 | succ n ih =>
  intro left g tr J hn h
  rw [gv_eq]
  refine v106s s pl lost lacks fs fx hfx left g tr J _ h fun t2 j hj htj hl hu => ?_
  have hp : Pre fs left g t2 j := ⟨h.sp, by rw [hl]; exact h.lt, h.lg, by rw [<- h.lg]; exact hj, h.nn, h.gok, .inr htj, h.s1, h.s2, h.s3, h.s4⟩
  exact ⟨gv_ok n left g t2 j (by omega) hp, ih left g t2 j (by omega) hp⟩
structure WS where
 left : List Int
 g : List Int
 c : Int
def wF (s : Ord) (f : Fil) (o : Opt) : Nat -> WS
 | 0 => ⟨f.left, f.giv, f.lacks⟩
 | k + 1 => let q := wF s f o k
  let r := gv (f.rep ++ o.rep.take (k + 1)) s.many.length q.left (q.g ++ [-1]) (List.replicate s.many.length false) q.g.length
  ⟨r.left, r.g, if r.b = true then q.c else q.c + 1⟩
def withF (s : Ord) (f : Fil) (o : Opt) : Fil := ⟨f.pl ++ [o.pc], f.lost, f.rep ++ o.rep, (wF s f o o.rep.length).g, (wF s f o o.rep.length).left, (wF s f o o.rep.length).c⟩
theorem untr_rep (n : Nat) : untr (List.replicate n false) = n := by unfold untr; simp
theorem trB_repl (n : Nat) (x : Int) : trB (List.replicate n false) x = false := by unfold trB; rw [List.getD_eq_getElem?_getD, List.getElem?_replicate]; split <;> rfl
structure OptOk (s : Ord) (o : Opt) : Prop where
 r : Rng s.many.length o.rep
 l1 : o.rep.length <= 30
 l2 : ∀ l ∈ o.rep, l.length <= 100
theorem wF_pre {s : Ord} (hk : OkO s) {f : Fil} (hf : GoodF s f) {o : Opt} (ho : OptOk s o) {k : Nat} (hkl : k < o.rep.length) {left g : List Int} (hB : Best (f.rep ++ o.rep.take k) s.many left g) : Pre (f.rep ++ o.rep.take (k + 1)) left (g ++ [-1]) (List.replicate s.many.length false) g.length /\ f.rep ++ o.rep.take (k + 1) = f.rep ++ o.rep.take k ++ [o.rep[k]] /\ Rng s.many.length (f.rep ++ o.rep.take k ++ [o.rep[k]]) := by
 have htk : o.rep.take (k + 1) = o.rep.take k ++ [o.rep[k]] := List.take_succ_eq_append_getElem hkl
 have hfm : o.rep[k] ∈ o.rep := List.getElem_mem hkl
 have hRf : Rng s.many.length (f.rep ++ o.rep.take k ++ [o.rep[k]]) := by
  refine Rng.app.2 ⟨Rng.app.2 ⟨hf.rng, fun l hl => ho.r l (List.mem_of_mem_take hl)⟩, fun l hl => ?_⟩
  rw [List.mem_singleton.1 hl]; exact ho.r _ hfm
 have hlen : (f.rep ++ o.rep.take k).length = f.rep.length + k := by rw [List.length_append, List.length_take]; omega
 have hl1 := hf.l1
 have ho1 := ho.l1
 have hsl := sup_len hk
 have hml := many_len s
 have hl2 : ∀ l ∈ f.rep ++ o.rep.take k ++ [o.rep[k]], l.length <= 100 := fun l hl => by
  rcases List.mem_append.1 hl with hl | hl
  ·rcases List.mem_append.1 hl with hl | hl
   ·exact hf.l2 l hl
   ·exact ho.l2 l (List.mem_of_mem_take hl)
  ·rw [List.mem_singleton.1 hl]; exact ho.l2 _ hfm
 have hpre := pre_new hB hRf (by omega) (by omega) hl2 (many_le hk)
 have e : f.rep ++ o.rep.take (k + 1) = f.rep ++ o.rep.take k ++ [o.rep[k]] := by rw [htk, List.append_assoc]
 rw [e]
 exact ⟨hpre, rfl, hRf⟩
theorem wF_ok {s : Ord} (hk : OkO s) {f : Fil} (hf : GoodF s f) {o : Opt} (ho : OptOk s o) : ∀ k, k <= o.rep.length -> Best (f.rep ++ o.rep.take k) s.many (wF s f o k).left (wF s f o k).g /\ (wF s f o k).c = lackN (wF s f o k).g
 | 0, _ => by simpa [wF] using ⟨hf.best, hf.lk⟩
 | k + 1, hle => by
  obtain ⟨hB, hlk⟩ := wF_ok hk hf ho k (by omega)
  obtain ⟨hpre, e, hRf⟩ := wF_pre hk hf ho (by omega) hB
  have hG := gv_ok s.many.length _ _ _ _ (Nat.le_of_eq (untr_rep _)) hpre
  simp only [wF]
  generalize wF s f o k = q at *
  generalize gv (f.rep ++ o.rep.take (k + 1)) s.many.length q.left (q.g ++ [-1]) (List.replicate s.many.length false) q.g.length = r at hG ⊢
  obtain ⟨b, l', g', t'⟩ := r
  cases b with
  | false =>
   obtain ⟨e1, e2, hF⟩ := hG.no rfl
   dsimp only at e1 e2 hF
   subst e1; subst e2
   rw [e] at hF ⊢
   obtain ⟨a, b⟩ := best_fail hB hRf (trB_repl _) hF
   exact ⟨a, by simp only [Bool.false_eq_true, if_false]; rw [b]; omega⟩
  | true =>
   have hw := hG.yes rfl
   dsimp only at hw
   rw [e] at hw ⊢
   obtain ⟨a, b⟩ := best_win hB hRf hw
   exact ⟨a, by simp only [if_true]; rw [b]; exact hlk⟩
theorem withF_ok {s : Ord} (hk : OkO s) {f : Fil} (hf : GoodF s f) {o : Opt} (ho : OptOk s o) (h1 : f.rep.length + o.rep.length <= 60) (h2 : f.pl.length < 60) : GoodF s (withF s f o) := by
 obtain ⟨a, b⟩ := wF_ok hk hf ho o.rep.length (Nat.le_refl _)
 rw [List.take_length] at a
 refine ⟨a, b, Rng.app.2 ⟨hf.rng, ho.r⟩, by simp only [withF, List.length_append]; omega, fun l hl => ?_, by simp only [withF, List.length_append, List.length_singleton]; omega⟩
 rcases List.mem_append.1 hl with hl | hl
 ·exact hf.l2 l hl
 ·exact ho.l2 l hl
theorem v63e (s : Ord) (hk : OkO s) (f : Fil) (hf : GoodF s f) (pc : Int) : FnA Tryz.prog 63 [.agg (f.cells s.sto), .agg [.int .i64 pc, .isl []]] (· = .agg ((withF s f ⟨pc, []⟩).cells s.sto)) := by
 have lP : (f.pl.map jAV).length = f.pl.length := by simp
 have lR : (f.rep.map fAV).length = f.rep.length := by simp
 have hlg := hf.best.lg
 have hll := hf.best.ll
 have hl1 := hf.l1
 have hl3 := hf.l3
 have hsl := sup_len hk
 have hml := many_len s
 have e1 := q105 f.giv (by omega)
 have e2 := q105 f.left (by omega)
 have hlk := hf.lk
 refine fnA 14 ok63 (by simp) ?_
 (conv=>whnf);(repeat'((first|apply bT|apply bF|apply bN|((first|apply bD|apply bEq|apply bNe)<;>intro hh<;>try(exfalso;omega))|refine wJ ?_|refine nJ ?_)<;>conv=>whnf))
 refine slI (es' := f.pl.map jAV) (by omega) (by omega) (by omega) (fun e he => (j_one f.pl e he).1) (takej _ _ rfl) ?_
 (conv=>whnf);(repeat'((first|apply bT|apply bF|apply bN|((first|apply bD|apply bEq|apply bNe)<;>intro hh<;>try(exfalso;omega))|refine wJ ?_|refine nJ ?_)<;>conv=>whnf))
 refine apI (by simp [AV.one]) (by simp; omega) ?_
 (conv=>whnf);(repeat'((first|apply bT|apply bF|apply bN|((first|apply bD|apply bEq|apply bNe)<;>intro hh<;>try(exfalso;omega))|refine wJ ?_|refine nJ ?_)<;>conv=>whnf))
 refine slI (es' := f.rep.map fAV) (by omega) (by omega) (by omega) (fun e he => (f_one f.rep e he).1) (takej _ _ rfl) ?_
 (conv=>whnf);(repeat'((first|apply bT|apply bF|apply bN|((first|apply bD|apply bEq|apply bNe)<;>intro hh<;>try(exfalso;omega))|refine wJ ?_|refine nJ ?_)<;>conv=>whnf))
 refine apI (by simp) (by simp; omega) ?_
 (conv=>whnf);(repeat'((first|apply bT|apply bF|apply bN|((first|apply bD|apply bEq|apply bNe)<;>intro hh<;>try(exfalso;omega))|refine e1.oq rfl rfl rfl ?_|refine e2.oq rfl rfl rfl ?_|refine wJ ?_|refine nJ ?_)<;>conv=>whnf))
 refine loop_i (α := Unit) (fun _ => [(44, .int .i64 0), (43, .int .i64 0), (4, .own 2 0), (2, .own 0 0)]) (fun _ => [.box false [.ipt (s.stC s.mapF s.optAll), .row 4, .int .i64 f.lost, .tsl 1 (f.rep.map fAV), .row 6, .row 7, .int .i64 f.lacks], .fresh, .box false [.lit (.pointer none), .nils, .int .i64 0, .nils, .nils, .nils, .int .i64 0], .fresh, .row false 3 1 (f.pl.map jAV ++ [[.int .i64 pc]]), .fresh, .row false 3 1 (f.giv.map jAV), .row false 3 1 (f.left.map jAV), .fresh, .fresh, .fresh, .fresh, .fresh, .fresh]) (fun _ => True) (fun _ => 0) () mI trivial ?_
 intro _ _
 (conv=>whnf);(repeat'((first|apply bT|apply bF|apply bN|((first|apply bD|apply bEq|apply bNe)<;>intro hh<;>try(exfalso;omega))|refine wJ ?_|refine nJ ?_)<;>conv=>whnf))
 all_goals
  have e : withF s f ⟨pc, []⟩ = ⟨f.pl ++ [pc], f.lost, f.rep, f.giv, f.left, f.lacks⟩ := by simp [withF, wF]
  rw [e]
  unfold Fil.cells
  rw [List.map_append]
  rfl
theorem v63n (s : Ord) (hk : OkO s) (f : Fil) (hf : GoodF s f) (pc : Int) (r0 : List Int) (rs : List (List Int)) (ho : OptOk s ⟨pc, r0 :: rs⟩) : FnA Tryz.prog 63 [.agg (f.cells s.sto), .agg [.int .i64 pc, .isl ((r0 :: rs).map fAV)]] (· = .agg ((withF s f ⟨pc, r0 :: rs⟩).cells s.sto)) := by
 have lP : (f.pl.map jAV).length = f.pl.length := by simp
 have lR : (f.rep.map fAV).length = f.rep.length := by simp
 have lO : ((r0 :: rs).map fAV).length = (r0 :: rs).length := by simp
 have hlg := hf.best.lg
 have hll := hf.best.ll
 have hl1 := hf.l1
 have hl3 := hf.l3
 have hsl := sup_len hk
 have hml := many_len s
 have e1 := q105 f.giv (by omega)
 have e2 := q105 f.left (by omega)
 have hm : (f.rep ++ r0 :: rs).map fAV = f.rep.map fAV ++ (r0 :: rs).map fAV := List.map_append
 have h1 : (r0 :: rs).length <= 30 := ho.l1
 have h2 : ∀ l ∈ r0 :: rs, l.length <= 100 := ho.l2
 have hR : Rng s.many.length (r0 :: rs) := ho.r
 have hpl : (f.pl ++ [pc]).map jAV = f.pl.map jAV ++ [[.int .i64 pc]] := by rw [List.map_append]; rfl
 refine fnA 14 ok63 (by simp) ?_
 (conv=>whnf);(repeat'((first|apply bT|apply bF|apply bN|((first|apply bD|apply bEq|apply bNe)<;>intro hh<;>try(exfalso;omega))|refine wJ ?_|refine nJ ?_)<;>conv=>whnf))
 refine slI (es' := f.pl.map jAV) (by omega) (by omega) (by omega) (fun e he => (j_one f.pl e he).1) (takej _ _ rfl) ?_
 (conv=>whnf);(repeat'((first|apply bT|apply bF|apply bN|((first|apply bD|apply bEq|apply bNe)<;>intro hh<;>try(exfalso;omega))|refine wJ ?_|refine nJ ?_)<;>conv=>whnf))
 refine apI (by simp [AV.one]) (by simp; omega) ?_
 (conv=>whnf);(repeat'((first|apply bT|apply bF|apply bN|((first|apply bD|apply bEq|apply bNe)<;>intro hh<;>try(exfalso;omega))|refine wJ ?_|refine nJ ?_)<;>conv=>whnf))
 refine slI (es' := f.rep.map fAV) (by omega) (by omega) (by omega) (fun e he => (f_one f.rep e he).1) (takej _ _ rfl) ?_
 (conv=>whnf);(repeat'((first|apply bT|apply bF|apply bN|((first|apply bD|apply bEq|apply bNe)<;>intro hh<;>try(exfalso;omega))|refine wJ ?_|refine nJ ?_)<;>conv=>whnf))
 refine apI (f_one (r0 :: rs)) (by simp only [List.length_map]; omega) ?_
 (conv=>whnf);(repeat'((first|apply bT|apply bF|apply bN|((first|apply bD|apply bEq|apply bNe)<;>intro hh<;>try(exfalso;omega))|refine e1.oq rfl rfl rfl ?_|refine e2.oq rfl rfl rfl ?_|refine wJ ?_|refine nJ ?_)<;>conv=>whnf))
 refine loop_i (α := Nat) (fun q => [(44, .int .i64 q), (43, .int .i64 ↑((r0 :: rs).map fAV).length), (6, .int .i64 ↑(f.rep.map fAV).length), (4, .own 2 0), (2, .own 0 0)]) (fun q => [.box false [.ipt (s.stC s.mapF s.optAll), .row 4, .int .i64 f.lost, .row 5, .row 11, .row 7, .int .i64 (wF s f ⟨pc, r0 :: rs⟩ q).c], .fresh, .box false [.lit (.pointer none), .nils, .int .i64 0, .nils, .nils, .nils, .int .i64 0], .fresh, .row false 3 1 ((f.pl ++ [pc]).map jAV), .row false 27 1 ((f.rep ++ r0 :: rs).map fAV), .fresh, .row false 3 1 ((wF s f ⟨pc, r0 :: rs⟩ q).left.map jAV), .fresh, .fresh, .fresh, .row false 3 1 ((wF s f ⟨pc, r0 :: rs⟩ q).g.map jAV), .fresh, .fresh])
  (fun q => q <= (r0 :: rs).length) (fun q => (r0 :: rs).length - q) 0 (by dsimp only; rw [hm, hpl]; exact (mR 11 6)) (by omega) ?_
 intro k hk0
 have hW1 := wF_ok hk hf ho k hk0
 have hWs : wF s f ⟨pc, r0 :: rs⟩ (k + 1) = (let q := wF s f ⟨pc, r0 :: rs⟩ k
  let r := gv (f.rep ++ (r0 :: rs).take (k + 1)) s.many.length q.left (q.g ++ [-1]) (List.replicate s.many.length false) q.g.length
  ⟨r.left, r.g, if r.b = true then q.c else q.c + 1⟩) := rfl
 dsimp only at hWs
 have hpreF : ∀ hkl : k < (r0 :: rs).length, Pre (f.rep ++ (r0 :: rs).take (k + 1)) (wF s f ⟨pc, r0 :: rs⟩ k).left ((wF s f ⟨pc, r0 :: rs⟩ k).g ++ [-1]) (List.replicate s.many.length false) (wF s f ⟨pc, r0 :: rs⟩ k).g.length := fun hkl => (wF_pre hk hf ho hkl hW1.1).1
 obtain ⟨hB, hlk⟩ : Best (f.rep ++ (r0 :: rs).take k) s.many (wF s f ⟨pc, r0 :: rs⟩ k).left (wF s f ⟨pc, r0 :: rs⟩ k).g /\ (wF s f ⟨pc, r0 :: rs⟩ k).c = lackN (wF s f ⟨pc, r0 :: rs⟩ k).g := hW1
 have hfin : k = (r0 :: rs).length -> withF s f ⟨pc, r0 :: rs⟩ = ⟨f.pl ++ [pc], f.lost, f.rep ++ r0 :: rs, (wF s f ⟨pc, r0 :: rs⟩ k).g, (wF s f ⟨pc, r0 :: rs⟩ k).left, (wF s f ⟨pc, r0 :: rs⟩ k).c⟩ := fun e => by subst e; rfl
 generalize wF s f ⟨pc, r0 :: rs⟩ k = q at hWs hpreF hB hlk hfin ⊢
 obtain ⟨left, g, lc⟩ := q
 dsimp only at hWs hpreF hB hlk hfin ⊢
 conv => whnf
 refine bD (fun h3 => ?_) (fun h3 => ?_)
 ·have hkl : k < (r0 :: rs).length := by omega
  have htk : (r0 :: rs).take (k + 1) = (r0 :: rs).take k ++ [(r0 :: rs)[k]] := List.take_succ_eq_append_getElem hkl
  have hdr : f.rep ++ r0 :: rs = (f.rep ++ (r0 :: rs).take k ++ [(r0 :: rs)[k]]) ++ (r0 :: rs).drop (k + 1) := by
   rw [List.append_assoc f.rep, <- htk, List.append_assoc, List.take_append_drop]
  have hfm : (r0 :: rs)[k] ∈ r0 :: rs := List.getElem_mem hkl
  have hRf : Rng s.many.length (f.rep ++ (r0 :: rs).take k ++ [(r0 :: rs)[k]]) := by
   refine Rng.app.2 ⟨Rng.app.2 ⟨hf.rng, fun l hl => hR l (List.mem_of_mem_take hl)⟩, fun l hl => ?_⟩
   rw [List.mem_singleton.1 hl]; exact hR _ hfm
  have hlen : (f.rep ++ (r0 :: rs).take k).length = f.rep.length + k := by rw [List.length_append, List.length_take]; omega
  have hgl : g.length = f.rep.length + k := hB.lg.trans hlen
  have hdl : ((r0 :: rs).drop (k + 1)).length <= 1000 := by rw [List.length_drop]; omega
  have hl2 : ∀ l ∈ f.rep ++ (r0 :: rs).take k ++ [(r0 :: rs)[k]], l.length <= 100 := fun l hl => by
   rcases List.mem_append.1 hl with hl | hl
   ·rcases List.mem_append.1 hl with hl | hl
    ·exact hf.l2 l hl
    ·exact h2 l (List.mem_of_mem_take hl)
   ·rw [List.mem_singleton.1 hl]; exact h2 _ hfm
  have hpre := hpreF hkl
  have hG := gv_ok s.many.length _ _ _ _ (Nat.le_of_eq (untr_rep _)) hpre
  have hgv := v106 s (f.pl ++ [pc]) f.lost lc (f.rep ++ (r0 :: rs).take (k + 1)) ((r0 :: rs).drop (k + 1)) hdl s.many.length left (g ++ [-1]) (List.replicate s.many.length false) g.length (Nat.le_of_eq (untr_rep _)) hpre
  unfold resG fIns at hgv
  rw [show f.rep ++ (r0 :: rs).take (k + 1) ++ (r0 :: rs).drop (k + 1) = f.rep ++ r0 :: rs by rw [List.append_assoc, List.take_append_drop]] at hgv
  clear hpreF hpre
  generalize gv (f.rep ++ (r0 :: rs).take (k + 1)) s.many.length left (g ++ [-1]) (List.replicate s.many.length false) g.length = rr at hWs hG hgv
  obtain ⟨b, left', g', t3⟩ := rr
  dsimp only at hWs hgv
  have hll2 : left.length = s.many.length := hB.ll
  have lL : (left.map jAV).length = left.length := by simp
  have lG : (g.map jAV).length = g.length := by simp
  have hrep : List.replicate (↑(left.map jAV).length : Int).toNat [AV.bool false] = (List.replicate s.many.length false).map bAV := by simp [bAV, hll2]
  have hg1 : (g ++ [-1]).map jAV = g.map jAV ++ [[.int .i64 (-1)]] := by rw [List.map_append]; rfl
  have hJ : ((g.length : Nat) : Int) = ↑(f.rep.map fAV).length + (k : Int) := by rw [hgl, lR]; simp
  have hlc0 : 0 <= lc /\ lc <= 1000 := by
   have : lackN g <= g.length := List.count_le_length
   omega
  rw [hg1, <- hrep, hJ] at hgv
  (conv=>whnf);(repeat'((first|apply bT|apply bF|apply bN|((first|apply bD|apply bEq|apply bNe)<;>intro hh<;>try(exfalso;omega))|refine wJ ?_|refine nJ ?_)<;>conv=>whnf))
  refine apI (by simp [AV.one]) (by simp; omega) ?_
  (conv=>whnf);(repeat'((first|apply bT|apply bF|apply bN|((first|apply bD|apply bEq|apply bNe)<;>intro hh<;>try(exfalso;omega))|refine mkI (by omega) (by omega) (by omega) ?_|refine wJ ?_|refine nJ ?_)<;>conv=>whnf))
  refine hgv.callwq [0, 9, 7, 10, 4, 5] rfl rfl ⟨rfl, rfl, rfl, rfl, rfl, rfl, trivial⟩ rfl rfl rfl rfl (fun r outs hr => ?_)
  obtain ⟨hr1, ho'⟩ := hr
  subst hr1; subst ho'
  refine ⟨⟨rfl, rfl, rfl, rfl⟩, ?_⟩
  cases b with
  | false =>
   obtain ⟨q1, q2, hF⟩ := hG.no rfl
   dsimp only at q1 q2
   subst q1; subst q2
   simp only [Bool.false_eq_true, if_false] at hWs
   (conv=>whnf);(repeat'((first|apply bT|apply bF|apply bN|((first|apply bD|apply bEq|apply bNe)<;>intro hh<;>try(exfalso;omega))|refine wJ ?_|refine nJ ?_)<;>conv=>whnf))
   refine ⟨k + 1, ?_, by omega, by omega⟩
   rw [hWs]
   exact (mR 11 9)
  | true =>
   simp only [if_true] at hWs
   (conv=>whnf);(repeat'((first|apply bT|apply bF|apply bN|((first|apply bD|apply bEq|apply bNe)<;>intro hh<;>try(exfalso;omega))|refine wJ ?_|refine nJ ?_)<;>conv=>whnf))
   refine ⟨k + 1, ?_, by omega, by omega⟩
   rw [hWs]
   exact (mR 11 9)
 ·rw [hfin (by omega)]
  (conv=>whnf);(repeat'((first|apply bT|apply bF|apply bN|((first|apply bD|apply bEq|apply bNe)<;>intro hh<;>try(exfalso;omega))|refine wJ ?_|refine nJ ?_)<;>conv=>whnf))
  all_goals rfl
theorem v63 (s : Ord) (hk : OkO s) (f : Fil) (hf : GoodF s f) (o : Opt) (ho : OptOk s o) : FnA Tryz.prog 63 [.agg (f.cells s.sto), .agg o.av] (· = .agg ((withF s f o).cells s.sto)) := by
 obtain ⟨pc, rep⟩ := o
 cases rep with
 | nil => exact v63e s hk f hf pc
 | cons r0 rs => exact v63n s hk f hf pc r0 rs ho
theorem opt_some {s : Ord} {i j : Int} {o : Opt} (h : s.opt i j = some o) : s.optB i j = true /\ o = ⟨j, s.reps i j⟩ := by
 unfold Ord.opt at h
 split at h
 ·rename_i hb; exact ⟨hb, (Option.some.inj h).symm⟩
 ·cases h
theorem opts_mem {s : Ord} {i : Int} {o : Opt} : o ∈ s.opts i <-> ∃ j : Nat, j < s.ps.length /\ s.opt i (j : Nat) = some o := by
 unfold Ord.opts Ord.optK
 simp only [List.mem_filterMap, List.mem_range]
theorem opts_ok {s : Ord} (hk : OkO s) {i : Int} {o : Opt} (h : o ∈ s.opts i) : OptOk s o /\ o.rep.length <= 4 := by
 obtain ⟨j, hj, ho⟩ := opts_mem.1 h
 obtain ⟨_, rfl⟩ := opt_some ho
 have hp : s.isP (j : Nat) = true := isP_iff.2 ⟨by omega, by omega⟩
 have hb := (br_le hk (piece_mem hp)).1
 have hl : (s.reps i (j : Nat)).length = (s.piece (j : Nat)).br.length := by unfold Ord.reps; simp
 have hml := many_len s
 have hsl := sup_len hk
 refine ⟨⟨fun l hl x hx => ?_, by dsimp only; omega, fun l hl => ?_⟩, by dsimp only; omega⟩
 ·obtain ⟨k, _, rfl⟩ := List.mem_map.1 hl
  have := (inT_mem.1 hx).1
  omega
 ·obtain ⟨k, _, rfl⟩ := List.mem_map.1 hl
  have := inK_len s (s.fitL ((s.piece (j : Nat)).mkr, k)) (s.by_ i (j : Nat)) s.sup.length
  exact Nat.le_trans this (by omega)
def emF (s : Ord) : Fil := ⟨[], 0, [], [], s.many, 0⟩
theorem em_ok {s : Ord} (hk : OkO s) : GoodF s (emF s) :=
 ⟨⟨rfl, rfl, many_nn hk, (fun j hj => by cases hj), (fun x hx => by simp [emF]), (fun j hj => by cases hj)⟩, rfl, (fun l hl => by cases hl), by simp [emF], (fun l hl => by cases hl), by simp [emF]⟩
theorem v62 (s : Ord) (hk : OkO s) : FnA Tryz.prog 62 [.ipt (s.stC s.mapF s.optAll)] (· = .agg ((emF s).cells s.sto)) := by
 have hsl := sup_len hk
 have hml := many_len s
 have lS : (s.sup.map Dlv.av).length = s.sup.length := by simp
 refine fnA 6 ok62 (by simp) ?_
 (conv=>whnf);(repeat'((first|apply bT|apply bF|apply bN|((first|apply bD|apply bEq|apply bNe)<;>intro hh<;>try(exfalso;omega))|refine wJ ?_|refine nJ ?_)<;>conv=>whnf))
 refine loop_i (α := Nat) (fun k => [(13, .int .i64 k), (12, .int .i64 ↑(s.sup.map Dlv.av).length), (11, .isl (s.sup.map Dlv.av)), (3, .own 1 0), (2, .own 0 0)]) (fun k => [.box false [.lit (.pointer none), .nils, .int .i64 0, .nils, .nils, .nils, .int .i64 0], .box false [.ipt (s.stC s.mapF s.optAll), .nils, .int .i64 0, .nils, .nils, .row 5, .int .i64 0], .fresh, .fresh, .fresh, .row false 3 1 ((s.many.take k).map jAV)]) (fun k => k <= s.sup.length) (fun k => s.sup.length - k) 0 (mN 5) (by omega) ?_
 intro k hk0
 conv => whnf
 refine bD (fun h3 => ?_) (fun h3 => ?_)
 ·have hkl : k < s.sup.length := by omega
  have g1 := suget hkl
  have hm : (s.many.take (k + 1)).map jAV = (s.many.take k).map jAV ++ [[.int .i64 (s.su k).many]] := by
   have e : s.many[k]'(by omega) = (s.su k).many := by
    unfold Ord.many Ord.su; simp [List.getD_eq_getElem?_getD, hkl]
   rw [List.take_succ_eq_append_getElem (by omega), List.map_append, e]; rfl
  have lk : ((s.many.take k).map jAV).length <= 100 := by rw [List.length_map, List.length_take]; omega
  (conv=>whnf);(repeat'((first|apply bT|apply bF|apply bN|((first|apply bD|apply bEq|apply bNe)<;>intro hh<;>try(exfalso;omega))|refine iaJ g1 ?_|refine wJ ?_|refine nJ ?_)<;>conv=>whnf))
  refine apJ ?_
  (conv=>whnf);(repeat'((first|apply bT|apply bF|apply bN|((first|apply bD|apply bEq|apply bNe)<;>intro hh<;>try(exfalso;omega))|refine wJ ?_|refine nJ ?_)<;>conv=>whnf))
  refine ⟨k + 1, ?_, by omega, by omega⟩
  simp only [hm]
  exact (mR 5 4)
 ·have : k = s.many.length := by omega
  subst this
  rw [List.take_length]
  (conv=>whnf);(repeat'((first|apply bT|apply bF|apply bN|((first|apply bD|apply bEq|apply bNe)<;>intro hh<;>try(exfalso;omega))|refine wJ ?_|refine nJ ?_)<;>conv=>whnf))
  all_goals rfl
def woF (s : Ord) (f : Fil) : Fil := { f with pl := f.pl ++ [-1], lost := f.lost + (s.wish (f.pl.length : Nat)).pr }
theorem wo_ok {s : Ord} {f : Fil} (hf : GoodF s f) (h : f.pl.length < 60) : GoodF s (woF s f) := ⟨hf.best, hf.lk, hf.rng, hf.l1, hf.l2, by simp [woF]; omega⟩
theorem wish_pr {s : Ord} (hk : OkO s) {i : Int} (hi : s.isW i = true) : 0 <= (s.wish i).pr /\ (s.wish i).pr <= 100000 := by
 have h := hk.w2 _ (wish_mem hi)
 unfold okWi at h
 simp only [Bool.and_eq_true, decide_eq_true_eq] at h
 exact h.2
theorem v97 (s : Ord) (hk : OkO s) (f : Fil) (hf : GoodF s f) (hp : f.pl.length < s.ws.length) (hl : 0 <= f.lost /\ f.lost <= 1000000000) : FnA Tryz.prog 97 [.agg (f.cells s.sto)] (· = .agg ((woF s f).cells s.sto)) := by
 have lP : (f.pl.map jAV).length = f.pl.length := by simp
 have lW : (s.ws.map Wish.av).length = s.ws.length := by simp
 have hl3 := hf.l3
 have hi : s.isW (f.pl.length : Nat) = true := isW_iff.2 ⟨by omega, by omega⟩
 have hpr := wish_pr hk hi
 have g1 : (s.ws.map Wish.av).getD (↑(f.pl.map jAV).length : Int).toNat [] = (s.wish (f.pl.length : Nat)).av := by rw [lP]; exact wget hi
 refine fnA 4 ok97 (by simp) ?_
 (conv=>whnf);(repeat'((first|apply bT|apply bF|apply bN|((first|apply bD|apply bEq|apply bNe)<;>intro hh<;>try(exfalso;omega))|refine wJ ?_|refine nJ ?_)<;>conv=>whnf))
 refine slI (es' := f.pl.map jAV) (by omega) (by omega) (by omega) (fun e he => (j_one f.pl e he).1) (takej _ _ rfl) ?_
 (conv=>whnf);(repeat'((first|apply bT|apply bF|apply bN|((first|apply bD|apply bEq|apply bNe)<;>intro hh<;>try(exfalso;omega))|refine wJ ?_|refine nJ ?_)<;>conv=>whnf))
 refine apI (by simp [AV.one]) (by simp; omega) ?_
 (conv=>whnf);(repeat'((first|apply bT|apply bF|apply bN|((first|apply bD|apply bEq|apply bNe)<;>intro hh<;>try(exfalso;omega))|refine iaJ g1 ?_|refine wJ ?_|refine nJ ?_)<;>conv=>whnf))
 all_goals
  unfold woF Fil.cells
  rw [List.map_append]
  rfl
def Ord.sumP (s : Ord) : Nat -> Int
 | 0 => 0
 | k + 1 => s.sumP k + (s.wish (k : Nat)).pr
theorem sumP_bd {s : Ord} (hk : OkO s) : ∀ k, k <= s.ws.length -> 0 <= s.sumP k /\ s.sumP k <= 100000 * k
 | 0, _ => by simp [Ord.sumP]
 | k + 1, h => by
  have := sumP_bd hk k (by omega)
  have := wish_pr hk (i := (k : Nat)) (isW_iff.2 ⟨by omega, by omega⟩)
  simp only [Ord.sumP]; omega
theorem v56 (s : Ord) (hk : OkO s) (f : Fil) (hp : f.pl.length <= s.ws.length) (hl : 0 <= f.lost /\ f.lost <= 1000000000) : FnA Tryz.prog 56 [.agg (f.cells s.sto)] (· = .int .i64 (s.sumP f.pl.length - f.lost)) := by
 have lP : (f.pl.map jAV).length = f.pl.length := by simp
 have lW : (s.ws.map Wish.av).length = s.ws.length := by simp
 have hw1 := hk.w1
 have lT : ((s.ws.take f.pl.length).map Wish.av).length = f.pl.length := by rw [List.length_map, List.length_take]; omega
 have hone : ∀ e ∈ s.ws.map Wish.av, e.length = 6 := fun e he => by obtain ⟨x, _, rfl⟩ := List.mem_map.1 he; rfl
 refine fnA 2 ok56 (by simp) ?_
 (conv=>whnf);(repeat'((first|apply bT|apply bF|apply bN|((first|apply bD|apply bEq|apply bNe)<;>intro hh<;>try(exfalso;omega))|refine wJ ?_|refine nJ ?_)<;>conv=>whnf))
 refine slI (es' := (s.ws.take f.pl.length).map Wish.av) (by omega) (by omega) (by omega) hone (by rw [lP]; simp) ?_
 (conv=>whnf);(repeat'((first|apply bT|apply bF|apply bN|((first|apply bD|apply bEq|apply bNe)<;>intro hh<;>try(exfalso;omega))|refine wJ ?_|refine nJ ?_)<;>conv=>whnf))
 refine loop_i (α := Nat) (fun k => [(20, .int .i64 k), (19, .int .i64 ↑((s.ws.take f.pl.length).map Wish.av).length), (18, .isl ((s.ws.take f.pl.length).map Wish.av)), (3, .int .i64 (s.sumP k - f.lost))]) (fun k => [.fresh, .fresh]) (fun k => k <= f.pl.length) (fun k => f.pl.length - k) 0 (by rw [show s.sumP 0 = 0 from rfl]; exact mI) (by omega) ?_
 intro k hk0
 conv => whnf
 refine bD (fun h3 => ?_) (fun h3 => ?_)
 ·have hkl : k < f.pl.length := by omega
  have hi : s.isW (k : Nat) = true := isW_iff.2 ⟨by omega, by omega⟩
  have hpr := wish_pr hk hi
  have hsb := sumP_bd hk k (by omega)
  have g1 : ((s.ws.take f.pl.length).map Wish.av).getD k [] = (s.wish (k : Nat)).av := by
   rw [getM Wish.av _ k (by rw [List.length_take]; omega)]
   congr 1
   unfold Ord.wish
   simp [List.getD_eq_getElem?_getD, show k < s.ws.length by omega]
  have hs : s.sumP (k + 1) - f.lost = s.sumP k - f.lost + (s.wish (k : Nat)).pr := by simp only [Ord.sumP]; omega
  (conv=>whnf);(repeat'((first|apply bT|apply bF|apply bN|((first|apply bD|apply bEq|apply bNe)<;>intro hh<;>try(exfalso;omega))|refine iaJ g1 ?_|refine wJ ?_|refine nJ ?_)<;>conv=>whnf))
  refine ⟨k + 1, ?_, by omega, by omega⟩
  simp only [hs]
  exact mI
 ·have : k = f.pl.length := by omega
  subst this
  (conv=>whnf);(repeat'((first|apply bT|apply bF|apply bN|((first|apply bD|apply bEq|apply bNe)<;>intro hh<;>try(exfalso;omega))|refine wJ ?_|refine nJ ?_)<;>conv=>whnf))
  all_goals rfl
def nextO (s : Ord) (f : Fil) : List Opt := (s.opts (f.pl.length : Nat)).filter fun o => !decide (o.pc ∈ f.pl)
def stepL (s : Ord) (f : Fil) : List Fil := (nextO s f).map (withF s f)
theorem i107 (s : Ord) (hk : OkO s) (f : Fil) (hf : GoodF s f) (hp : f.pl.length < s.ws.length) : ItM Tryz.prog 107 [.agg (f.cells s.sto)] ((stepL s f).map fun x => [.agg (x.cells s.sto)]) := by
 have lP : (f.pl.map jAV).length = f.pl.length := by simp
 have hl3 := hf.l3
 have lO : (s.optAll.map optsAV).length = s.ws.length := by rw [List.length_map]; exact optA_len s _
 have hw1 := hk.w1
 have g0 : (s.optAll.map optsAV).getD (↑(f.pl.map jAV).length : Int).toNat [] = [.isl ((s.opts (f.pl.length : Nat)).map Opt.av)] := by
  rw [lP]
  have hl : (f.pl.length : Int).toNat < s.optAll.length := by have := optA_len s s.ws.length; unfold Ord.optAll; omega
  rw [getM optsAV s.optAll _ hl]
  have : s.optAll[(f.pl.length : Int).toNat]'hl = s.opts (f.pl.length : Nat) := by simp [Ord.optAll, Ord.optA]
  rw [this]; rfl
 have hlo : (s.opts (f.pl.length : Nat)).length <= 8 := Nat.le_trans (optK_len s _ _) hk.p1
 have hall := fun o (h : o ∈ s.opts (f.pl.length : Nat)) => (opts_ok hk h).1
 unfold stepL nextO
 generalize s.opts (f.pl.length : Nat) = L at g0 hlo hall
 have lL : (L.map Opt.av).length = L.length := by simp
 refine itM 6 ok107 (by simp) ?_
 (conv=>whnf);(repeat'((first|apply bT|apply bF|apply bN|((first|apply bD|apply bEq|apply bNe)<;>intro hh<;>try(exfalso;omega))|refine iaJ g0 ?_|refine wJ ?_|refine nJ ?_)<;>conv=>whnf))
 refine loop_y (α := Nat) (fun m => [(17, .int .i64 m), (16, .int .i64 ↑(L.map Opt.av).length), (15, .isl (L.map Opt.av)), (2, .own 0 0), (1, .yld)]) (fun m => [.box false (f.cells s.sto), .fresh, .fresh, .fresh, .fresh, .fresh]) (fun m => ⟨[], ((L.take m).filter fun o => !decide (o.pc ∈ f.pl)).length, false⟩) (fun m => m <= L.length) (fun m => L.length - m) 0 mI (by omega) ?_
 intro m hm0
 conv => whnf
 refine bD (fun h3 => ?_) (fun h3 => ?_)
 ·have hm : m < L.length := by omega
  have g1 := oget Opt.av L hm
  have hom := List.getElem_mem hm
  have htk : L.take (m + 1) = L.take m ++ [L[m]] := List.take_succ_eq_append_getElem hm
  have hd : L.drop m = L[m] :: L.drop (m + 1) := drop_cons hm
  have hsplit : L = L.take m ++ L[m] :: L.drop (m + 1) := by rw [<- hd, List.take_append_drop]
  generalize L[m] = o at g1 hom htk hsplit
  have e1 := p89 f.pl o.pc (by omega)
  by_cases hc : o.pc ∈ f.pl
  ·rw [decide_eq_true hc] at e1
   have hlen : ((L.take (m + 1)).filter fun o => !decide (o.pc ∈ f.pl)).length = ((L.take m).filter fun o => !decide (o.pc ∈ f.pl)).length := by
    rw [htk, List.filter_append]; simp [hc]
   (conv=>whnf);(repeat'((first|apply bT|apply bF|apply bN|((first|apply bD|apply bEq|apply bNe)<;>intro hh<;>try(exfalso;omega))|refine iaJ g1 ?_|refine e1.cq rfl rfl ?_|refine wJ ?_|refine nJ ?_)<;>conv=>whnf))
   refine ⟨m + 1, ?_, by omega, by omega⟩
   simp only [hlen]
   exact mI
  ·rw [decide_eq_false hc] at e1
   have hlen : ((L.take (m + 1)).filter fun o => !decide (o.pc ∈ f.pl)).length = ((L.take m).filter fun o => !decide (o.pc ∈ f.pl)).length + 1 := by
    rw [htk, List.filter_append]; simp [hc]
   have hget : (((L.filter fun o => !decide (o.pc ∈ f.pl)).map (withF s f)).map fun x => [AV.agg (x.cells s.sto)])[((L.take m).filter fun o => !decide (o.pc ∈ f.pl)).length]? = some [.agg ((withF s f o).cells s.sto)] := by
    have : L.filter (fun o => !decide (o.pc ∈ f.pl)) = (L.take m).filter (fun o => !decide (o.pc ∈ f.pl)) ++ o :: (L.drop (m + 1)).filter fun o => !decide (o.pc ∈ f.pl) := by
     conv => lhs; rw [hsplit]
     rw [List.filter_append, List.filter_cons_of_pos (by simp [hc])]
    rw [this, List.getElem?_map, List.getElem?_map, List.getElem?_append_right (Nat.le_refl _)]
    simp
   have e2 := v63 s hk f hf o (hall o hom)
   (conv=>whnf);(repeat'((first|apply bT|apply bF|apply bN|((first|apply bD|apply bEq|apply bNe)<;>intro hh<;>try(exfalso;omega))|refine iaJ g1 ?_|refine e1.cq rfl rfl ?_|refine wJ ?_|refine nJ ?_)<;>conv=>whnf))
   refine e2.callzq rfl rfl (fun _ h => ?_); subst h
   (conv=>whnf);(repeat'((first|apply bT|apply bF|apply bN|((first|apply bD|apply bEq|apply bNe)<;>intro hh<;>try(exfalso;omega))|refine wJ ?_|refine nJ ?_)<;>conv=>whnf))
   refine yZ rfl rfl rfl hget ?_ ?_
   ·(conv=>whnf);(repeat'((first|apply bT|apply bF|apply bN|((first|apply bD|apply bEq|apply bNe)<;>intro hh<;>try(exfalso;omega))|refine wJ ?_|refine nJ ?_)<;>conv=>whnf))
    refine ⟨m + 1, ?_, by omega, by omega⟩
    simp only [hlen]
    exact mI
   ·(conv=>whnf);(repeat'((first|apply bT|apply bF|apply bN|((first|apply bD|apply bEq|apply bNe)<;>intro hh<;>try(exfalso;omega))|refine wJ ?_|refine nJ ?_)<;>conv=>whnf))
    all_goals exact .inl rfl
 ·have : m = L.length := by omega
  subst this
  conv => whnf
  right
  simp
structure GoodP (s : Ord) (f : Fil) : Prop where
 g : GoodF s f
 p : f.pl.length <= s.ws.length
 l : 0 <= f.lost /\ f.lost <= 100000 * f.pl.length
 r : f.rep.length <= 4 * f.pl.length
theorem emP {s : Ord} (hk : OkO s) : GoodP s (emF s) := ⟨em_ok hk, by simp [emF], by simp [emF], by simp [emF]⟩
theorem woP {s : Ord} (hk : OkO s) {f : Fil} (h : GoodP s f) (hp : f.pl.length < s.ws.length) : GoodP s (woF s f) := by
 have hw1 := hk.w1
 have hpr := wish_pr hk (i := (f.pl.length : Nat)) (isW_iff.2 ⟨by omega, by omega⟩)
 have h1 := h.l
 have h2 := h.r
 refine ⟨wo_ok h.g (by omega), ?_, ?_, ?_⟩
 ·simp only [woF, List.length_append, List.length_singleton]; omega
 ·simp only [woF, List.length_append, List.length_singleton]; omega
 ·simp only [woF, List.length_append, List.length_singleton]; omega
theorem withP {s : Ord} (hk : OkO s) {f : Fil} (h : GoodP s f) (hp : f.pl.length < s.ws.length) {o : Opt} (ho : o ∈ s.opts (f.pl.length : Nat)) : GoodP s (withF s f o) := by
 have hw1 := hk.w1
 obtain ⟨h3, h4⟩ := opts_ok hk ho
 have h1 := h.l
 have h2 := h.r
 refine ⟨withF_ok hk h.g h3 (by omega) (by omega), ?_, ?_, ?_⟩
 ·simp only [withF, List.length_append, List.length_singleton]; omega
 ·simp only [withF, List.length_append, List.length_singleton]; omega
 ·simp only [withF, List.length_append, List.length_singleton]; omega
theorem step_mem {s : Ord} {f x : Fil} (h : x ∈ stepL s f) : ∃ o, o ∈ s.opts (f.pl.length : Nat) /\ o.pc ∉ f.pl /\ x = withF s f o := by
 unfold stepL nextO at h
 obtain ⟨o, ho, rfl⟩ := List.mem_map.1 h
 obtain ⟨h1, h2⟩ := List.mem_filter.1 ho
 exact ⟨o, h1, by simpa using h2, rfl⟩
def betF (s : Ord) : Nat -> Fil -> Fil -> Fil
 | 0, f, b => if b.lost <= f.lost then b else f
 | n + 1, f, b => if b.lost <= f.lost then b else betF s n (woF s f) ((stepL s f).foldl (fun b x => if x.lacks = 0 then betF s n x b else b) b)
theorem v98 (s : Ord) (hk : OkO s) : ∀ (n : Nat) (f b : Fil), f.pl.length + n = s.ws.length -> GoodP s f -> FnA Tryz.prog 98 [.agg (f.cells s.sto), .agg (b.cells s.sto)] (· = .agg ((betF s n f b).cells s.sto)) := by
 intro n
 induction n with
 | zero =>
  intro f b hn h
  have lP : (f.pl.map jAV).length = f.pl.length := by simp
  have lW : (s.ws.map Wish.av).length = s.ws.length := by simp
  refine fnA 16 ok98 (by simp) ?_
  unfold betF
  by_cases hc : b.lost <= f.lost
  ·rw [if_pos hc]
   (conv=>whnf);(repeat'((first|apply bT|apply bF|apply bN|((first|apply bD|apply bEq|apply bNe)<;>intro hh<;>try(exfalso;omega))|refine wJ ?_|refine nJ ?_)<;>conv=>whnf))
   all_goals rfl
  ·rw [if_neg hc]
   (conv=>whnf);(repeat'((first|apply bT|apply bF|apply bN|((first|apply bD|apply bEq|apply bNe)<;>intro hh<;>try(exfalso;omega))|refine wJ ?_|refine nJ ?_)<;>conv=>whnf))
   all_goals rfl
 | succ n ih =>
  intro f b hn h
  have lP : (f.pl.map jAV).length = f.pl.length := by simp
  have lW : (s.ws.map Wish.av).length = s.ws.length := by simp
  have hw1 := hk.w1
  have hl := h.l
  refine fnA 16 ok98 (by simp) ?_
  unfold betF
  by_cases hc : b.lost <= f.lost
  ·rw [if_pos hc]
   (conv=>whnf);(repeat'((first|apply bT|apply bF|apply bN|((first|apply bD|apply bEq|apply bNe)<;>intro hh<;>try(exfalso;omega))|refine wJ ?_|refine nJ ?_)<;>conv=>whnf))
   all_goals rfl
  rw [if_neg hc]
  (conv=>whnf);(repeat'((first|apply bT|apply bF|apply bN|((first|apply bD|apply bEq|apply bNe)<;>intro hh<;>try(exfalso;omega))|refine wJ ?_|refine nJ ?_)<;>conv=>whnf))
  refine rng_iM (α := Nat × Fil) ((stepL s f).map fun x : Fil => [AV.agg (x.cells s.sto)]) [0, 1, 2] [(4, .own 2 0), (3, .own 1 0), (2, .own 0 0)] (fun q => [.box false (f.cells s.sto), .box false (q.2.cells s.sto), .box false [.lit (.pointer none), .nils, .int .i64 0, .nils, .nils, .nils, .int .i64 0], .fresh, .fresh, .fresh, .fresh, .fresh, .fresh, .fresh, .fresh, .fresh, .fresh, .fresh, .fresh, .fresh])
   (fun k q => q.1 = k /\ q.2 = ((stepL s f).take k).foldl (fun b x => if x.lacks = 0 then betF s n x b else b) b) (0, b) rfl bd107 (i107 s hk f h.g (by omega)) rfl ?_ rfl ⟨rfl, rfl⟩ (fun v hv => by obtain ⟨q, _, rfl⟩ := List.mem_map.1 hv; rfl) ?_ ?_
  ·exact mI
  ·rintro k v ⟨a, c⟩ hv ⟨rfl, hc2⟩
   dsimp only at hv hc2 ⊢
   obtain ⟨x, hx, rfl⟩ : ∃ x, (stepL s f)[a]? = some x /\ [AV.agg (x.cells s.sto)] = v := by simpa using hv
   obtain ⟨hk1, hxe⟩ := List.getElem?_eq_some_iff.1 hx
   have hxm : x ∈ stepL s f := List.mem_of_getElem? hx
   obtain ⟨o, ho1, _, hxo⟩ := step_mem hxm
   have hxP : GoodP s x := hxo ▸ withP hk h (by omega) ho1
   have hxl : x.pl.length + n = s.ws.length := by rw [hxo]; simp only [withF, List.length_append, List.length_singleton]; omega
   have e1 := ih x c hxl hxP
   have hsu : ((stepL s f).take (a + 1)).foldl (fun b x => if x.lacks = 0 then betF s n x b else b) b = if x.lacks = 0 then betF s n x c else c := by
    rw [List.take_succ_eq_append_getElem hk1, List.foldl_append, <- hc2, hxe]; rfl
   clear hx hxe hv
   by_cases h0 : x.lacks = 0
   ·rw [if_pos h0] at hsu
    (conv=>whnf);(repeat'((first|apply bT|apply bF|apply bN|((first|apply bD|apply bEq|apply bNe)<;>intro hh<;>try(exfalso;omega))|refine wJ ?_|refine nJ ?_)<;>conv=>whnf))
    refine e1.callzq rfl rfl (fun _ h => ?_); subst h
    (conv=>whnf);(repeat'((first|apply bT|apply bF|apply bN|((first|apply bD|apply bEq|apply bNe)<;>intro hh<;>try(exfalso;omega))|refine wJ ?_|refine nJ ?_)<;>conv=>whnf))
    exact ⟨(a + 1, betF s n x c), mI, rfl, hsu.symm⟩
   ·rw [if_neg h0] at hsu
    (conv=>whnf);(repeat'((first|apply bT|apply bF|apply bN|((first|apply bD|apply bEq|apply bNe)<;>intro hh<;>try(exfalso;omega))|refine wJ ?_|refine nJ ?_)<;>conv=>whnf))
    exact ⟨(a + 1, c), mI, rfl, hsu.symm⟩
  ·rintro ⟨a, c⟩ ⟨ha, hc2⟩
   dsimp only at hc2 ⊢
   have hT : ((stepL s f).map fun x => [AV.agg (x.cells s.sto)]).length = (stepL s f).length := by simp
   rw [hT, List.take_length] at hc2
   rw [<- hc2]
   have e1 := v97 s hk f h.g (by omega) (by omega)
   have e2 := ih (woF s f) c (by simp only [woF, List.length_append, List.length_singleton]; omega) (woP hk h (by omega))
   (conv=>whnf);(repeat'((first|apply bT|apply bF|apply bN|((first|apply bD|apply bEq|apply bNe)<;>intro hh<;>try(exfalso;omega))|refine wJ ?_|refine nJ ?_)<;>conv=>whnf))
   refine e1.callzq rfl rfl (fun _ h => ?_); subst h
   (conv=>whnf);(repeat'((first|apply bT|apply bF|apply bN|((first|apply bD|apply bEq|apply bNe)<;>intro hh<;>try(exfalso;omega))|refine wJ ?_|refine nJ ?_)<;>conv=>whnf))
   refine e2.callzq rfl rfl (fun _ h => ?_); subst h
   (conv=>whnf);(repeat'((first|apply bT|apply bF|apply bN|((first|apply bD|apply bEq|apply bNe)<;>intro hh<;>try(exfalso;omega))|refine wJ ?_|refine nJ ?_)<;>conv=>whnf))
   all_goals rfl
def fewF (s : Ord) : Nat -> Fil -> Int -> Int
 | 0, f, b => if b <= f.lacks then b else f.lacks
 | n + 1, f, b => if b <= f.lacks then b else (stepL s f).foldl (fun b x => fewF s n x b) b
theorem v65 (s : Ord) (hk : OkO s) : ∀ (n : Nat) (f : Fil) (b : Int), f.pl.length + n = s.ws.length -> GoodP s f -> FnA Tryz.prog 65 [.agg (f.cells s.sto), .int .i64 b] (· = .int .i64 (fewF s n f b)) := by
 intro n
 induction n with
 | zero =>
  intro f b hn h
  have lP : (f.pl.map jAV).length = f.pl.length := by simp
  have lW : (s.ws.map Wish.av).length = s.ws.length := by simp
  refine fnA 3 ok65 (by simp) ?_
  unfold fewF
  by_cases hc : b <= f.lacks
  ·rw [if_pos hc]
   (conv=>whnf);(repeat'((first|apply bT|apply bF|apply bN|((first|apply bD|apply bEq|apply bNe)<;>intro hh<;>try(exfalso;omega))|refine wJ ?_|refine nJ ?_)<;>conv=>whnf))
   all_goals rfl
  ·rw [if_neg hc]
   (conv=>whnf);(repeat'((first|apply bT|apply bF|apply bN|((first|apply bD|apply bEq|apply bNe)<;>intro hh<;>try(exfalso;omega))|refine wJ ?_|refine nJ ?_)<;>conv=>whnf))
   all_goals rfl
 | succ n ih =>
  intro f b hn h
  have lP : (f.pl.map jAV).length = f.pl.length := by simp
  have lW : (s.ws.map Wish.av).length = s.ws.length := by simp
  have hw1 := hk.w1
  refine fnA 3 ok65 (by simp) ?_
  unfold fewF
  by_cases hc : b <= f.lacks
  ·rw [if_pos hc]
   (conv=>whnf);(repeat'((first|apply bT|apply bF|apply bN|((first|apply bD|apply bEq|apply bNe)<;>intro hh<;>try(exfalso;omega))|refine wJ ?_|refine nJ ?_)<;>conv=>whnf))
   all_goals rfl
  rw [if_neg hc]
  (conv=>whnf);(repeat'((first|apply bT|apply bF|apply bN|((first|apply bD|apply bEq|apply bNe)<;>intro hh<;>try(exfalso;omega))|refine wJ ?_|refine nJ ?_)<;>conv=>whnf))
  refine rng_iM (α := Nat × Int) ((stepL s f).map fun x : Fil => [AV.agg (x.cells s.sto)]) [0, 1] [(3, .own 1 0), (2, .own 0 0)] (fun q => [.box false (f.cells s.sto), .box false [.int .i64 q.2], .fresh])
   (fun k q => q.1 = k /\ q.2 = ((stepL s f).take k).foldl (fun b x => fewF s n x b) b) (0, b) rfl bd107 (i107 s hk f h.g (by omega)) rfl ?_ rfl ⟨rfl, rfl⟩ (fun v hv => by obtain ⟨q, _, rfl⟩ := List.mem_map.1 hv; rfl) ?_ ?_
  ·exact mI
  ·rintro k v ⟨a, c⟩ hv ⟨rfl, hc2⟩
   dsimp only at hv hc2 ⊢
   obtain ⟨x, hx, rfl⟩ : ∃ x, (stepL s f)[a]? = some x /\ [AV.agg (x.cells s.sto)] = v := by simpa using hv
   obtain ⟨hk1, hxe⟩ := List.getElem?_eq_some_iff.1 hx
   have hxm : x ∈ stepL s f := List.mem_of_getElem? hx
   obtain ⟨o, ho1, _, hxo⟩ := step_mem hxm
   have hxP : GoodP s x := hxo ▸ withP hk h (by omega) ho1
   have hxl : x.pl.length + n = s.ws.length := by rw [hxo]; simp only [withF, List.length_append, List.length_singleton]; omega
   have e1 := ih x c hxl hxP
   have hsu : ((stepL s f).take (a + 1)).foldl (fun b x => fewF s n x b) b = fewF s n x c := by
    rw [List.take_succ_eq_append_getElem hk1, List.foldl_append, <- hc2, hxe]; rfl
   clear hx hxe hv
   (conv=>whnf);(repeat'((first|apply bT|apply bF|apply bN|((first|apply bD|apply bEq|apply bNe)<;>intro hh<;>try(exfalso;omega))|refine e1.cq rfl rfl ?_|refine wJ ?_|refine nJ ?_)<;>conv=>whnf))
   exact ⟨(a + 1, fewF s n x c), mI, rfl, hsu.symm⟩
  ·rintro ⟨a, c⟩ ⟨ha, hc2⟩
   dsimp only at hc2 ⊢
   have hT : ((stepL s f).map fun x => [AV.agg (x.cells s.sto)]).length = (stepL s f).length := by simp
   rw [hT, List.take_length] at hc2
   rw [<- hc2]
   (conv=>whnf);(repeat'((first|apply bT|apply bF|apply bN|((first|apply bD|apply bEq|apply bNe)<;>intro hh<;>try(exfalso;omega))|refine wJ ?_|refine nJ ?_)<;>conv=>whnf))
   all_goals rfl
def woN (s : Ord) : Nat -> Fil
 | 0 => emF s
 | k + 1 => woF s (woN s k)
theorem woN_len (s : Ord) : ∀ k, (woN s k).pl.length = k
 | 0 => rfl
 | k + 1 => by simp only [woN, woF, List.length_append, List.length_singleton]; rw [woN_len s k]
theorem woN_ok {s : Ord} (hk : OkO s) : ∀ k, k <= s.ws.length -> GoodP s (woN s k)
 | 0, _ => emP hk
 | k + 1, h => woP hk (woN_ok hk k (by omega)) (by rw [woN_len]; omega)
def bestF (s : Ord) : Fil := betF s s.ws.length (emF s) (woN s s.ws.length)
theorem v55 (s : Ord) (hk : OkO s) : FnA Tryz.prog 55 [.ipt (s.stC s.mapF s.optAll)] (· = .agg ((bestF s).cells s.sto)) := by
 have lW : (s.ws.map Wish.av).length = s.ws.length := by simp
 have hw1 := hk.w1
 have e0 := v62 s hk
 refine fnA 18 ok55 (by simp) ?_
 (conv=>whnf);(repeat'((first|apply bT|apply bF|apply bN|((first|apply bD|apply bEq|apply bNe)<;>intro hh<;>try(exfalso;omega))|refine wJ ?_|refine nJ ?_)<;>conv=>whnf))
 refine e0.callzq rfl rfl (fun _ h => ?_); subst h
 (conv=>whnf);(repeat'((first|apply bT|apply bF|apply bN|((first|apply bD|apply bEq|apply bNe)<;>intro hh<;>try(exfalso;omega))|refine wJ ?_|refine nJ ?_)<;>conv=>whnf))
 refine loop_i (α := Nat) (fun k => [(12, .int .i64 k), (11, .int .i64 ↑(s.ws.map Wish.av).length), (3, .own 5 0), (2, .own 0 0), (0, .ipt (s.stC s.mapF s.optAll))]) (fun k => [.box false [.lit (.pointer none), .nils, .int .i64 0, .nils, .nils, .nils, .int .i64 0], .fresh, .fresh, .fresh, .fresh, .box false ((woN s k).cells s.sto), .fresh, .fresh, .fresh, .fresh, .fresh, .fresh, .fresh, .fresh, .fresh, .fresh, .fresh, .fresh]) (fun k => k <= s.ws.length) (fun k => s.ws.length - k) 0 mI (by omega) ?_
 intro k hk0
 conv => whnf
 refine bD (fun h3 => ?_) (fun h3 => ?_)
 ·have hkl : k < s.ws.length := by omega
  have hP := woN_ok hk k hk0
  have hl := hP.l
  have hlen := woN_len s k
  have e1 := v97 s hk (woN s k) hP.g (by omega) (by omega)
  (conv=>whnf);(repeat'((first|apply bT|apply bF|apply bN|((first|apply bD|apply bEq|apply bNe)<;>intro hh<;>try(exfalso;omega))|refine wJ ?_|refine nJ ?_)<;>conv=>whnf))
  refine e1.callzq rfl rfl (fun _ h => ?_); subst h
  (conv=>whnf);(repeat'((first|apply bT|apply bF|apply bN|((first|apply bD|apply bEq|apply bNe)<;>intro hh<;>try(exfalso;omega))|refine wJ ?_|refine nJ ?_)<;>conv=>whnf))
  exact ⟨k + 1, mI, by omega, by omega⟩
 ·have : k = s.ws.length := by omega
  subst this
  have e2 := v98 s hk s.ws.length (emF s) (woN s s.ws.length) (by simp [emF]) (emP hk)
  (conv=>whnf);(repeat'((first|apply bT|apply bF|apply bN|((first|apply bD|apply bEq|apply bNe)<;>intro hh<;>try(exfalso;omega))|refine wJ ?_|refine nJ ?_)<;>conv=>whnf))
  refine altI ?_ ?_
  all_goals
   (conv=>whnf);(repeat'((first|apply bT|apply bF|apply bN|((first|apply bD|apply bEq|apply bNe)<;>intro hh<;>try(exfalso;omega))|refine wJ ?_|refine nJ ?_)<;>conv=>whnf))
   refine e0.callzq rfl rfl (fun _ h => ?_); subst h
   (conv=>whnf);(repeat'((first|apply bT|apply bF|apply bN|((first|apply bD|apply bEq|apply bNe)<;>intro hh<;>try(exfalso;omega))|refine wJ ?_|refine nJ ?_)<;>conv=>whnf))
   refine e2.callzq rfl rfl (fun _ h => ?_); subst h
   (conv=>whnf);(repeat'((first|apply bT|apply bF|apply bN|((first|apply bD|apply bEq|apply bNe)<;>intro hh<;>try(exfalso;omega))|refine wJ ?_|refine nJ ?_)<;>conv=>whnf))
   all_goals rfl
theorem foldl_P {α β : Type} {P : β -> Prop} {f : β -> α -> β} {l : List α} (h : ∀ b, ∀ x ∈ l, P b -> P (f b x)) : ∀ {b : β}, P b -> P (l.foldl f b) := by
 induction l with
 | nil => intro b hb; exact hb
 | cons x l ih => intro b hb; exact ih (fun b y hy => h b y (by simp [hy])) (h b x (by simp) hb)
theorem bet_P {s : Ord} (hk : OkO s) : ∀ (n : Nat) (f b : Fil), f.pl.length + n = s.ws.length -> GoodP s f -> GoodP s b -> GoodP s (betF s n f b)
 | 0, f, b, _, hf, hb => by unfold betF; split <;> assumption
 | n + 1, f, b, hn, hf, hb => by
  unfold betF
  split
  ·exact hb
  ·refine bet_P hk n _ _ (by simp only [woF, List.length_append, List.length_singleton]; omega) (woP hk hf (by omega)) (foldl_P (fun c x hx hc => ?_) hb)
   split
   ·obtain ⟨o, ho, _, rfl⟩ := step_mem hx
    exact bet_P hk n _ _ (by simp only [withF, List.length_append, List.length_singleton]; omega) (withP hk hf (by omega) ho) hc
   ·exact hc
theorem best_P {s : Ord} (hk : OkO s) : GoodP s (bestF s) := bet_P hk _ _ _ (by simp [emF]) (emP hk) (woN_ok hk _ (Nat.le_refl _))
def Ord.mostF (s : Ord) : Int := s.sumP (bestF s).pl.length - (bestF s).lost
def Ord.mostAV (s : Ord) : AV := if s.eS true = 0 then .tup [.int .i64 s.mostF, .int .i64 0] else .tup [.int .i64 0, .int .i64 (s.eS true)]
theorem v18 (s : Ord) (hB : BigO s) : FnA Tryz.prog 18 [.agg s.cells] (· = s.mostAV) := by
 unfold Ord.mostAV
 by_cases h : s.eS true = 0
 ·rw [if_pos h]
  have hk := okO (eS_0 h).1
  have e1 := q54 s hB true h
  have e2 := v55 s hk
  have hP := best_P hk
  have hl := hP.l
  have hw1 := hk.w1
  have hp := hP.p
  have e3 := v56 s hk (bestF s) hP.p (by omega)
  refine fnA 12 ok18 (by simp) ?_
  (conv=>whnf);(repeat'((first|apply bT|apply bF|apply bN|((first|apply bD|apply bEq|apply bNe)<;>intro hh<;>try(exfalso;omega))|refine e1.zq rfl rfl ?_|refine e2.zq rfl rfl ?_|refine e3.cq rfl rfl ?_|refine wJ ?_|refine nJ ?_)<;>conv=>whnf))
  all_goals rfl
 ·rw [if_neg h]
  have e1 := q54e s hB true h
  refine fnA 12 ok18 (by simp) ?_
  (conv=>whnf);(repeat'((first|apply bT|apply bF|apply bN|((first|apply bD|apply bEq|apply bNe)<;>intro hh<;>try(exfalso;omega))|refine e1.zq rfl rfl ?_|refine wJ ?_|refine nJ ?_)<;>conv=>whnf))
  all_goals rfl
def Ord.fewN (s : Ord) : Int := fewF s s.ws.length (emF s) 25
def Ord.extraAV (s : Ord) : AV := if s.eS true = 0 then (if s.fewN = 25 then .tup [.int .i64 0, .int .i64 3] else .tup [.int .i64 s.fewN, .int .i64 0]) else .tup [.int .i64 0, .int .i64 (s.eS true)]
theorem v26 (s : Ord) (hB : BigO s) : FnA Tryz.prog 26 [.agg s.cells] (· = s.extraAV) := by
 unfold Ord.extraAV
 by_cases h : s.eS true = 0
 ·rw [if_pos h]
  have hk := okO (eS_0 h).1
  have e1 := q54 s hB true h
  have e2 := v62 s hk
  have e3 := v65 s hk s.ws.length (emF s) 25 (by simp [emF]) (emP hk)
  have hN : s.fewN = fewF s s.ws.length (emF s) 25 := rfl
  rw [<- hN] at e3
  refine fnA 12 ok26 (by simp) ?_
  by_cases h25 : s.fewN = 25
  ·rw [if_pos h25]
   (conv=>whnf);(repeat'((first|apply bT|apply bF|apply bN|((first|apply bD|apply bEq|apply bNe)<;>intro hh<;>try(exfalso;omega))|refine e1.zq rfl rfl ?_|refine e2.zq rfl rfl ?_|refine e3.cq rfl rfl ?_|refine wJ ?_|refine nJ ?_)<;>conv=>whnf))
   all_goals rfl
  ·rw [if_neg h25]
   (conv=>whnf);(repeat'((first|apply bT|apply bF|apply bN|((first|apply bD|apply bEq|apply bNe)<;>intro hh<;>try(exfalso;omega))|refine e1.zq rfl rfl ?_|refine e2.zq rfl rfl ?_|refine e3.cq rfl rfl ?_|refine wJ ?_|refine nJ ?_)<;>conv=>whnf))
   all_goals rfl
 ·rw [if_neg h]
  have e1 := q54e s hB true h
  refine fnA 12 ok26 (by simp) ?_
  (conv=>whnf);(repeat'((first|apply bT|apply bF|apply bN|((first|apply bD|apply bEq|apply bNe)<;>intro hh<;>try(exfalso;omega))|refine e1.zq rfl rfl ?_|refine wJ ?_|refine nJ ?_)<;>conv=>whnf))
  all_goals rfl
def canB (s : Ord) (o : Opt) : Bool := decide ((withF s (emF s) o).lacks = 0)
def Ord.canL (s : Ord) (i : Int) : List Int := ((s.opts i).filter (canB s)).map (·.pc)
def Ord.canAV (s : Ord) (i : Int) : AV := if s.eS (s.isW i) = 0 then .tup [.isl ((s.canL i).map jAV), .int .i64 0] else .tup [.isl [], .int .i64 (s.eS (s.isW i))]
theorem v22 (s : Ord) (hB : BigO s) (i : Int) : FnA Tryz.prog 22 [.agg s.cells, .int .i64 i] (· = s.canAV i) := by
 have e0 := q61 s i hB.ws
 unfold Ord.canAV
 by_cases h : s.eS (s.isW i) = 0
 ·rw [if_pos h]
  obtain ⟨hc, hv, _⟩ := eS_0 h
  have hk := okO hc
  have hi := isW_iff.1 hv
  have e1 := q54 s hB _ h
  have e2 := v62 s hk
  have lO : (s.optAll.map optsAV).length = s.ws.length := by rw [List.length_map]; exact optA_len s _
  have hw1 := hk.w1
  have g0 : (s.optAll.map optsAV).getD i.toNat [] = [.isl ((s.opts i).map Opt.av)] := by
   have hl : i.toNat < s.optAll.length := by have := optA_len s s.ws.length; unfold Ord.optAll; omega
   rw [getM optsAV s.optAll _ hl]
   have : s.optAll[i.toNat]'hl = s.opts i := by
    simp only [Ord.optAll, Ord.optA, List.getElem_map, List.getElem_range]
    rw [show ((i.toNat : Nat) : Int) = i by omega]
   rw [this]; rfl
  have hlo : (s.opts i).length <= 8 := Nat.le_trans (optK_len s _ _) hk.p1
  have hall := fun o (h : o ∈ s.opts i) => (opts_ok hk h).1
  unfold Ord.canL
  generalize s.opts i = L at g0 hlo hall
  have lL : (L.map Opt.av).length = L.length := by simp
  refine fnA 13 ok22 (by simp) ?_
  (conv=>whnf);(repeat'((first|apply bT|apply bF|apply bN|((first|apply bD|apply bEq|apply bNe)<;>intro hh<;>try(exfalso;omega))|refine e0.cq rfl rfl ?_|refine e1.zq rfl rfl ?_|refine iaJ g0 ?_|refine wJ ?_|refine nJ ?_)<;>conv=>whnf))
  refine loop_i (α := Nat) (fun k => [(30, .int .i64 k), (29, .int .i64 ↑(L.map Opt.av).length), (28, .isl (L.map Opt.av)), (8, .row 12), (6, .ipt (s.stC s.mapF s.optAll))]) (fun k => [.fresh, .fresh, .fresh, .fresh, .fresh, .fresh, .fresh, .fresh, .fresh, .fresh, .fresh, .fresh, .row false 3 1 ((((L.take k).filter (canB s)).map (·.pc)).map jAV)]) (fun k => k <= L.length) (fun k => L.length - k) 0 (mN 12) (by omega) ?_
  intro k hk0
  conv => whnf
  refine bD (fun h3 => ?_) (fun h3 => ?_)
  ·have hkl : k < L.length := by omega
   have g1 := oget Opt.av L hkl
   have hom := List.getElem_mem hkl
   have htk : L.take (k + 1) = L.take k ++ [L[k]] := List.take_succ_eq_append_getElem hkl
   generalize L[k] = o at g1 hom htk
   have e3 := v63 s hk (emF s) (em_ok hk) o (hall o hom)
   have lk : ((((L.take k).filter (canB s)).map (·.pc)).map jAV).length <= 8 := by
    rw [List.length_map, List.length_map]
    have := List.length_filter_le (canB s) (L.take k)
    rw [List.length_take] at this
    omega
   (conv=>whnf);(repeat'((first|apply bT|apply bF|apply bN|((first|apply bD|apply bEq|apply bNe)<;>intro hh<;>try(exfalso;omega))|refine iaJ g1 ?_|refine wJ ?_|refine nJ ?_)<;>conv=>whnf))
   refine altI ?_ ?_
   all_goals
    (conv=>whnf);(repeat'((first|apply bT|apply bF|apply bN|((first|apply bD|apply bEq|apply bNe)<;>intro hh<;>try(exfalso;omega))|refine wJ ?_|refine nJ ?_)<;>conv=>whnf))
    refine e2.callzq rfl rfl (fun _ h => ?_); subst h
    (conv=>whnf);(repeat'((first|apply bT|apply bF|apply bN|((first|apply bD|apply bEq|apply bNe)<;>intro hh<;>try(exfalso;omega))|refine wJ ?_|refine nJ ?_)<;>conv=>whnf))
    refine e3.callzq rfl rfl (fun _ h => ?_); subst h
    by_cases h0 : (withF s (emF s) o).lacks = 0
    ·have hm : (((L.take (k + 1)).filter (canB s)).map (·.pc)).map jAV = (((L.take k).filter (canB s)).map (·.pc)).map jAV ++ [[.int .i64 o.pc]] := by
      rw [htk, List.filter_append]
      have : canB s o = true := decide_eq_true h0
      simp [this, jAV]
     (conv=>whnf);(repeat'((first|apply bT|apply bF|apply bN|((first|apply bD|apply bEq|apply bNe)<;>intro hh<;>try(exfalso;omega))|refine wJ ?_|refine nJ ?_)<;>conv=>whnf))
     refine apJ ?_
     (conv=>whnf);(repeat'((first|apply bT|apply bF|apply bN|((first|apply bD|apply bEq|apply bNe)<;>intro hh<;>try(exfalso;omega))|refine wJ ?_|refine nJ ?_)<;>conv=>whnf))
     refine ⟨k + 1, ?_, by omega, by omega⟩
     simp only [hm]
     exact (mR 12 11)
    ·have hm : (((L.take (k + 1)).filter (canB s)).map (·.pc)).map jAV = (((L.take k).filter (canB s)).map (·.pc)).map jAV := by
      rw [htk, List.filter_append]
      have : canB s o = false := decide_eq_false h0
      simp [this]
     (conv=>whnf);(repeat'((first|apply bT|apply bF|apply bN|((first|apply bD|apply bEq|apply bNe)<;>intro hh<;>try(exfalso;omega))|refine wJ ?_|refine nJ ?_)<;>conv=>whnf))
     refine ⟨k + 1, ?_, by omega, by omega⟩
     simp only [hm]
     exact mI
  ·have : k = L.length := by omega
   subst this
   rw [List.take_length]
   (conv=>whnf);(repeat'((first|apply bT|apply bF|apply bN|((first|apply bD|apply bEq|apply bNe)<;>intro hh<;>try(exfalso;omega))|refine wJ ?_|refine nJ ?_)<;>conv=>whnf))
   all_goals rfl
 ·rw [if_neg h]
  have e1 := q54e s hB _ h
  refine fnA 12 ok22 (by simp) ?_
  (conv=>whnf);(repeat'((first|apply bT|apply bF|apply bN|((first|apply bD|apply bEq|apply bNe)<;>intro hh<;>try(exfalso;omega))|refine e0.cq rfl rfl ?_|refine e1.zq rfl rfl ?_|refine wJ ?_|refine nJ ?_)<;>conv=>whnf))
  all_goals rfl
def Ord.less (s : Ord) (d : Int) : Ord := { s with ds := s.ds.take d.toNat ++ s.ds.drop (d.toNat + 1) }
def Ord.withoutAV (s : Ord) (d : Int) : AV := if s.e1 (s.isD d) = 0 then (s.less d).mostAV else .tup [.int .i64 0, .int .i64 (s.e1 (s.isD d))]
theorem less_big {s : Ord} (hB : BigO s) (d : Int) : BigO (s.less d) := ⟨hB.w, hB.st, hB.ps, hB.ws, by
 have := hB.ds
 simp only [Ord.less, List.length_append, List.length_take, List.length_drop]; omega, hB.br, hB.cs⟩
theorem v28 (s : Ord) (hB : BigO s) (d : Int) : FnA Tryz.prog 28 [.agg s.cells, .int .i64 d] (· = s.withoutAV d) := by
 have e0 := q68 s d hB.ds
 have e1 := q67 s hB (s.isD d)
 have hds := hB.ds
 have lD : (s.ds.map Dlv.av).length = s.ds.length := by simp
 unfold Ord.withoutAV
 by_cases h : s.e1 (s.isD d) = 0
 ·rw [if_pos h]
  have hd := isD_iff.1 (e1_0 h).2
  rw [h] at e1
  have hone : ∀ e ∈ s.ds.map Dlv.av, e.length = 3 := fun e he => (dl_one s.ds e he).1
  have e2 := q69 [s.ds.take d.toNat, s.ds.drop (d.toNat + 1)] (by simp) (by simp only [List.flatten_cons, List.flatten_nil, List.length_append, List.length_take, List.length_drop, List.length_nil]; omega)
  have hfl : [s.ds.take d.toNat, s.ds.drop (d.toNat + 1)].flatten = s.ds.take d.toNat ++ s.ds.drop (d.toNat + 1) := by simp
  rw [hfl] at e2
  have e3 := v18 (s.less d) (less_big hB d)
  have hsh : ∃ a b : Int, (s.less d).mostAV = .tup [.int .i64 a, .int .i64 b] := by unfold Ord.mostAV; split <;> exact ⟨_, _, rfl⟩
  obtain ⟨ma, mb, hma⟩ := hsh
  rw [hma] at e3 ⊢
  refine fnA 4 ok28 (by simp) ?_
  (conv=>whnf);(repeat'((first|apply bT|apply bF|apply bN|((first|apply bD|apply bEq|apply bNe)<;>intro hh<;>try(exfalso;omega))|refine e0.cq rfl rfl ?_|refine e1.cq rfl rfl ?_|refine wJ ?_|refine nJ ?_)<;>conv=>whnf))
  refine slI (es' := (s.ds.take d.toNat).map Dlv.av) (by omega) (by omega) (by omega) hone (by simp [List.map_take]) ?_
  (conv=>whnf);(repeat'((first|apply bT|apply bF|apply bN|((first|apply bD|apply bEq|apply bNe)<;>intro hh<;>try(exfalso;omega))|refine wJ ?_|refine nJ ?_)<;>conv=>whnf))
  refine slI (es' := (s.ds.drop (d.toNat + 1)).map Dlv.av) (by omega) (by omega) (by omega) hone (by rw [show (d + 1).toNat = d.toNat + 1 by omega, List.map_drop]; congr 1; exact List.take_of_length_le (by omega)) ?_
  (conv=>whnf);(repeat'((first|apply bT|apply bF|apply bN|((first|apply bD|apply bEq|apply bNe)<;>intro hh<;>try(exfalso;omega))|refine e2.zq rfl rfl ?_|refine e3.cq rfl rfl ?_|refine wJ ?_|refine nJ ?_)<;>conv=>whnf))
  all_goals rfl
 ·rw [if_neg h]
  refine fnA 4 ok28 (by simp) ?_
  rcases e1_val s (s.isD d) with h2 | h2 | h2 | h2 | h2 <;> rw [h2] at e1 ⊢
  ·exact absurd h2 h
  all_goals
   (conv=>whnf);(repeat'((first|apply bT|apply bF|apply bN|((first|apply bD|apply bEq|apply bNe)<;>intro hh<;>try(exfalso;omega))|refine e0.cq rfl rfl ?_|refine e1.cq rfl rfl ?_|refine wJ ?_|refine nJ ?_)<;>conv=>whnf))
   all_goals rfl
def exO : Ord := ⟨exW, [1, 0, 0, 0], [⟨1, 60, 0, 0, [0]⟩, ⟨1, 60, 7, 0, []⟩, ⟨2, 65, 0, 1, [0]⟩, ⟨2, 60, 0, 0, [0, 1]⟩], [⟨[1], 55, 65, 7, 3, 500⟩, ⟨[1, 2], 60, 60, 0, 5, 400⟩, ⟨[2], 60, 70, 9, 8, 700⟩, ⟨[2], 65, 65, 0, 5, 300⟩], [⟨4, 2, 1⟩, ⟨6, 3, 1⟩], 2⟩
theorem q53 : FnA Tryz.prog 53 [] (· = .agg exO.cells) := by
 have e := p64
 refine fnA 15 ok53 (by simp) ?_
 (conv=>whnf);(repeat'((first|apply bT|apply bF|apply bN|((first|apply bD|apply bEq|apply bNe)<;>intro hh<;>try(exfalso;omega))|refine e.zq rfl rfl ?_|refine wJ ?_|refine nJ ?_)<;>conv=>whnf))
 all_goals rfl
theorem exO_1 : exO.eS true = 0 /\ exO.mostF = 1600 := by decide +kernel
theorem exO_2 : exO.eS (exO.isW 2) = 0 /\ exO.canL 2 = [2, 3] := by decide +kernel
theorem exO_3 : exO.e1 (exO.isD 1) = 0 /\ (exO.less 1).eS true = 0 /\ (exO.less 1).mostF = 1200 := by decide +kernel
theorem exO_4 : exO.fewN = 2 := by decide +kernel
theorem exO_5 : exO.e1 (exO.isW 0 && exO.isP 0) = 0 /\ suitV (exO.wish 0) (exO.piece 0) = 2 := by decide +kernel
theorem exO_6 : BigO exO := ⟨⟨by decide, by decide, by decide, by decide⟩, by decide, by decide, by decide, by decide, by decide, by decide⟩
theorem q17 : FnA Tryz.prog 17 [] (· = .bool true) := by
 have e0 := q53
 have e1 := v18 exO exO_6
 have e2 := v22 exO exO_6 2
 have e3 := v28 exO exO_6 1
 have e4 := v26 exO exO_6
 have e5 := q33 exO exO_6 0 0
 have e6 := q36 [2, 3] [2, 3] (by simp)
 obtain ⟨a1, a2⟩ := exO_1
 obtain ⟨b1, b2⟩ := exO_2
 obtain ⟨c1, c2, c3⟩ := exO_3
 obtain ⟨d1, d2⟩ := exO_5
 unfold Ord.mostAV at e1
 rw [if_pos a1, a2] at e1
 unfold Ord.canAV at e2
 rw [if_pos b1, b2] at e2
 unfold Ord.withoutAV Ord.mostAV at e3
 rw [if_pos c1, if_pos c2, c3] at e3
 unfold Ord.extraAV at e4
 rw [if_pos a1, exO_4, if_neg (by decide)] at e4
 rw [d1, if_pos rfl, d2] at e5
 clear a1 a2 b1 b2 c1 c2 c3 d1 d2
 refine fnA 10 ok17 (by simp) ?_
 (conv=>whnf);(repeat'((first|apply bT|apply bF|apply bN|((first|apply bD|apply bEq|apply bNe)<;>intro hh<;>try(exfalso;omega))|refine e0.zq rfl rfl ?_|refine e1.cq rfl rfl ?_|refine e2.zq rfl rfl ?_|refine e3.cq rfl rfl ?_|refine e4.cq rfl rfl ?_|refine e5.cq rfl rfl ?_|refine e6.lq rfl rfl ?_|refine wJ ?_|refine nJ ?_)<;>conv=>whnf))
 all_goals rfl
theorem q81 (s : Ord) (hB : BigO s) (v : Bool) : FnA Tryz.prog 81 [.agg s.cells, .bool v] (· = .int .i64 (s.eS v)) := by
 have e0 := q32 s hB
 have e1 := p54 s.w hB.w
 have hd : s.eS v = if s.chk ≠ 0 then s.chk else if v = false then 1 else s.w.eO true := by
  unfold Ord.eS Ord.e1
  by_cases hc : s.chk = 0
  ·rw [eO_noT (chk0_ok hc).1]
   cases v <;> simp [hc]
  ·simp [hc]
 rw [hd]
 by_cases hc : s.chk = 0
 ·rw [hc] at e0
  rw [if_neg (fun h => h hc)]
  cases v <;>
  ·refine fnA 1 ok81 (by simp) ?_
   (conv=>whnf);(repeat'((first|apply bT|apply bF|apply bN|((first|apply bD|apply bEq|apply bNe)<;>intro hh<;>try(exfalso;omega))|refine e0.cq rfl rfl ?_|refine e1.cq rfl rfl ?_|refine wJ ?_|refine nJ ?_)<;>conv=>whnf))
   all_goals rfl
 ·rw [if_pos hc]
  generalize s.chk = c at *
  refine fnA 1 ok81 (by simp) ?_
  (conv=>whnf);(repeat'((first|apply bT|apply bF|apply bN|((first|apply bD|apply bEq|apply bNe)<;>intro hh<;>try(exfalso;omega))|refine e0.cq rfl rfl ?_|refine e1.cq rfl rfl ?_|refine wJ ?_|refine nJ ?_)<;>conv=>whnf))
  all_goals first | rfl | omega
theorem isSp_of {s : Ord} (hk : OkO s) {k : Nat} (h : k < s.w.sps.length) : s.w.isSp (k : Nat) = true := by
 unfold Shop.isSp; exact decide_eq_true (by omega)
theorem q103 (s : Ord) (hk : OkO s) (hT : s.w.noT = false) (j : JobK) (hj : s.isJ j = true) : FnA Tryz.prog 103 [.agg s.w.cells, .int .i64 j.1, .int .i64 j.2] (· = .isl ((s.fitL j).map jAV)) := by
 have hB := hk.w.big
 have hst := hk.st1
 have hs1 := hk.w.s1
 have l1 : (s.w.sps.map Spare.av).length = s.w.sps.length := by simp
 refine fnA 4 ok103 (by simp) ?_
 (conv=>whnf);(repeat'((first|apply bT|apply bF|apply bN|((first|apply bD|apply bEq|apply bNe)<;>intro hh<;>try(exfalso;omega))|refine wJ ?_|refine nJ ?_)<;>conv=>whnf))
 refine loop_i (α := Nat) (fun k => [(8, .int .i64 k), (7, .row 3), (3, .own 0 0), (2, .int .i64 j.2), (1, .int .i64 j.1)]) (fun k => [.box false s.w.cells, .fresh, .fresh, .row false 3 1 ((s.fitK j k).map jAV)]) (fun k => k <= s.w.sps.length) (fun k => s.w.sps.length - k) 0 (mN 3) (by omega) ?_
 intro k hk0
 conv => whnf
 refine bD (fun h3 => ?_) (fun h3 => ?_)
 ·have hkl : k < s.w.sps.length := by omega
  have e1 := p22 s.w hB (k : Nat) j.1 j.2 (by rw [isSp_of hk hkl, show s.w.isSl j.1 j.2 = true from hj]; exact eO_true hk.chk hT)
  have lk : ((s.fitK j k).map jAV).length <= 100 := by rw [List.length_map]; have := fitK_len s j k; omega
  by_cases h4 : s.w.fitsV (k : Nat) j.1 j.2 = 1
  ·have hm : (s.fitK j (k + 1)).map jAV = (s.fitK j k).map jAV ++ [[.int .i64 (k : Nat)]] := by rw [fitK_yes h4, List.map_append]; rfl
   (conv=>whnf);(repeat'((first|apply bT|apply bF|apply bN|((first|apply bD|apply bEq|apply bNe)<;>intro hh<;>try(exfalso;omega))|refine e1.cq rfl rfl ?_|refine wJ ?_|refine nJ ?_)<;>conv=>whnf))
   refine apJ ?_
   (conv=>whnf);(repeat'((first|apply bT|apply bF|apply bN|((first|apply bD|apply bEq|apply bNe)<;>intro hh<;>try(exfalso;omega))|refine wJ ?_|refine nJ ?_)<;>conv=>whnf))
   refine ⟨k + 1, ?_, by omega, by omega⟩
   simp only [hm]
   exact (mR 3 2)
  ·have hm : (s.fitK j (k + 1)).map jAV = (s.fitK j k).map jAV := by rw [fitK_no h4]
   (conv=>whnf);(repeat'((first|apply bT|apply bF|apply bN|((first|apply bD|apply bEq|apply bNe)<;>intro hh<;>try(exfalso;omega))|refine e1.cq rfl rfl ?_|refine wJ ?_|refine nJ ?_)<;>conv=>whnf))
   refine ⟨k + 1, ?_, by omega, by omega⟩
   simp only [hm]
   exact mI
 ·have : k = s.w.sps.length := by omega
  subst this
  (conv=>whnf);(repeat'((first|apply bT|apply bF|apply bN|((first|apply bD|apply bEq|apply bNe)<;>intro hh<;>try(exfalso;omega))|refine wJ ?_|refine nJ ?_)<;>conv=>whnf))
  rw [show s.fitL j = s.fitK j s.w.sps.length by rw [<- hst]; rfl]
  all_goals rfl
def aloneL (n : Nat) (i p : Int) : List Int := (List.replicate n (-1)).set i.toNat p
theorem q82 (s : Ord) (i p : Int) (h : s.ws.length <= 1000000) (hi : s.isW i = true) : FnA Tryz.prog 82 [.agg s.cells, .int .i64 i, .int .i64 p] (· = .isl ((aloneL s.ws.length i p).map jAV)) := by
 have hi := isW_iff.1 hi
 have l1 : (s.ws.map Wish.av).length = s.ws.length := by simp
 refine fnA 4 ok82 (by simp) ?_
 (conv=>whnf);(repeat'((first|apply bT|apply bF|apply bN|((first|apply bD|apply bEq|apply bNe)<;>intro hh<;>try(exfalso;omega))|refine wJ ?_|refine nJ ?_)<;>conv=>whnf))
 refine loop_i (α := Nat) (fun k => [(8, .int .i64 k), (7, .row 3), (3, .own 0 0), (2, .int .i64 p), (1, .int .i64 i)]) (fun k => [.box false s.cells, .fresh, .fresh, .row false 3 1 ((List.replicate k (-1)).map jAV)]) (fun k => k <= s.ws.length) (fun k => s.ws.length - k) 0 (mN 3) (by omega) ?_
 intro k hk0
 conv => whnf
 refine bD (fun h3 => ?_) (fun h3 => ?_)
 ·have hm : (List.replicate (k + 1) (-1 : Int)).map jAV = (List.replicate k (-1)).map jAV ++ [[.int .i64 (-1)]] := by rw [List.replicate_succ', List.map_append]; rfl
  have lk : ((List.replicate k (-1 : Int)).map jAV).length <= 1000000 := by rw [List.length_map, List.length_replicate]; omega
  (conv=>whnf);(repeat'((first|apply bT|apply bF|apply bN|((first|apply bD|apply bEq|apply bNe)<;>intro hh<;>try(exfalso;omega))|refine wJ ?_|refine nJ ?_)<;>conv=>whnf))
  refine apJ ?_
  (conv=>whnf);(repeat'((first|apply bT|apply bF|apply bN|((first|apply bD|apply bEq|apply bNe)<;>intro hh<;>try(exfalso;omega))|refine wJ ?_|refine nJ ?_)<;>conv=>whnf))
  refine ⟨k + 1, ?_, by omega, by omega⟩
  simp only [hm]
  exact (mR 3 2)
 ·have : k = s.ws.length := by omega
  subst this
  have l2 : ((List.replicate s.ws.length (-1 : Int)).map jAV).length = s.ws.length := by simp
  have hs : (aloneL s.ws.length i p).map jAV = ((List.replicate s.ws.length (-1 : Int)).map jAV).set i.toNat (jAV p) := by unfold aloneL; rw [List.map_set]
  have g0 : ((List.replicate s.ws.length (-1 : Int)).map jAV).getD i.toNat [] = [.int .i64 (-1)] := by
   rw [getM jAV _ _ (by rw [List.length_replicate]; omega), List.getElem_replicate]; rfl
  (conv=>whnf);(repeat'((first|apply bT|apply bF|apply bN|((first|apply bD|apply bEq|apply bNe)<;>intro hh<;>try(exfalso;omega))|refine iaJ g0 ?_|refine wJ ?_|refine nJ ?_)<;>conv=>whnf))
  rw [hs]
  all_goals rfl
def Ord.sup2 (s : Ord) : List Dlv := s.ds ++ stD s s.st.length
theorem w102 (s : Ord) (h1 : s.st.length <= 1000000) (h2 : s.ds.length <= 1000000) : FnA Tryz.prog 102 [.agg s.cells] (· = .isl (s.sup2.map Dlv.av)) := by
 have l1 : (s.st.map jAV).length = s.st.length := by simp
 have l2 : (s.ds.map Dlv.av).length = s.ds.length := by simp
 refine fnA 6 ok102 (by simp) ?_
 (conv=>whnf);(repeat'((first|apply bT|apply bF|apply bN|((first|apply bD|apply bEq|apply bNe)<;>intro hh<;>try(exfalso;omega))|(refine apI (dl_one s.ds) (by simp only [l2, List.length_nil]; omega) ?_)|refine wJ ?_|refine nJ ?_)<;>conv=>whnf))
 refine loop_i (α := Nat × List (List AV)) (fun q => [(4, .int .i64 q.1), (3, .row 5), (1, .own 0 0)]) (fun q => [.box false s.cells, .fresh, .fresh, .fresh, .fresh, .row false 45 3 q.2]) (fun q => q.1 <= s.st.length /\ q.2 = (s.ds ++ stD s q.1).map Dlv.av) (fun q => s.st.length - q.1) (0, [] ++ s.ds.map Dlv.av) (mA [(5, some 2)]) ⟨by simp, by simp [stD]⟩ ?_
 rintro ⟨k, L⟩ ⟨hk0, hL⟩
 dsimp only at hk0 hL ⊢
 conv => whnf
 refine bD (fun h3 => ?_) (fun h3 => ?_)
 ·have hkl : k < s.st.length := by omega
  have g1 : (s.st.map jAV).getD k [] = [.int .i64 (s.st.getD k 0)] := by rw [getM jAV s.st k hkl]; simp [List.getD_eq_getElem?_getD, hkl, jAV]
  have hm : (s.ds ++ stD s (k + 1)).map Dlv.av = L ++ [Dlv.av ⟨0, (k : Nat), s.st.getD k 0⟩] := by rw [hL, stD_succ, <- List.append_assoc, List.map_append]; rfl
  have lk : L.length <= 2000000 := by rw [hL, List.length_map, List.length_append, stD_len]; omega
  (conv=>whnf);(repeat'((first|apply bT|apply bF|apply bN|((first|apply bD|apply bEq|apply bNe)<;>intro hh<;>try(exfalso;omega))|refine iaJ g1 ?_|refine wJ ?_|refine nJ ?_)<;>conv=>whnf))
  refine apJ ?_
  (conv=>whnf);(repeat'((first|apply bT|apply bF|apply bN|((first|apply bD|apply bEq|apply bNe)<;>intro hh<;>try(exfalso;omega))|refine wJ ?_|refine nJ ?_)<;>conv=>whnf))
  exact ⟨(k + 1, L ++ [Dlv.av ⟨0, (k : Nat), s.st.getD k 0⟩]), (mR 5 4), ⟨by dsimp only; omega, hm.symm⟩, by dsimp only; omega⟩
 ·have : k = s.st.length := by omega
  subst this
  (conv=>whnf);(repeat'((first|apply bT|apply bF|apply bN|((first|apply bD|apply bEq|apply bNe)<;>intro hh<;>try(exfalso;omega))|refine wJ ?_|refine nJ ?_)<;>conv=>whnf))
  all_goals (rw [hL]; rfl)
def Ord.ftP (s : Ord) (p : Piece) : List (List Int) := p.br.map fun k => s.fitL (p.mkr, k)
def ftAV (l : List (List Int)) : List AV := [.isl (l.map fAV)]
def Ord.ft (s : Ord) : List (List (List Int)) := s.ps.map s.ftP
theorem ft_succ {s : Ord} {k : Nat} (hk : k < s.ps.length) : ((s.ps.take (k + 1)).map s.ftP).map ftAV = ((s.ps.take k).map s.ftP).map ftAV ++ [ftAV (s.ftP s.ps[k])] := by
 rw [List.take_succ_eq_append_getElem hk, List.map_append, List.map_append]; rfl
theorem ftP_succ {s : Ord} {p : Piece} {i : Nat} (hi : i < p.br.length) : ((s.ftP p).take (i + 1)).map fAV = ((s.ftP p).take i).map fAV ++ [fAV (s.fitL (p.mkr, p.br[i]))] := by
 have hl : i < (s.ftP p).length := by unfold Ord.ftP; rw [List.length_map]; exact hi
 rw [List.take_succ_eq_append_getElem hl, List.map_append]
 simp [Ord.ftP]
theorem q60 (s : Ord) (hk : OkO s) (hT : s.w.noT = false) : FnA Tryz.prog 60 [.agg s.cells] (· = .isl (s.ft.map ftAV)) := by
 have l1 : (s.ps.map Piece.av).length = s.ps.length := by simp
 have hp1 := hk.p1
 refine fnA 9 ok60 (by simp) ?_
 (conv=>whnf);(repeat'((first|apply bT|apply bF|apply bN|((first|apply bD|apply bEq|apply bNe)<;>intro hh<;>try(exfalso;omega))|refine wJ ?_|refine nJ ?_)<;>conv=>whnf))
 refine loop_i (α := Nat) (fun k => [(4, .int .i64 k), (3, .row 8), (1, .own 0 0)]) (fun k => [.box false s.cells, .fresh, .fresh, .fresh, .fresh, .fresh, .fresh, .fresh, .row false 85 1 (((s.ps.take k).map s.ftP).map ftAV)]) (fun k => k <= s.ps.length) (fun k => s.ps.length - k) 0 (mN 8) (by omega) ?_
 intro k hk0
 conv => whnf
 refine bD (fun h3 => ?_) (fun h3 => ?_)
 ·have hkl : k < s.ps.length := by omega
  have g1 := oget Piece.av s.ps hkl
  have hpm := List.getElem_mem hkl
  have hsuc := ft_succ hkl
  have lk : (((s.ps.take k).map s.ftP).map ftAV).length <= 8 := by rw [List.length_map, List.length_map, List.length_take]; omega
  generalize hL : ((s.ps.take k).map s.ftP).map ftAV = L at hsuc lk
  generalize s.ps[k] = p at g1 hpm hsuc
  have l2 : (p.br.map jAV).length = p.br.length := by simp
  have hbl := br_len hk hpm
  (conv=>whnf);(repeat'((first|apply bT|apply bF|apply bN|((first|apply bD|apply bEq|apply bNe)<;>intro hh<;>try(exfalso;omega))|refine iaJ g1 ?_|refine wJ ?_|refine nJ ?_)<;>conv=>whnf))
  refine loop_i (α := Nat) (fun i => [(7, .int .i64 i), (6, .row 7), (5, .own 1 0), (4, .int .i64 k), (3, .row 8), (1, .own 0 0)]) (fun i => [.box false s.cells, .box false p.av, .fresh, .fresh, .fresh, .fresh, .fresh, .row false 27 1 (((s.ftP p).take i).map fAV), .row false 85 1 L]) (fun i => i <= p.br.length) (fun i => p.br.length - i) 0 (mN 7) (by omega) ?_
  intro i hi0
  conv => whnf
  refine bD (fun h4 => ?_) (fun h4 => ?_)
  ·have hil : i < p.br.length := by omega
   have g2 := getM jAV p.br i hil
   have hjs := br_isJ hk hpm (List.getElem_mem hil)
   have e1 := q103 s hk hT (p.mkr, p.br[i]) hjs
   have hsu2 := ftP_succ (s := s) hil
   have li : (((s.ftP p).take i).map fAV).length <= 1000 := by rw [List.length_map, List.length_take]; omega
   generalize p.br[i] = b at g2 hjs e1 hsu2
   (conv=>whnf);(repeat'((first|apply bT|apply bF|apply bN|((first|apply bD|apply bEq|apply bNe)<;>intro hh<;>try(exfalso;omega))|refine iaJ g2 ?_|refine e1.zq rfl rfl ?_|refine wJ ?_|refine nJ ?_)<;>conv=>whnf))
   refine apJ ?_
   (conv=>whnf);(repeat'((first|apply bT|apply bF|apply bN|((first|apply bD|apply bEq|apply bNe)<;>intro hh<;>try(exfalso;omega))|refine wJ ?_|refine nJ ?_)<;>conv=>whnf))
   refine ⟨i + 1, ?_, by omega, by omega⟩
   rw [hsu2]
   exact (mR 7 4)
  ·have : i = p.br.length := by omega
   subst this
   have hft : (s.ftP p).take p.br.length = s.ftP p := List.take_of_length_le (by simp [Ord.ftP])
   rw [hft]
   (conv=>whnf);(repeat'((first|apply bT|apply bF|apply bN|((first|apply bD|apply bEq|apply bNe)<;>intro hh<;>try(exfalso;omega))|refine wJ ?_|refine nJ ?_)<;>conv=>whnf))
   refine apJ ?_
   (conv=>whnf);(repeat'((first|apply bT|apply bF|apply bN|((first|apply bD|apply bEq|apply bNe)<;>intro hh<;>try(exfalso;omega))|refine wJ ?_|refine nJ ?_)<;>conv=>whnf))
   refine ⟨k + 1, ?_, by omega, by omega⟩
   rw [hsuc]
   exact (mR 8 6)
 ·have : k = s.ps.length := by omega
  subst this
  rw [List.take_length]
  (conv=>whnf);(repeat'((first|apply bT|apply bF|apply bN|((first|apply bD|apply bEq|apply bNe)<;>intro hh<;>try(exfalso;omega))|refine wJ ?_|refine nJ ?_)<;>conv=>whnf))
  all_goals rfl
structure Tk where
 by_ : Int
 sp : List Int
def Tk.av (t : Tk) : List AV := [.int .i64 t.by_, .isl (t.sp.map jAV)]
def Ord.tkG (s : Ord) (i j : Int) : Bool := decide (j < 0) || (decide (suitV (s.wish i) (s.piece j) ≠ 0) && decide (0 <= s.by_ i j))
def Ord.tkOk (s : Ord) (pl : List Int) (k : Nat) : Bool := (List.range k).all fun i : Nat => s.tkG (i : Nat) (pl.getD i 0)
def Ord.tkP (s : Ord) (i j : Int) : List Tk := (s.ftP (s.piece j)).map fun l => ⟨s.by_ i j, l⟩
def Ord.tkI (s : Ord) (i j : Int) : List Tk := if j < 0 then [] else s.tkP i j
def Ord.tks (s : Ord) (pl : List Int) (k : Nat) : List Tk := (List.range k).flatMap fun i : Nat => s.tkI (i : Nat) (pl.getD i 0)
theorem tks_succ (s : Ord) (pl : List Int) (k : Nat) : s.tks pl (k + 1) = s.tks pl k ++ s.tkI (k : Nat) (pl.getD k 0) := by
 unfold Ord.tks; rw [List.range_succ, List.flatMap_append]; simp
theorem tkOk_succ (s : Ord) (pl : List Int) (k : Nat) : s.tkOk pl (k + 1) = (s.tkOk pl k && s.tkG (k : Nat) (pl.getD k 0)) := by
 unfold Ord.tkOk; rw [List.range_succ, List.all_append]; simp
theorem tkOk_le {s : Ord} {pl : List Int} {k n : Nat} (h : s.tkG (k : Nat) (pl.getD k 0) = false) (hk : k < n) : s.tkOk pl n = false := by
 cases hb : s.tkOk pl n with
 | false => rfl
 | true =>
  unfold Ord.tkOk at hb
  have := List.all_eq_true.1 hb k (List.mem_range.2 hk)
  rw [h] at this; cases this
def Ord.tkAV (s : Ord) (pl : List Int) : AV := if s.tkOk pl pl.length = true then .tup [.isl ((s.tks pl pl.length).map Tk.av), .bool true] else .tup [.isl [], .bool false]
theorem tkAV_no {s : Ord} {pl : List Int} (h : s.tkOk pl pl.length = false) : s.tkAV pl = .tup [.isl [], .bool false] := by unfold Ord.tkAV; rw [h]; rfl
theorem tkP_len (s : Ord) (i j : Int) : (s.tkP i j).length = (s.piece j).br.length := by simp [Ord.tkP, Ord.ftP]
theorem tkP_succ {s : Ord} {i j : Int} {m : Nat} (hm : m < (s.piece j).br.length) : ((s.tkP i j).take (m + 1)).map Tk.av = ((s.tkP i j).take m).map Tk.av ++ [Tk.av ⟨s.by_ i j, s.fitL ((s.piece j).mkr, (s.piece j).br[m])⟩] := by
 have hl : m < (s.tkP i j).length := by rw [tkP_len]; exact hm
 rw [List.take_succ_eq_append_getElem hl, List.map_append]
 simp [Ord.tkP, Ord.ftP]
theorem ftget {s : Ord} {j : Int} (h : s.isP j = true) : (s.ft.map ftAV).getD j.toNat [] = ftAV (s.ftP (s.piece j)) := by
 have h := isP_iff.1 h
 have hl : j.toNat < s.ps.length := by omega
 rw [getM ftAV s.ft j.toNat (by unfold Ord.ft; rw [List.length_map]; exact hl)]
 simp [Ord.ft, Ord.piece, List.getD_eq_getElem?_getD, hl]
def PlO (s : Ord) (pl : List Int) : Prop := pl.length <= s.ws.length /\ ∀ k, k < pl.length -> pl.getD k 0 = -1 \/ s.isP (pl.getD k 0) = true
theorem tks_len {s : Ord} (hk : OkO s) {pl : List Int} (hpl : PlO s pl) : ∀ k, k <= pl.length -> (s.tks pl k).length <= 4 * k
 | 0, _ => by simp [Ord.tks]
 | k + 1, h => by
  rw [tks_succ, List.length_append]
  have ih := tks_len hk hpl k (by omega)
  have : (s.tkI (k : Nat) (pl.getD k 0)).length <= 4 := by
   unfold Ord.tkI
   rcases hpl.2 k (by omega) with h | h
   ·rw [h]; simp
   ·have hp := isP_iff.1 h
    rw [if_neg (by omega), tkP_len]
    exact (br_le hk (piece_mem h)).1
  omega
theorem q100 (s : Ord) (hk : OkO s) (pl : List Int) (hpl : PlO s pl) : FnA Tryz.prog 100 [.agg s.cells, .isl (s.ft.map ftAV), .isl (pl.map jAV)] (· = s.tkAV pl) := by
 have l1 : (s.ws.map Wish.av).length = s.ws.length := by simp
 have l2 : (s.ps.map Piece.av).length = s.ps.length := by simp
 have l3 : (pl.map jAV).length = pl.length := by simp
 have l4 : (s.ft.map ftAV).length = s.ps.length := by simp [Ord.ft]
 have hw1 := hk.w1
 have hp1 := hk.p1
 have hcv := hk.cv
 have hpl1 := hpl.1
 refine fnA 6 ok100 (by simp) ?_
 (conv=>whnf);(repeat'((first|apply bT|apply bF|apply bN|((first|apply bD|apply bEq|apply bNe)<;>intro hh<;>try(exfalso;omega))|refine wJ ?_|refine nJ ?_)<;>conv=>whnf))
 refine loop_i (α := Nat) (fun k => [(9, .int .i64 k), (8, .row 5), (3, .own 0 0), (2, .isl (pl.map jAV)), (1, .isl (s.ft.map ftAV))]) (fun k => [.box false s.cells, .fresh, .fresh, .fresh, .fresh, .row false 174 2 ((s.tks pl k).map Tk.av)]) (fun k => k <= pl.length /\ s.tkOk pl k = true) (fun k => pl.length - k) 0 (mN 5) ⟨by omega, rfl⟩ ?_
 rintro k ⟨hk0, hkb⟩
 conv => whnf
 refine bD (fun h3 => ?_) (fun h3 => ?_)
 ·have hkl : k < pl.length := by omega
  have gp : (pl.map jAV).getD k [] = [.int .i64 (pl.getD k 0)] := by rw [getM jAV pl k hkl]; simp [List.getD_eq_getElem?_getD, hkl, jAV]
  have hsuc := tks_succ s pl k
  have hosuc := tkOk_succ s pl k
  have hole := @tkOk_le s pl k pl.length
  have hlen := tks_len hk hpl k (by omega)
  have hj := hpl.2 k hkl
  generalize pl.getD k 0 = j at gp hsuc hosuc hole hj
  by_cases hj0 : j < 0
  ·have h1 : s.tks pl (k + 1) = s.tks pl k := by rw [hsuc]; unfold Ord.tkI; rw [if_pos hj0, List.append_nil]
   have h2 : s.tkOk pl (k + 1) = true := by rw [hosuc, hkb]; unfold Ord.tkG; rw [decide_eq_true hj0]; rfl
   (conv=>whnf);(repeat'((first|apply bT|apply bF|apply bN|((first|apply bD|apply bEq|apply bNe)<;>intro hh<;>try(exfalso;omega))|refine iaJ gp ?_|refine wJ ?_|refine nJ ?_)<;>conv=>whnf))
   refine ⟨k + 1, ?_, ⟨by omega, h2⟩, by omega⟩
   rw [h1]
   exact mI
  have hjp : s.isP j = true := by
   rcases hj with h | h
   ·omega
   ·exact h
  have i2 := isP_iff.1 hjp
  have hi : s.isW (k : Nat) = true := isW_iff.2 (by omega)
  have gw := wget hi
  rw [show ((k : Nat) : Int).toNat = k by omega] at gw
  have gq := pget hjp
  have gf := ftget hjp
  have hwi := hk.w2 _ (wish_mem hi)
  have hcs : (s.wish (k : Nat)).cs.length <= 8 /\ 0 <= (s.wish (k : Nat)).due /\ (s.wish (k : Nat)).due <= 99 := by
   unfold okWi mark at hwi
   simp only [Bool.and_eq_true, decide_eq_true_eq] at hwi
   omega
  have hbr : (s.piece j).br.length <= 4 := (br_le hk (piece_mem hjp)).1
  have lb : ((s.piece j).br.map jAV).length = (s.piece j).br.length := by simp
  have e1 := q80 (s.wish (k : Nat)) (s.piece j) (by omega)
  have htI : s.tks pl (k + 1) = s.tks pl k ++ s.tkP (k : Nat) j := by rw [hsuc]; unfold Ord.tkI; rw [if_neg hj0]
  have hfl : (((s.ftP (s.piece j)).map fAV)).length = (s.piece j).br.length := by simp [Ord.ftP]
  have hby : ∀ q, suitV (s.wish (k : Nat)) (s.piece j) = q -> s.by_ (k : Nat) j = (s.wish (k : Nat)).due - if q = 2 then s.cv else 0 := fun q hq => by unfold Ord.by_; rw [hq]
  rcases suit_val (s.wish (k : Nat)) (s.piece j) with h | h | h
  ·have hno : s.tkG (k : Nat) j = false := by unfold Ord.tkG; rw [h, decide_eq_false hj0]; rfl
   rw [tkAV_no (hole hno hkl)]
   rw [h] at e1
   (conv=>whnf);(repeat'((first|apply bT|apply bF|apply bN|((first|apply bD|apply bEq|apply bNe)<;>intro hh<;>try(exfalso;omega))|refine iaJ gp ?_|refine iaJ gw ?_|refine iaJ gp ?_|refine iaJ gq ?_|refine e1.cq rfl rfl ?_|refine wJ ?_|refine nJ ?_)<;>conv=>whnf))
   all_goals rfl
  ·have hb := hby _ h
   rw [if_neg (by omega)] at hb
   rw [Int.sub_zero] at hb
   rw [h] at e1
   have hyes : s.tkG (k : Nat) j = true := by unfold Ord.tkG; rw [h, hb, decide_eq_true (show 0 <= (s.wish (k : Nat)).due by omega)]; simp
   have h2 : s.tkOk pl (k + 1) = true := by rw [hosuc, hkb, hyes]; rfl
   (conv=>whnf);(repeat'((first|apply bT|apply bF|apply bN|((first|apply bD|apply bEq|apply bNe)<;>intro hh<;>try(exfalso;omega))|refine iaJ gp ?_|refine iaJ gw ?_|refine iaJ gp ?_|refine iaJ gq ?_|refine e1.cq rfl rfl ?_|refine wJ ?_|refine nJ ?_)<;>conv=>whnf))
   refine loop_i (α := Nat × List (List AV)) (fun q => [(13, .int .i64 q.1), (12, .int .i64 ((s.wish (k : Nat)).due)), (11, .own 2 0), (9, .int .i64 k), (8, .row 5), (3, .own 0 0), (2, .isl (pl.map jAV)), (1, .isl (s.ft.map ftAV))]) (fun q => [.box false s.cells, .fresh, .box false (s.piece j).av, .fresh, .fresh, .row false 174 2 q.2]) (fun q => q.1 <= (s.piece j).br.length /\ q.2 = (s.tks pl k ++ (s.tkP (k : Nat) j).take q.1).map Tk.av) (fun q => (s.piece j).br.length - q.1) (0, (s.tks pl k).map Tk.av) mI ⟨by simp, by simp⟩ ?_
   rintro ⟨m, L⟩ ⟨hm0, hL⟩
   dsimp only at hm0 hL ⊢
   conv => whnf
   refine bD (fun h4 => ?_) (fun h4 => ?_)
   ·have hml : m < (s.piece j).br.length := by omega
    have hsu2 := tkP_succ (s := s) (i := (k : Nat)) hml
    have gm : ((s.ftP (s.piece j)).map fAV).getD m [] = fAV (s.fitL ((s.piece j).mkr, (s.piece j).br[m])) := by
     rw [getM fAV _ m (by rw [List.length_map] at hfl; omega)]
     simp [Ord.ftP]
    have lL : L.length <= 1000 := by rw [hL, List.length_map, List.length_append, List.length_take, tkP_len]; omega
    have hm : (s.tks pl k ++ (s.tkP (k : Nat) j).take (m + 1)).map Tk.av = L ++ [Tk.av ⟨(s.wish (k : Nat)).due, s.fitL ((s.piece j).mkr, (s.piece j).br[m])⟩] := by rw [hL, List.map_append, hsu2, List.map_append, List.append_assoc, hb]
    (conv=>whnf);(repeat'((first|apply bT|apply bF|apply bN|((first|apply bD|apply bEq|apply bNe)<;>intro hh<;>try(exfalso;omega))|refine iaJ gp ?_|refine iaJ gf ?_|refine iaJ gm ?_|refine wJ ?_|refine nJ ?_)<;>conv=>whnf))
    refine apJ ?_
    (conv=>whnf);(repeat'((first|apply bT|apply bF|apply bN|((first|apply bD|apply bEq|apply bNe)<;>intro hh<;>try(exfalso;omega))|refine wJ ?_|refine nJ ?_)<;>conv=>whnf))
    exact ⟨(m + 1, L ++ [Tk.av ⟨(s.wish (k : Nat)).due, s.fitL ((s.piece j).mkr, (s.piece j).br[m])⟩]), (mR 5 4), ⟨by dsimp only; omega, hm.symm⟩, by dsimp only; omega⟩
   ·have : m = (s.piece j).br.length := by omega
    subst this
    rw [List.take_of_length_le (by rw [tkP_len]; exact Nat.le_refl _), <- htI] at hL
    (conv=>whnf);(repeat'((first|apply bT|apply bF|apply bN|((first|apply bD|apply bEq|apply bNe)<;>intro hh<;>try(exfalso;omega))|refine wJ ?_|refine nJ ?_)<;>conv=>whnf))
    refine ⟨k + 1, ?_, ⟨by omega, h2⟩, by omega⟩
    rw [<- hL]
    exact mI
  ·have hb := hby _ h
   rw [if_pos rfl] at hb
   rw [h] at e1
   by_cases hb0 : 0 <= (s.wish (k : Nat)).due - s.cv
   case neg =>
    have hno : s.tkG (k : Nat) j = false := by unfold Ord.tkG; rw [hb, decide_eq_false hb0, decide_eq_false hj0]; simp
    rw [tkAV_no (hole hno hkl)]
    (conv=>whnf);(repeat'((first|apply bT|apply bF|apply bN|((first|apply bD|apply bEq|apply bNe)<;>intro hh<;>try(exfalso;omega))|refine iaJ gp ?_|refine iaJ gw ?_|refine iaJ gp ?_|refine iaJ gq ?_|refine e1.cq rfl rfl ?_|refine wJ ?_|refine nJ ?_)<;>conv=>whnf))
    all_goals rfl
   have hyes : s.tkG (k : Nat) j = true := by unfold Ord.tkG; rw [h, hb, decide_eq_true (show 0 <= (s.wish (k : Nat)).due - s.cv by omega)]; simp
   have h2 : s.tkOk pl (k + 1) = true := by rw [hosuc, hkb, hyes]; rfl
   (conv=>whnf);(repeat'((first|apply bT|apply bF|apply bN|((first|apply bD|apply bEq|apply bNe)<;>intro hh<;>try(exfalso;omega))|refine iaJ gp ?_|refine iaJ gw ?_|refine iaJ gp ?_|refine iaJ gq ?_|refine e1.cq rfl rfl ?_|refine wJ ?_|refine nJ ?_)<;>conv=>whnf))
   refine loop_i (α := Nat × List (List AV)) (fun q => [(13, .int .i64 q.1), (12, .int .i64 ((s.wish (k : Nat)).due - s.cv)), (11, .own 2 0), (9, .int .i64 k), (8, .row 5), (3, .own 0 0), (2, .isl (pl.map jAV)), (1, .isl (s.ft.map ftAV))]) (fun q => [.box false s.cells, .fresh, .box false (s.piece j).av, .fresh, .fresh, .row false 174 2 q.2]) (fun q => q.1 <= (s.piece j).br.length /\ q.2 = (s.tks pl k ++ (s.tkP (k : Nat) j).take q.1).map Tk.av) (fun q => (s.piece j).br.length - q.1) (0, (s.tks pl k).map Tk.av) mI ⟨by simp, by simp⟩ ?_
   rintro ⟨m, L⟩ ⟨hm0, hL⟩
   dsimp only at hm0 hL ⊢
   conv => whnf
   refine bD (fun h4 => ?_) (fun h4 => ?_)
   ·have hml : m < (s.piece j).br.length := by omega
    have hsu2 := tkP_succ (s := s) (i := (k : Nat)) hml
    have gm : ((s.ftP (s.piece j)).map fAV).getD m [] = fAV (s.fitL ((s.piece j).mkr, (s.piece j).br[m])) := by
     rw [getM fAV _ m (by rw [List.length_map] at hfl; omega)]
     simp [Ord.ftP]
    have lL : L.length <= 1000 := by rw [hL, List.length_map, List.length_append, List.length_take, tkP_len]; omega
    have hm : (s.tks pl k ++ (s.tkP (k : Nat) j).take (m + 1)).map Tk.av = L ++ [Tk.av ⟨(s.wish (k : Nat)).due - s.cv, s.fitL ((s.piece j).mkr, (s.piece j).br[m])⟩] := by rw [hL, List.map_append, hsu2, List.map_append, List.append_assoc, hb]
    (conv=>whnf);(repeat'((first|apply bT|apply bF|apply bN|((first|apply bD|apply bEq|apply bNe)<;>intro hh<;>try(exfalso;omega))|refine iaJ gp ?_|refine iaJ gf ?_|refine iaJ gm ?_|refine wJ ?_|refine nJ ?_)<;>conv=>whnf))
    refine apJ ?_
    (conv=>whnf);(repeat'((first|apply bT|apply bF|apply bN|((first|apply bD|apply bEq|apply bNe)<;>intro hh<;>try(exfalso;omega))|refine wJ ?_|refine nJ ?_)<;>conv=>whnf))
    exact ⟨(m + 1, L ++ [Tk.av ⟨(s.wish (k : Nat)).due - s.cv, s.fitL ((s.piece j).mkr, (s.piece j).br[m])⟩]), (mR 5 4), ⟨by dsimp only; omega, hm.symm⟩, by dsimp only; omega⟩
   ·have : m = (s.piece j).br.length := by omega
    subst this
    rw [List.take_of_length_le (by rw [tkP_len]; exact Nat.le_refl _), <- htI] at hL
    (conv=>whnf);(repeat'((first|apply bT|apply bF|apply bN|((first|apply bD|apply bEq|apply bNe)<;>intro hh<;>try(exfalso;omega))|refine wJ ?_|refine nJ ?_)<;>conv=>whnf))
    refine ⟨k + 1, ?_, ⟨by omega, h2⟩, by omega⟩
    rw [<- hL]
    exact mI
 ·have : k = pl.length := by omega
  subst this
  unfold Ord.tkAV
  rw [if_pos hkb]
  (conv=>whnf);(repeat'((first|apply bT|apply bF|apply bN|((first|apply bD|apply bEq|apply bNe)<;>intro hh<;>try(exfalso;omega))|refine wJ ?_|refine nJ ?_)<;>conv=>whnf))
  all_goals rfl
def Dlv.one (d : Dlv) : Dlv := ⟨d.day, d.sp, d.many - 1⟩
def dlAV (l : List Dlv) : List AV := [.isl (l.map Dlv.av)]
def zD : Dlv := ⟨0, 0, 0⟩
def gB (t : Tk) (ds : List Dlv) (k : Nat) : Bool := decide (0 < (ds.getD k zD).many) && (decide ((ds.getD k zD).day <= t.by_) && decide ((ds.getD k zD).sp ∈ t.sp))
def gS (ds : List Dlv) (k : Nat) : List Dlv := ds.set k (ds.getD k zD).one
def givK (t : Tk) (ds : List Dlv) (k : Nat) : List (List Dlv) := ((List.range k).filter (gB t ds)).map (gS ds)
def giv (t : Tk) (ds : List Dlv) : List (List Dlv) := givK t ds ds.length
theorem givK_yes {t : Tk} {ds : List Dlv} {k : Nat} (h : gB t ds k = true) : givK t ds (k + 1) = givK t ds k ++ [gS ds k] := by
 unfold givK; rw [List.range_succ, List.filter_append, List.map_append]; simp [h]
theorem givK_no {t : Tk} {ds : List Dlv} {k : Nat} (h : gB t ds k = false) : givK t ds (k + 1) = givK t ds k := by
 unfold givK; rw [List.range_succ, List.filter_append, List.map_append]; simp [h]
theorem givK_len (t : Tk) (ds : List Dlv) (k : Nat) : (givK t ds k).length <= k := by
 unfold givK; have := List.length_filter_le (gB t ds) (List.range k); simpa using this
structure DsO (ds : List Dlv) : Prop where
 l : ds.length <= 100
 b : ∀ d ∈ ds, 0 <= d.many /\ d.many <= 10
theorem gS_ok {ds : List Dlv} {k : Nat} (h : DsO ds) (hk : k < ds.length) (hm : 0 < (ds.getD k zD).many) : DsO (gS ds k) := by
 refine ⟨by unfold gS; rw [List.length_set]; exact h.l, fun d hd => ?_⟩
 unfold gS at hd
 rcases List.mem_or_eq_of_mem_set hd with h1 | h1
 ·exact h.b d h1
 ·subst h1
  have e : ds.getD k zD = ds[k] := by simp [List.getD_eq_getElem?_getD, hk]
  rw [e] at hm ⊢
  have := h.b _ (List.getElem_mem hk)
  simp only [Dlv.one]; omega
theorem giv_mem {t : Tk} {ds : List Dlv} {r : List Dlv} : r ∈ giv t ds <-> ∃ k, k < ds.length /\ gB t ds k = true /\ r = gS ds k := by
 unfold giv givK
 simp only [List.mem_map, List.mem_filter, List.mem_range]
 constructor
 ·rintro ⟨k, ⟨h1, h2⟩, rfl⟩; exact ⟨k, h1, h2, rfl⟩
 ·rintro ⟨k, h1, h2, rfl⟩; exact ⟨k, ⟨h1, h2⟩, rfl⟩
theorem gB_pos {t : Tk} {ds : List Dlv} {k : Nat} (h : gB t ds k = true) : 0 < (ds.getD k zD).many := by
 unfold gB at h; simp only [Bool.and_eq_true, decide_eq_true_eq] at h; exact h.1
theorem giv_ok {t : Tk} {ds : List Dlv} (h : DsO ds) : ∀ r ∈ giv t ds, DsO r := fun r hr => by
 obtain ⟨k, h1, h2, rfl⟩ := giv_mem.1 hr
 exact gS_ok h h1 (gB_pos h2)
theorem q134 (t : Tk) (ds : List Dlv) (hd : DsO ds) (ht : t.sp.length <= 1000000) : FnA Tryz.prog 134 [.agg t.av, .isl (ds.map Dlv.av)] (· = .isl ((giv t ds).map dlAV)) := by
 have l1 : (ds.map Dlv.av).length = ds.length := by simp
 have l2 : (([] : List (List AV)) ++ ds.map Dlv.av).length = ds.length := by simp
 have hl := hd.l
 refine fnA 6 ok134 (by simp) ?_
 (conv=>whnf);(repeat'((first|apply bT|apply bF|apply bN|((first|apply bD|apply bEq|apply bNe)<;>intro hh<;>try(exfalso;omega))|refine wJ ?_|refine nJ ?_)<;>conv=>whnf))
 refine loop_i (α := Nat) (fun k => [(6, .int .i64 k), (5, .row 5), (2, .own 0 0), (1, .isl (ds.map Dlv.av))]) (fun k => [.box false t.av, .fresh, .fresh, .fresh, .fresh, .row false 30 1 ((givK t ds k).map dlAV)]) (fun k => k <= ds.length) (fun k => ds.length - k) 0 (mN 5) (by omega) ?_
 intro k hk0
 conv => whnf
 refine bD (fun h3 => ?_) (fun h3 => ?_)
 ·have hkl : k < ds.length := by omega
  have e : ds.getD k zD = ds[k] := by simp [List.getD_eq_getElem?_getD, hkl]
  have g1 : (ds.map Dlv.av).getD k [] = (ds.getD k zD).av := by rw [e]; exact oget Dlv.av ds hkl
  have hb := hd.b _ (List.getElem_mem hkl)
  rw [<- e] at hb
  have hs : (gS ds k).map Dlv.av = (ds.map Dlv.av).set k (ds.getD k zD).one.av := by unfold gS; rw [List.map_set]
  have hyes := @givK_yes t ds k
  have hno := @givK_no t ds k
  have lk := givK_len t ds k
  have lm : ((givK t ds k).map dlAV).length = (givK t ds k).length := by simp
  have hgb : gB t ds k = (decide (0 < (ds.getD k zD).many) && (decide ((ds.getD k zD).day <= t.by_) && decide ((ds.getD k zD).sp ∈ t.sp))) := rfl
  have e1 := p51 t.sp (ds.getD k zD).sp ht
  generalize ds.getD k zD = d at g1 hb hs hgb e1
  have fin : gB t ds k = false -> (givK t ds (k + 1)).map dlAV = (givK t ds k).map dlAV := fun h => by rw [hno h]
  by_cases c1 : 0 < d.many
  case neg =>
   have hm := fin (by rw [hgb, decide_eq_false c1]; rfl)
   (conv=>whnf);(repeat'((first|apply bT|apply bF|apply bN|((first|apply bD|apply bEq|apply bNe)<;>intro hh<;>try(exfalso;omega))|refine iaJ g1 ?_|refine wJ ?_|refine nJ ?_)<;>conv=>whnf))
   refine ⟨k + 1, ?_, by omega, by omega⟩
   simp only [hm]
   exact mI
  by_cases c2 : d.day <= t.by_
  case neg =>
   have hm := fin (by rw [hgb, decide_eq_false c2]; simp)
   (conv=>whnf);(repeat'((first|apply bT|apply bF|apply bN|((first|apply bD|apply bEq|apply bNe)<;>intro hh<;>try(exfalso;omega))|refine iaJ g1 ?_|refine wJ ?_|refine nJ ?_)<;>conv=>whnf))
   refine ⟨k + 1, ?_, by omega, by omega⟩
   simp only [hm]
   exact mI
  by_cases c3 : d.sp ∈ t.sp
  case neg =>
   have hm := fin (by rw [hgb, decide_eq_false c3]; simp)
   rw [decide_eq_false c3] at e1
   (conv=>whnf);(repeat'((first|apply bT|apply bF|apply bN|((first|apply bD|apply bEq|apply bNe)<;>intro hh<;>try(exfalso;omega))|refine iaJ g1 ?_|refine e1.cq rfl rfl ?_|refine wJ ?_|refine nJ ?_)<;>conv=>whnf))
   refine ⟨k + 1, ?_, by omega, by omega⟩
   simp only [hm]
   exact mI
  have hm : (givK t ds (k + 1)).map dlAV = (givK t ds k).map dlAV ++ [[.isl ((ds.map Dlv.av).set k d.one.av)]] := by
   rw [hyes (by rw [hgb, decide_eq_true c1, decide_eq_true c2, decide_eq_true c3]; rfl), List.map_append, <- hs]; rfl
  rw [decide_eq_true c3] at e1
  (conv=>whnf);(repeat'((first|apply bT|apply bF|apply bN|((first|apply bD|apply bEq|apply bNe)<;>intro hh<;>try(exfalso;omega))|refine iaJ g1 ?_|refine e1.cq rfl rfl ?_|(refine apI (dl_one ds) (by simp only [l1, List.length_nil]; omega) ?_)|refine wJ ?_|refine nJ ?_)<;>conv=>whnf))
  refine apJ ?_
  (conv=>whnf);(repeat'((first|apply bT|apply bF|apply bN|((first|apply bD|apply bEq|apply bNe)<;>intro hh<;>try(exfalso;omega))|refine wJ ?_|refine nJ ?_)<;>conv=>whnf))
  refine ⟨k + 1, ?_, by omega, by omega⟩
  simp only [hm]
  exact (mR 5 4)
 ·have : k = ds.length := by omega
  subst this
  (conv=>whnf);(repeat'((first|apply bT|apply bF|apply bN|((first|apply bD|apply bEq|apply bNe)<;>intro hh<;>try(exfalso;omega))|refine wJ ?_|refine nJ ?_)<;>conv=>whnf))
  all_goals rfl
def doesB : List Tk -> List Dlv -> Bool
 | [], _ => true
 | t :: l, ds => (giv t ds).any (doesB l)
structure TkO (l : List Tk) : Prop where
 ln : l.length <= 1000
 s : ∀ t ∈ l, t.sp.length <= 1000000
theorem tk_one (l : List Tk) : ∀ e ∈ l.map Tk.av, e.length = 2 := fun e he => by
 obtain ⟨x, _, rfl⟩ := List.mem_map.1 he; rfl
theorem any_take {α : Type} {p : α -> Bool} {l : List α} {k : Nat} (hk : k < l.length) (h : (l.take k).any p = false) (h1 : p l[k] = false) : (l.take (k + 1)).any p = false := by
 rw [List.take_succ_eq_append_getElem hk, List.any_append, h]; simp [h1]
theorem q101 : ∀ (l : List Tk) (ds : List Dlv), TkO l -> DsO ds -> FnA Tryz.prog 101 [.isl (l.map Tk.av), .isl (ds.map Dlv.av)] (· = .bool (doesB l ds))
 | [], ds, hl, hd => by
  refine fnA 1 ok101 (by simp) ?_
  (conv=>whnf);(repeat'((first|apply bT|apply bF|apply bN|((first|apply bD|apply bEq|apply bNe)<;>intro hh<;>try(exfalso;omega))|refine wJ ?_|refine nJ ?_)<;>conv=>whnf))
  all_goals rfl
 | t :: l, ds, hl, hd => by
  have hl' : TkO l := ⟨by have := hl.ln; simp at this; omega, fun x hx => hl.s x (by simp [hx])⟩
  have ih := fun r (hr : r ∈ giv t ds) => q101 l r hl' (giv_ok hd r hr)
  have e1 := q134 t ds hd (hl.s t (by simp))
  have l1 : ((t :: l).map Tk.av).length = l.length + 1 := by simp
  have hll := hl'.ln
  have g0 : ((t :: l).map Tk.av).getD 0 [] = t.av := rfl
  have hone := tk_one (t :: l)
  have hsl : (((t :: l).map Tk.av).take ((((t :: l).map Tk.av).length : Int)).toNat).drop (1 : Int).toNat = l.map Tk.av := by
   rw [List.take_of_length_le (by omega)]; rfl
  have hdo : doesB (t :: l) ds = (giv t ds).any (doesB l) := rfl
  rw [hdo]
  have hlen := givK_len t ds ds.length
  have hdl := hd.l
  have hlen : (giv t ds).length <= 100 := Nat.le_trans hlen hdl
  generalize giv t ds = R at ih e1 hlen
  have l2 : (R.map dlAV).length = R.length := by simp
  generalize hM : (t :: l).map Tk.av = M at l1 g0 hone hsl
  refine fnA 1 ok101 (by simp) ?_
  (conv=>whnf);(repeat'((first|apply bT|apply bF|apply bN|((first|apply bD|apply bEq|apply bNe)<;>intro hh<;>try(exfalso;omega))|refine iaJ g0 ?_|refine e1.zq rfl rfl ?_|refine wJ ?_|refine nJ ?_)<;>conv=>whnf))
  refine loop_i (α := Nat) (fun k => [(6, .int .i64 k), (5, .isl (R.map dlAV)), (0, .isl M)]) (fun k => [.fresh]) (fun k => k <= R.length /\ (R.take k).any (doesB l) = false) (fun k => R.length - k) 0 mI ⟨by omega, rfl⟩ ?_
  rintro k ⟨hk0, hkb⟩
  conv => whnf
  refine bD (fun h3 => ?_) (fun h3 => ?_)
  ·have hkl : k < R.length := by omega
   have g1 := getM dlAV R k hkl
   have e2 := ih R[k] (List.getElem_mem hkl)
   cases hv : doesB l R[k] with
   | true =>
    rw [hv] at e2
    have hT : R.any (doesB l) = true := List.any_eq_true.2 ⟨_, List.getElem_mem hkl, hv⟩
    rw [hT]
    (conv=>whnf);(repeat'((first|apply bT|apply bF|apply bN|((first|apply bD|apply bEq|apply bNe)<;>intro hh<;>try(exfalso;omega))|refine slI (by omega) (by omega) (by omega) hone hsl ?_|refine iaJ g1 ?_|refine e2.cq rfl rfl ?_|refine wJ ?_|refine nJ ?_)<;>conv=>whnf))
    all_goals rfl
   | false =>
    rw [hv] at e2
    have := any_take hkl hkb hv
    (conv=>whnf);(repeat'((first|apply bT|apply bF|apply bN|((first|apply bD|apply bEq|apply bNe)<;>intro hh<;>try(exfalso;omega))|refine slI (by omega) (by omega) (by omega) hone hsl ?_|refine iaJ g1 ?_|refine e2.cq rfl rfl ?_|refine wJ ?_|refine nJ ?_)<;>conv=>whnf))
    exact ⟨k + 1, mI, ⟨by omega, this⟩, by omega⟩
  ·have : k = R.length := by omega
   subst this
   rw [List.take_length] at hkb
   rw [hkb]
   (conv=>whnf);(repeat'((first|apply bT|apply bF|apply bN|((first|apply bD|apply bEq|apply bNe)<;>intro hh<;>try(exfalso;omega))|refine wJ ?_|refine nJ ?_)<;>conv=>whnf))
   all_goals rfl
theorem sup2_ok {s : Ord} (hk : OkO s) : DsO s.sup2 := by
 have h1 := hk.st1
 have h2 := hk.w.s1
 have h3 := hk.d1
 refine ⟨by unfold Ord.sup2; rw [List.length_append, stD_len]; omega, fun d hd => ?_⟩
 unfold Ord.sup2 stD at hd
 rcases List.mem_append.1 hd with h | h
 ·have := hk.d2 _ h
  unfold okDl at this
  simp only [Bool.and_eq_true, decide_eq_true_eq] at this
  omega
 ·obtain ⟨i, hi, rfl⟩ := List.mem_map.1 h
  have hi := List.mem_range.1 hi
  exact hk.st2 _ (by simp [List.getD_eq_getElem?_getD, hi])
theorem tks_ok {s : Ord} (hk : OkO s) {pl : List Int} (hpl : PlO s pl) : TkO (s.tks pl pl.length) := by
 have hw := hk.w1
 have h0 := hpl.1
 refine ⟨by have := tks_len hk hpl _ (Nat.le_refl _); omega, fun t ht => ?_⟩
 unfold Ord.tks at ht
 obtain ⟨i, _, h⟩ := List.mem_flatMap.1 ht
 unfold Ord.tkI at h
 split at h
 ·cases h
 ·unfold Ord.tkP Ord.ftP at h
  obtain ⟨l, hl, rfl⟩ := List.mem_map.1 h
  obtain ⟨k, _, rfl⟩ := List.mem_map.1 hl
  have := fitL_len s ((s.piece (pl.getD i 0)).mkr, k)
  have := hk.st1
  have := hk.w.s1
  show (s.fitL ((s.piece (pl.getD i 0)).mkr, k)).length <= 1000000
  omega
def Ord.fillB (s : Ord) (pl : List Int) : Bool := s.tkOk pl pl.length && doesB (s.tks pl pl.length) s.sup2
theorem q59 (s : Ord) (hk : OkO s) (pl : List Int) (hpl : PlO s pl) : FnA Tryz.prog 59 [.agg s.cells, .isl (s.ft.map ftAV), .isl (pl.map jAV)] (· = .bool (s.fillB pl)) := by
 have e1 := q100 s hk pl hpl
 have e2 := w102 s (by have := hk.st1; have := hk.w.s1; omega) (by have := hk.d1; omega)
 have e3 := q101 (s.tks pl pl.length) s.sup2 (tks_ok hk hpl) (sup2_ok hk)
 unfold Ord.tkAV at e1
 unfold Ord.fillB
 refine fnA 3 ok59 (by simp) ?_
 cases h : s.tkOk pl pl.length with
 | true =>
  rw [h, if_pos rfl] at e1
  (conv=>whnf);(repeat'((first|apply bT|apply bF|apply bN|((first|apply bD|apply bEq|apply bNe)<;>intro hh<;>try(exfalso;omega))|refine e1.zq rfl rfl ?_|refine e2.zq rfl rfl ?_|refine e3.cq rfl rfl ?_|refine wJ ?_|refine nJ ?_)<;>conv=>whnf))
  all_goals rfl
 | false =>
  rw [h, if_neg (by simp)] at e1
  (conv=>whnf);(repeat'((first|apply bT|apply bF|apply bN|((first|apply bD|apply bEq|apply bNe)<;>intro hh<;>try(exfalso;omega))|refine e1.zq rfl rfl ?_|refine e2.zq rfl rfl ?_|refine e3.cq rfl rfl ?_|refine wJ ?_|refine nJ ?_)<;>conv=>whnf))
  all_goals rfl
def Ord.rcanK (s : Ord) (i : Int) (k : Nat) : List Int := ((List.range k).filter fun p : Nat => s.fillB (aloneL s.ws.length i (p : Nat))).map fun p : Nat => (p : Int)
def Ord.rcan (s : Ord) (i : Int) : List Int := s.rcanK i s.ps.length
theorem rcanK_yes {s : Ord} {i : Int} {k : Nat} (h : s.fillB (aloneL s.ws.length i (k : Nat)) = true) : s.rcanK i (k + 1) = s.rcanK i k ++ [(k : Int)] := by
 unfold Ord.rcanK; rw [List.range_succ, List.filter_append, List.map_append]; simp [h]
theorem rcanK_no {s : Ord} {i : Int} {k : Nat} (h : s.fillB (aloneL s.ws.length i (k : Nat)) = false) : s.rcanK i (k + 1) = s.rcanK i k := by
 unfold Ord.rcanK; rw [List.range_succ, List.filter_append, List.map_append]; simp [h]
theorem rcanK_len (s : Ord) (i : Int) (k : Nat) : (s.rcanK i k).length <= k := by
 unfold Ord.rcanK; have := List.length_filter_le (fun p : Nat => s.fillB (aloneL s.ws.length i (p : Nat))) (List.range k); simpa using this
theorem alone_get (n : Nat) (i p : Int) {k : Nat} (hk : k < n) (hi : 0 <= i) : (aloneL n i p).getD k 0 = if (k : Int) = i then p else -1 := by
 unfold aloneL
 rw [List.getD_eq_getElem?_getD, List.getElem?_set, List.getElem?_replicate]
 by_cases h : (k : Int) = i
 ·have : i.toNat = k := by omega
  simp [this, h, hk]
 ·have : i.toNat ≠ k := by omega
  simp [this, h, hk]
theorem alone_len (n : Nat) (i p : Int) : (aloneL n i p).length = n := by simp [aloneL]
theorem alone_ok {s : Ord} {i : Int} (hi : s.isW i = true) {p : Nat} (hp : p < s.ps.length) : PlO s (aloneL s.ws.length i (p : Nat)) := by
 have hi := isW_iff.1 hi
 refine ⟨by rw [alone_len]; exact Nat.le_refl _, fun k hk => ?_⟩
 rw [alone_len] at hk
 rw [alone_get _ _ _ hk hi.1]
 split
 ·exact .inr (isP_iff.2 (by omega))
 ·exact .inl rfl
def Ord.rcanAV (s : Ord) (i : Int) : AV := if s.eS (s.isW i) = 0 then .tup [.isl ((s.rcan i).map jAV), .int .i64 0] else .tup [.isl [], .int .i64 (s.eS (s.isW i))]
theorem q35 (s : Ord) (hB : BigO s) (i : Int) : FnA Tryz.prog 35 [.agg s.cells, .int .i64 i] (· = s.rcanAV i) := by
 have e0 := q79 s i hB.ws
 have e1 := q81 s hB (s.isW i)
 have l1 : (s.ps.map Piece.av).length = s.ps.length := by simp
 unfold Ord.rcanAV
 by_cases h : s.eS (s.isW i) = 0
 ·rw [if_pos h]
  obtain ⟨hc, hv, hT⟩ := eS_0 h
  have hk := okO hc
  have hp1 := hk.p1
  rw [h] at e1
  have e2 := q60 s hk hT
  refine fnA 6 ok35 (by simp) ?_
  (conv=>whnf);(repeat'((first|apply bT|apply bF|apply bN|((first|apply bD|apply bEq|apply bNe)<;>intro hh<;>try(exfalso;omega))|refine e0.cq rfl rfl ?_|refine e1.cq rfl rfl ?_|refine e2.zq rfl rfl ?_|refine wJ ?_|refine nJ ?_)<;>conv=>whnf))
  refine loop_i (α := Nat) (fun k => [(9, .int .i64 k), (8, .isl (s.ft.map ftAV)), (7, .row 5), (2, .own 0 0), (1, .int .i64 i)]) (fun k => [.box false s.cells, .fresh, .fresh, .fresh, .fresh, .row false 3 1 ((s.rcanK i k).map jAV)]) (fun k => k <= s.ps.length) (fun k => s.ps.length - k) 0 (mN 5) (by omega) ?_
  intro k hk0
  conv => whnf
  refine bD (fun h3 => ?_) (fun h3 => ?_)
  ·have hkl : k < s.ps.length := by omega
   have e3 := q82 s i (k : Nat) hB.ws hv
   have e4 := q59 s hk _ (alone_ok hv hkl)
   have lk := rcanK_len s i k
   have lm : ((s.rcanK i k).map jAV).length = (s.rcanK i k).length := by simp
   cases hb : s.fillB (aloneL s.ws.length i (k : Nat)) with
   | true =>
    rw [hb] at e4
    have hm : (s.rcanK i (k + 1)).map jAV = (s.rcanK i k).map jAV ++ [[.int .i64 (k : Nat)]] := by rw [rcanK_yes hb, List.map_append]; rfl
    (conv=>whnf);(repeat'((first|apply bT|apply bF|apply bN|((first|apply bD|apply bEq|apply bNe)<;>intro hh<;>try(exfalso;omega))|refine e3.zq rfl rfl ?_|refine e4.cq rfl rfl ?_|refine wJ ?_|refine nJ ?_)<;>conv=>whnf))
    refine apJ ?_
    (conv=>whnf);(repeat'((first|apply bT|apply bF|apply bN|((first|apply bD|apply bEq|apply bNe)<;>intro hh<;>try(exfalso;omega))|refine wJ ?_|refine nJ ?_)<;>conv=>whnf))
    refine ⟨k + 1, ?_, by omega, by omega⟩
    simp only [hm]
    exact (mR 5 4)
   | false =>
    rw [hb] at e4
    have hm : (s.rcanK i (k + 1)).map jAV = (s.rcanK i k).map jAV := by rw [rcanK_no hb]
    (conv=>whnf);(repeat'((first|apply bT|apply bF|apply bN|((first|apply bD|apply bEq|apply bNe)<;>intro hh<;>try(exfalso;omega))|refine e3.zq rfl rfl ?_|refine e4.cq rfl rfl ?_|refine wJ ?_|refine nJ ?_)<;>conv=>whnf))
    refine ⟨k + 1, ?_, by omega, by omega⟩
    simp only [hm]
    exact mI
  ·have : k = s.ps.length := by omega
   subst this
   (conv=>whnf);(repeat'((first|apply bT|apply bF|apply bN|((first|apply bD|apply bEq|apply bNe)<;>intro hh<;>try(exfalso;omega))|refine wJ ?_|refine nJ ?_)<;>conv=>whnf))
   all_goals rfl
 ·rw [if_neg h]
  refine fnA 6 ok35 (by simp) ?_
  generalize s.eS (s.isW i) = e at *
  (conv=>whnf);(repeat'((first|apply bT|apply bF|apply bN|((first|apply bD|apply bEq|apply bNe)<;>intro hh<;>try(exfalso;omega))|refine e0.cq rfl rfl ?_|refine e1.cq rfl rfl ?_|refine wJ ?_|refine nJ ?_)<;>conv=>whnf))
  all_goals rfl
theorem pi_one (l : List Piece) : ∀ e ∈ l.map Piece.av, e.length = 5 /\ e.all AV.one = true := fun e he => by
 obtain ⟨x, _, rfl⟩ := List.mem_map.1 he; simp [Piece.av, AV.one]
theorem wi_one (l : List Wish) : ∀ e ∈ l.map Wish.av, e.length = 6 /\ e.all AV.one = true := fun e he => by
 obtain ⟨x, _, rfl⟩ := List.mem_map.1 he; simp [Wish.av, AV.one]
theorem map_set_same {α : Type} (f : α -> List AV) (l : List α) {k : Nat} (hk : k < l.length) : (l.map f).set k (f l[k]) = l.map f := by
 apply List.ext_getElem (by simp)
 intro n h5 h6
 rw [List.getElem_set]
 split
 ·rename_i e; subst e; simp
 ·rfl
def zO : List AV := [.nils, .nils, .int .i64 0, .nils, .nils, .nils, .nils, .nils, .int .i64 0]
def Ord.cpy (s : Ord) : List AV := [.isl (s.w.sps.map Spare.av), .isl (s.w.mks.map mkAV), .int .i64 s.w.cut, .isl (s.w.tb.map Trial.av), .row 7, .row 9, .row 11, .row 13, .int .i64 s.cv]
theorem q24 (s : Ord) (hB : BigO s) : FnA Tryz.prog 24 [.agg s.cells] (· = .agg s.cells) := by
 have e1 := p16 s.w hB.w
 rw [wcells] at e1
 have l1 : (s.st.map jAV).length = s.st.length := by simp
 have l2 : (s.ps.map Piece.av).length = s.ps.length := by simp
 have l3 : (s.ws.map Wish.av).length = s.ws.length := by simp
 have l4 : (s.ds.map Dlv.av).length = s.ds.length := by simp
 have l2' : (([] : List (List AV)) ++ s.ps.map Piece.av).length = s.ps.length := by simp
 have l3' : (([] : List (List AV)) ++ s.ws.map Wish.av).length = s.ws.length := by simp
 have h1 := hB.st
 have h2 := hB.ps
 have h3 := hB.ws
 have h4 := hB.ds
 refine fnA 18 ok24 (by simp) ?_
 (conv=>whnf);(repeat'((first|apply bT|apply bF|apply bN|((first|apply bD|apply bEq|apply bNe)<;>intro hh<;>try(exfalso;omega))|refine e1.zq rfl rfl ?_|(refine apI (j_one s.st) (by simp only [l1, List.length_nil]; omega) ?_)|(refine apI (pi_one s.ps) (by simp only [l2, List.length_nil]; omega) ?_)|(refine apI (wi_one s.ws) (by simp only [l3, List.length_nil]; omega) ?_)|(refine apI (dl_one s.ds) (by simp only [l4, List.length_nil]; omega) ?_)|refine wJ ?_|refine nJ ?_)<;>conv=>whnf))
 refine loop_i (α := Nat × List (List AV)) (fun q => [(4, .int .i64 q.1), (3, .own 2 0), (2, .own 1 0), (1, .own 0 0)]) (fun q => [.box false s.cells, .box false zO, .box false s.cpy, .fresh, .fresh, .fresh, .fresh, .row false 3 1 ([] ++ s.st.map jAV), .fresh, .row false 57 5 q.2, .fresh, .row false 54 6 ([] ++ s.ws.map Wish.av), .fresh, .row false 45 3 ([] ++ s.ds.map Dlv.av), .fresh, .fresh, .fresh, .fresh]) (fun q => q.1 <= s.ps.length /\ q.2 = s.ps.map Piece.av) (fun q => s.ps.length - q.1) (0, [] ++ s.ps.map Piece.av) mI ⟨by simp, rfl⟩ ?_
 rintro ⟨k, L⟩ ⟨hk0, hL⟩
 dsimp only at hk0 hL ⊢
 subst hL
 conv => whnf
 refine bD (fun h5 => ?_) (fun h5 => ?_)
 ·have hkl : k < s.ps.length := by omega
  have g1 := getM Piece.av s.ps k hkl
  have hbr := hB.br _ (List.getElem_mem hkl)
  have l5 : (s.ps[k].br.map jAV).length = s.ps[k].br.length := by simp
  have hset := map_set_same Piece.av s.ps hkl
  (conv=>whnf);(repeat'((first|apply bT|apply bF|apply bN|((first|apply bD|apply bEq|apply bNe)<;>intro hh<;>try(exfalso;omega))|refine iaJ g1 ?_|(refine apI (j_one s.ps[k].br) (by simp only [l5, List.length_nil]; omega) ?_)|refine wJ ?_|refine nJ ?_)<;>conv=>whnf))
  exact ⟨(k + 1, (s.ps.map Piece.av).set k (s.ps[k]).av), mI, ⟨by dsimp only; omega, hset⟩, by dsimp only; omega⟩
 ·have : k = s.ps.length := by omega
  subst this
  (conv=>whnf);(repeat'((first|apply bT|apply bF|apply bN|((first|apply bD|apply bEq|apply bNe)<;>intro hh<;>try(exfalso;omega))|refine wJ ?_|refine nJ ?_)<;>conv=>whnf))
  refine loop_i (α := Nat × List (List AV)) (fun q => [(5, .int .i64 q.1), (3, .own 2 0), (2, .own 1 0), (1, .own 0 0)]) (fun q => [.box false s.cells, .box false zO, .box false s.cpy, .fresh, .fresh, .fresh, .fresh, .row false 3 1 ([] ++ s.st.map jAV), .fresh, .row false 57 5 (s.ps.map Piece.av), .fresh, .row false 54 6 q.2, .fresh, .row false 45 3 ([] ++ s.ds.map Dlv.av), .fresh, .fresh, .fresh, .fresh]) (fun q => q.1 <= s.ws.length /\ q.2 = s.ws.map Wish.av) (fun q => s.ws.length - q.1) (0, [] ++ s.ws.map Wish.av) mI ⟨by simp, rfl⟩ ?_
  rintro ⟨k, L⟩ ⟨hk0, hL⟩
  dsimp only at hk0 hL ⊢
  subst hL
  conv => whnf
  refine bD (fun h5 => ?_) (fun h5 => ?_)
  ·have hkl : k < s.ws.length := by omega
   have g1 := getM Wish.av s.ws k hkl
   have hbr := hB.cs _ (List.getElem_mem hkl)
   have l5 : (s.ws[k].cs.map jAV).length = s.ws[k].cs.length := by simp
   have hset := map_set_same Wish.av s.ws hkl
   (conv=>whnf);(repeat'((first|apply bT|apply bF|apply bN|((first|apply bD|apply bEq|apply bNe)<;>intro hh<;>try(exfalso;omega))|refine iaJ g1 ?_|(refine apI (j_one s.ws[k].cs) (by simp only [l5, List.length_nil]; omega) ?_)|refine wJ ?_|refine nJ ?_)<;>conv=>whnf))
   exact ⟨(k + 1, (s.ws.map Wish.av).set k (s.ws[k]).av), mI, ⟨by dsimp only; omega, hset⟩, by dsimp only; omega⟩
  ·have : k = s.ws.length := by omega
   subst this
   (conv=>whnf);(repeat'((first|apply bT|apply bF|apply bN|((first|apply bD|apply bEq|apply bNe)<;>intro hh<;>try(exfalso;omega))|refine wJ ?_|refine nJ ?_)<;>conv=>whnf))
   all_goals rfl
theorem sameI {l : List Int} (h : l.length <= 1000000) : FnA Tryz.prog 36 [.isl (l.map jAV), .isl (l.map jAV)] (· = .bool true) := by
 have := q36 l l h
 rw [decide_eq_true rfl] at this
 exact this
theorem q37 (s : Ord) (hB : BigO s) : FnA Tryz.prog 37 [.agg s.cells, .agg s.cells] (· = .bool true) := by
 have l2 : (s.ps.map Piece.av).length = s.ps.length := by simp
 have l3 : (s.ws.map Wish.av).length = s.ws.length := by simp
 have l4 : (s.ds.map Dlv.av).length = s.ds.length := by simp
 have h1 := hB.st
 have h2 := hB.ps
 have h3 := hB.ws
 have h4 := hB.ds
 have e0 := sameI h1
 refine fnA 6 ok37 (by simp) ?_
 (conv=>whnf);(repeat'((first|apply bT|apply bF|apply bN|((first|apply bD|apply bEq|apply bNe)<;>intro hh<;>try(exfalso;omega))|refine e0.cq rfl rfl ?_|refine wJ ?_|refine nJ ?_)<;>conv=>whnf))
 refine loop_i (α := Nat) (fun k => [(5, .int .i64 k), (3, .own 1 0), (2, .own 0 0)]) (fun k => [.box false s.cells, .box false s.cells, .fresh, .fresh, .fresh, .fresh]) (fun k => k <= s.ps.length) (fun k => s.ps.length - k) 0 mI (by omega) ?_
 intro k hk0
 conv => whnf
 refine bD (fun h5 => ?_) (fun h5 => ?_)
 ·have hkl : k < s.ps.length := by omega
  have g1 := getM Piece.av s.ps k hkl
  have e1 := sameI (hB.br _ (List.getElem_mem hkl))
  (conv=>whnf);(repeat'((first|apply bT|apply bF|apply bN|((first|apply bD|apply bEq|apply bNe)<;>intro hh<;>try(exfalso;omega))|refine iaJ g1 ?_|refine e1.cq rfl rfl ?_|(refine bKT ?_ ?_; (focus (simp; done)))|(refine bKF ?_ ?_; (focus (simp; done)))|refine wJ ?_|refine nJ ?_)<;>conv=>whnf))
  exact ⟨k + 1, mI, by omega, by omega⟩
 ·have : k = s.ps.length := by omega
  subst this
  (conv=>whnf);(repeat'((first|apply bT|apply bF|apply bN|((first|apply bD|apply bEq|apply bNe)<;>intro hh<;>try(exfalso;omega))|refine wJ ?_|refine nJ ?_)<;>conv=>whnf))
  refine loop_i (α := Nat) (fun k => [(8, .int .i64 k), (3, .own 1 0), (2, .own 0 0)]) (fun k => [.box false s.cells, .box false s.cells, .fresh, .fresh, .fresh, .fresh]) (fun k => k <= s.ws.length) (fun k => s.ws.length - k) 0 mI (by omega) ?_
  intro k hk0
  conv => whnf
  refine bD (fun h5 => ?_) (fun h5 => ?_)
  ·have hkl : k < s.ws.length := by omega
   have g1 := getM Wish.av s.ws k hkl
   have e1 := sameI (hB.cs _ (List.getElem_mem hkl))
   (conv=>whnf);(repeat'((first|apply bT|apply bF|apply bN|((first|apply bD|apply bEq|apply bNe)<;>intro hh<;>try(exfalso;omega))|refine iaJ g1 ?_|refine e1.cq rfl rfl ?_|(refine bKT ?_ ?_; (focus (simp; done)))|(refine bKF ?_ ?_; (focus (simp; done)))|refine wJ ?_|refine nJ ?_)<;>conv=>whnf))
   exact ⟨k + 1, mI, by omega, by omega⟩
  ·have : k = s.ws.length := by omega
   subst this
   (conv=>whnf);(repeat'((first|apply bT|apply bF|apply bN|((first|apply bD|apply bEq|apply bNe)<;>intro hh<;>try(exfalso;omega))|refine wJ ?_|refine nJ ?_)<;>conv=>whnf))
   refine loop_i (α := Nat) (fun k => [(11, .int .i64 k), (3, .own 1 0), (2, .own 0 0)]) (fun k => [.box false s.cells, .box false s.cells, .fresh, .fresh, .fresh, .fresh]) (fun k => k <= s.ds.length) (fun k => s.ds.length - k) 0 mI (by omega) ?_
   intro k hk0
   conv => whnf
   refine bD (fun h5 => ?_) (fun h5 => ?_)
   ·have hkl : k < s.ds.length := by omega
    have g1 := getM Dlv.av s.ds k hkl
    (conv=>whnf);(repeat'((first|apply bT|apply bF|apply bN|((first|apply bD|apply bEq|apply bNe)<;>intro hh<;>try(exfalso;omega))|refine iaJ g1 ?_|(refine bKT ?_ ?_; (focus (simp; done)))|(refine bKF ?_ ?_; (focus (simp; done)))|refine wJ ?_|refine nJ ?_)<;>conv=>whnf))
    exact ⟨k + 1, mI, by omega, by omega⟩
   ·have : k = s.ds.length := by omega
    subst this
    (conv=>whnf);(repeat'((first|apply bT|apply bF|apply bN|((first|apply bD|apply bEq|apply bNe)<;>intro hh<;>try(exfalso;omega))|refine wJ ?_|refine nJ ?_)<;>conv=>whnf))
    all_goals rfl
def szP (p : Piece) : Bool := decide (p.br.length <= 40)
def szW (w : Wish) : Bool := decide (w.cs.length <= 40)
def Ord.sz (s : Ord) : Bool := !s.w.far && (decide (s.st.length <= 40) && (decide (s.ps.length <= 40) && (decide (s.ws.length <= 40) && (decide (s.ds.length <= 40) && (s.ps.all szP && s.ws.all szW)))))
def brN (l : List Piece) : Int := l.foldl (fun n p => n + (p.br.length : Int)) 0
theorem brN_succ {l : List Piece} {k : Nat} (hk : k < l.length) : brN (l.take (k + 1)) = brN (l.take k) + (l[k].br.length : Int) := by
 unfold brN; rw [List.take_succ_eq_append_getElem hk, List.foldl_append]; rfl
theorem brN_bd {l : List Piece} (h : ∀ x ∈ l, szP x = true) : ∀ k, k <= l.length -> 0 <= brN (l.take k) /\ brN (l.take k) <= 40 * (k : Int)
 | 0, _ => by simp [brN]
 | k + 1, hk => by
  have := brN_bd h k (by omega)
  have h1 := of_decide_eq_true (h _ (List.getElem_mem (show k < l.length by omega)))
  rw [brN_succ (show k < l.length by omega)]
  omega
def Ord.far (s : Ord) : Bool := !s.sz || (decide (s.chk = 0) && (decide (3 < s.ws.length) || (decide (4 < s.ps.length) || (decide (3 < s.ds.length) || decide (4 < brN s.ps)))))
theorem far_false {s : Ord} (h : s.far = false) : s.sz = true := by
 cases hb : s.sz with
 | true => rfl
 | false => unfold Ord.far at h; rw [hb] at h; simp at h
theorem osz_big {s : Ord} (h : s.sz = true) : BigO s := by
 unfold Ord.sz at h
 simp only [Bool.and_eq_true, decide_eq_true_eq, List.all_eq_true, Bool.not_eq_true'] at h
 obtain ⟨h0, h1, h2, h3, h4, h5, h6⟩ := h
 exact ⟨sz_big (far_sz h0), by omega, by omega, by omega, by omega, fun p hp => by have := of_decide_eq_true (h5 p hp); omega, fun w hw => by have := of_decide_eq_true (h6 w hw); omega⟩
theorem q30 (s : Ord) : FnA Tryz.prog 30 [.agg s.cells] (· = .bool s.far) := by
 have l1 : (s.st.map jAV).length = s.st.length := by simp
 have l2 : (s.ps.map Piece.av).length = s.ps.length := by simp
 have l3 : (s.ws.map Wish.av).length = s.ws.length := by simp
 have l4 : (s.ds.map Dlv.av).length = s.ds.length := by simp
 have e0 := p14 s.w
 rw [wcells] at e0
 have far1 : s.sz = false -> s.far = true := fun h => by unfold Ord.far; rw [h]; rfl
 cases h0 : s.w.far with
 | true =>
  rw [h0] at e0
  rw [far1 (by unfold Ord.sz; rw [h0]; rfl)]
  refine fnA 1 ok30 (by simp) ?_
  (conv=>whnf);(repeat'((first|apply bT|apply bF|apply bN|((first|apply bD|apply bEq|apply bNe)<;>intro hh<;>try(exfalso;omega))|refine e0.cq rfl rfl ?_|refine wJ ?_|refine nJ ?_)<;>conv=>whnf))
  all_goals rfl
 | false =>
 rw [h0] at e0
 by_cases h1 : s.st.length <= 40
 case neg =>
  rw [far1 (by unfold Ord.sz; rw [decide_eq_false h1]; simp)]
  refine fnA 1 ok30 (by simp) ?_
  (conv=>whnf);(repeat'((first|apply bT|apply bF|apply bN|((first|apply bD|apply bEq|apply bNe)<;>intro hh<;>try(exfalso;omega))|refine e0.cq rfl rfl ?_|refine wJ ?_|refine nJ ?_)<;>conv=>whnf))
  all_goals rfl
 by_cases h2 : s.ps.length <= 40
 case neg =>
  rw [far1 (by unfold Ord.sz; rw [decide_eq_false h2]; simp)]
  refine fnA 1 ok30 (by simp) ?_
  (conv=>whnf);(repeat'((first|apply bT|apply bF|apply bN|((first|apply bD|apply bEq|apply bNe)<;>intro hh<;>try(exfalso;omega))|refine e0.cq rfl rfl ?_|refine wJ ?_|refine nJ ?_)<;>conv=>whnf))
  all_goals rfl
 by_cases h3 : s.ws.length <= 40
 case neg =>
  rw [far1 (by unfold Ord.sz; rw [decide_eq_false h3]; simp)]
  refine fnA 1 ok30 (by simp) ?_
  (conv=>whnf);(repeat'((first|apply bT|apply bF|apply bN|((first|apply bD|apply bEq|apply bNe)<;>intro hh<;>try(exfalso;omega))|refine e0.cq rfl rfl ?_|refine wJ ?_|refine nJ ?_)<;>conv=>whnf))
  all_goals rfl
 by_cases h4 : s.ds.length <= 40
 case neg =>
  rw [far1 (by unfold Ord.sz; rw [decide_eq_false h4]; simp)]
  refine fnA 1 ok30 (by simp) ?_
  (conv=>whnf);(repeat'((first|apply bT|apply bF|apply bN|((first|apply bD|apply bEq|apply bNe)<;>intro hh<;>try(exfalso;omega))|refine e0.cq rfl rfl ?_|refine wJ ?_|refine nJ ?_)<;>conv=>whnf))
  all_goals rfl
 have hsz : s.sz = (s.ps.all szP && s.ws.all szW) := by unfold Ord.sz; rw [h0, decide_eq_true h1, decide_eq_true h2, decide_eq_true h3, decide_eq_true h4]; simp
 refine fnA 1 ok30 (by simp) ?_
 (conv=>whnf);(repeat'((first|apply bT|apply bF|apply bN|((first|apply bD|apply bEq|apply bNe)<;>intro hh<;>try(exfalso;omega))|refine e0.cq rfl rfl ?_|refine wJ ?_|refine nJ ?_)<;>conv=>whnf))
 refine loop_i (α := Nat) (fun k => [(3, .int .i64 k), (1, .own 0 0)]) (fun k => [.box false s.cells]) (fun k => k <= s.ps.length /\ ∀ n ∈ s.ps.take k, szP n = true) (fun k => s.ps.length - k) 0 mI ⟨by omega, by simp⟩ ?_
 rintro k ⟨k1, k2⟩
 conv => whnf
 refine bD (fun h8 => ?_) (fun h8 => ?_)
 ·have hkl : k < s.ps.length := by omega
  have g1 := getM Piece.av s.ps k hkl
  have lb : (s.ps[k].br.map jAV).length = s.ps[k].br.length := by simp
  by_cases hx : s.ps[k].br.length <= 40
  ·(conv=>whnf);(repeat'((first|apply bT|apply bF|apply bN|((first|apply bD|apply bEq|apply bNe)<;>intro hh<;>try(exfalso;omega))|refine iaJ g1 ?_|refine wJ ?_|refine nJ ?_)<;>conv=>whnf))
   exact ⟨k + 1, mI, ⟨by omega, take_all (p := szP) hkl k2 (decide_eq_true hx)⟩, by omega⟩
  ·rw [far1 (by rw [hsz, all_not (p := szP) hkl (decide_eq_false hx)]; rfl)]
   (conv=>whnf);(repeat'((first|apply bT|apply bF|apply bN|((first|apply bD|apply bEq|apply bNe)<;>intro hh<;>try(exfalso;omega))|refine iaJ g1 ?_|refine wJ ?_|refine nJ ?_)<;>conv=>whnf))
   all_goals rfl
 have : k = s.ps.length := by omega
 subst this
 rw [List.take_length] at k2
 (conv=>whnf);(repeat'((first|apply bT|apply bF|apply bN|((first|apply bD|apply bEq|apply bNe)<;>intro hh<;>try(exfalso;omega))|refine wJ ?_|refine nJ ?_)<;>conv=>whnf))
 refine loop_i (α := Nat) (fun k => [(4, .int .i64 k), (1, .own 0 0)]) (fun k => [.box false s.cells]) (fun k => k <= s.ws.length /\ ∀ n ∈ s.ws.take k, szW n = true) (fun k => s.ws.length - k) 0 mI ⟨by omega, by simp⟩ ?_
 rintro k ⟨k1, k3⟩
 conv => whnf
 refine bD (fun h8 => ?_) (fun h8 => ?_)
 ·have hkl : k < s.ws.length := by omega
  have g1 := getM Wish.av s.ws k hkl
  have lb : (s.ws[k].cs.map jAV).length = s.ws[k].cs.length := by simp
  by_cases hx : s.ws[k].cs.length <= 40
  ·(conv=>whnf);(repeat'((first|apply bT|apply bF|apply bN|((first|apply bD|apply bEq|apply bNe)<;>intro hh<;>try(exfalso;omega))|refine iaJ g1 ?_|refine wJ ?_|refine nJ ?_)<;>conv=>whnf))
   exact ⟨k + 1, mI, ⟨by omega, take_all (p := szW) hkl k3 (decide_eq_true hx)⟩, by omega⟩
  ·rw [far1 (by rw [hsz, all_not (p := szW) hkl (decide_eq_false hx)]; simp)]
   (conv=>whnf);(repeat'((first|apply bT|apply bF|apply bN|((first|apply bD|apply bEq|apply bNe)<;>intro hh<;>try(exfalso;omega))|refine iaJ g1 ?_|refine wJ ?_|refine nJ ?_)<;>conv=>whnf))
   all_goals rfl
 have : k = s.ws.length := by omega
 subst this
 rw [List.take_length] at k3
 have hszt : s.sz = true := by rw [hsz, all_yes k2, all_yes k3]; rfl
 have hB := osz_big hszt
 have e1 := q32 s hB
 by_cases hc : s.chk = 0
 case neg =>
  rw [show s.far = false by unfold Ord.far; rw [hszt, decide_eq_false hc]; rfl]
  (conv=>whnf);(repeat'((first|apply bT|apply bF|apply bN|((first|apply bD|apply bEq|apply bNe)<;>intro hh<;>try(exfalso;omega))|refine e1.cq rfl rfl ?_|refine wJ ?_|refine nJ ?_)<;>conv=>whnf))
  all_goals rfl
 have hf : s.far = (decide (3 < s.ws.length) || (decide (4 < s.ps.length) || (decide (3 < s.ds.length) || decide (4 < brN s.ps)))) := by unfold Ord.far; rw [hszt, decide_eq_true hc]; rfl
 rw [hc] at e1
 (conv=>whnf);(repeat'((first|apply bT|apply bF|apply bN|((first|apply bD|apply bEq|apply bNe)<;>intro hh<;>try(exfalso;omega))|refine e1.cq rfl rfl ?_|refine wJ ?_|refine nJ ?_)<;>conv=>whnf))
 refine loop_i (α := Nat) (fun k => [(6, .int .i64 k), (5, .int .i64 (brN (s.ps.take k))), (1, .own 0 0)]) (fun k => [.box false s.cells]) (fun k => k <= s.ps.length) (fun k => s.ps.length - k) 0 mI (by omega) ?_
 intro k hk0
 conv => whnf
 refine bD (fun h8 => ?_) (fun h8 => ?_)
 ·have hkl : k < s.ps.length := by omega
  have g1 := getM Piece.av s.ps k hkl
  have lb : (s.ps[k].br.map jAV).length = s.ps[k].br.length := by simp
  have hx := of_decide_eq_true (k2 _ (List.getElem_mem hkl))
  have hbd := brN_bd k2 k (by omega)
  have hsu := brN_succ hkl
  (conv=>whnf);(repeat'((first|apply bT|apply bF|apply bN|((first|apply bD|apply bEq|apply bNe)<;>intro hh<;>try(exfalso;omega))|refine iaJ g1 ?_|refine wJ ?_|refine nJ ?_)<;>conv=>whnf))
  refine ⟨k + 1, ?_, by omega, by omega⟩
  rw [hsu, <- lb]
  exact mI
 have : k = s.ps.length := by omega
 subst this
 rw [List.take_length, hf]
 by_cases q1 : 3 < s.ws.length
 ·rw [decide_eq_true q1]
  (conv=>whnf);(repeat'((first|apply bT|apply bF|apply bN|((first|apply bD|apply bEq|apply bNe)<;>intro hh<;>try(exfalso;omega))|refine wJ ?_|refine nJ ?_)<;>conv=>whnf))
  all_goals rfl
 rw [decide_eq_false q1]
 by_cases q2 : 4 < s.ps.length
 ·rw [decide_eq_true q2]
  (conv=>whnf);(repeat'((first|apply bT|apply bF|apply bN|((first|apply bD|apply bEq|apply bNe)<;>intro hh<;>try(exfalso;omega))|refine wJ ?_|refine nJ ?_)<;>conv=>whnf))
  all_goals rfl
 rw [decide_eq_false q2]
 by_cases q3 : 3 < s.ds.length
 ·rw [decide_eq_true q3]
  (conv=>whnf);(repeat'((first|apply bT|apply bF|apply bN|((first|apply bD|apply bEq|apply bNe)<;>intro hh<;>try(exfalso;omega))|refine wJ ?_|refine nJ ?_)<;>conv=>whnf))
  all_goals rfl
 rw [decide_eq_false q3]
 (conv=>whnf);(repeat'((first|apply bT|apply bF|apply bN|((first|apply bD|apply bEq|apply bNe)<;>intro hh<;>try(exfalso;omega))|refine wJ ?_|refine nJ ?_)<;>conv=>whnf))
 all_goals rfl
def srvB (ds : List Dlv) (t : Tk) (k : Nat) : Bool := decide ((ds.getD k zD).day <= t.by_) && decide ((ds.getD k zD).sp ∈ t.sp)
def inD (ds : List Dlv) (t : Tk) : List Int := ((List.range ds.length).filter (srvB ds t)).map fun i : Nat => (i : Int)
theorem gB_srv (t : Tk) (ds : List Dlv) (k : Nat) : gB t ds k = (decide (0 < (ds.getD k zD).many) && srvB ds t k) := rfl
theorem inD_mem {ds : List Dlv} {t : Tk} {x : Int} : x ∈ inD ds t <-> ∃ k : Nat, k < ds.length /\ srvB ds t k = true /\ x = (k : Int) := by
 unfold inD
 simp only [List.mem_map, List.mem_filter, List.mem_range]
 constructor
 ·rintro ⟨k, ⟨h1, h2⟩, rfl⟩; exact ⟨k, h1, h2, rfl⟩
 ·rintro ⟨k, h1, h2, rfl⟩; exact ⟨k, ⟨h1, h2⟩, rfl⟩
def Full (st : List Int) (fs : List (List Int)) : Prop := ∃ g, Valid st fs g /\ lackN g = 0
def manyL (ds : List Dlv) : List Int := ds.map (·.many)
theorem many_get (ds : List Dlv) (k : Nat) : (manyL ds).getD k 0 = (ds.getD k zD).many := by
 unfold manyL
 by_cases h : k < ds.length
 ·simp [List.getD_eq_getElem?_getD, h]
 ·simp [List.getD_eq_getElem?_getD, h, zD]
theorem manyL_len (ds : List Dlv) : (manyL ds).length = ds.length := by simp [manyL]
theorem lackN_cons (x : Int) (g : List Int) : lackN (x :: g) = lackN g + if x = -1 then 1 else 0 := by
 unfold lackN; rw [List.count_cons]; simp
theorem full_nil {st : List Int} (h : Nn st) : Full st [] := ⟨[], ⟨rfl, by simp, fun s hs => by have := h s hs; simpa using this⟩, rfl⟩
theorem full_cons {st : List Int} {f : List Int} {fs : List (List Int)} (hs : Spr st (f :: fs)) : Full st (f :: fs) <-> ∃ x ∈ f, 0 < st.getD x.toNat 0 /\ Full (st.set x.toNat (st.getD x.toNat 0 - 1)) fs := by
 constructor
 ·rintro ⟨g, hv, hl⟩
  cases g with
  | nil => have := hv.len; simp at this
  | cons x g =>
   rw [lackN_cons] at hl
   rcases (valid_cons hs).1 hv with ⟨h1, _⟩ | ⟨h1, h2, h3⟩
   ·rw [if_pos h1] at hl; omega
   ·exact ⟨x, h1, h2, g, h3, by omega⟩
 ·rintro ⟨x, h1, h2, g, h3, h4⟩
  have h0 := hs f (by simp) x h1
  refine ⟨x :: g, (valid_cons hs).2 (.inr ⟨h1, h2, h3⟩), ?_⟩
  rw [lackN_cons, if_neg (by omega), h4]
theorem getD_gS (ds : List Dlv) (k n : Nat) : (gS ds k).getD n zD = if n = k /\ k < ds.length then (ds.getD k zD).one else ds.getD n zD := by
 unfold gS
 rw [List.getD_eq_getElem?_getD, List.getElem?_set]
 by_cases h : k = n
 ·subst h
  by_cases hk : k < ds.length
  ·simp [hk]
  ·simp [hk, List.getD_eq_getElem?_getD]
 ·have : n ≠ k := fun e => h e.symm
  simp [h, this, List.getD_eq_getElem?_getD]
theorem inD_gS (ds : List Dlv) (k : Nat) (t : Tk) : inD (gS ds k) t = inD ds t := by
 unfold inD
 have hl : (gS ds k).length = ds.length := by simp [gS]
 rw [hl]
 congr 2
 funext n
 unfold srvB
 rw [getD_gS]
 split
 ·rename_i h; obtain ⟨rfl, _⟩ := h; rfl
 ·rfl
theorem many_gS {ds : List Dlv} {k : Nat} : manyL (gS ds k) = (manyL ds).set k ((manyL ds).getD k 0 - 1) := by
 rw [many_get]
 unfold manyL gS
 rw [List.map_set]; rfl
theorem inD_spr (ds : List Dlv) (l : List Tk) : Spr (manyL ds) (l.map (inD ds)) := fun f hf x hx => by
 obtain ⟨t, _, rfl⟩ := List.mem_map.1 hf
 obtain ⟨k, h1, _, rfl⟩ := inD_mem.1 hx
 rw [manyL_len]; omega
theorem DsO.nn {ds : List Dlv} (h : DsO ds) : Nn (manyL ds) := fun k hk => by
 rw [many_get]
 rw [manyL_len] at hk
 have e : ds.getD k zD = ds[k] := by simp [List.getD_eq_getElem?_getD, hk]
 rw [e]; exact (h.b _ (List.getElem_mem hk)).1
theorem does_full : ∀ (l : List Tk) (ds : List Dlv), DsO ds -> (doesB l ds = true <-> Full (manyL ds) (l.map (inD ds)))
 | [], ds, hd => ⟨fun _ => full_nil hd.nn, fun _ => rfl⟩
 | t :: l, ds, hd => by
  rw [List.map_cons, full_cons (inD_spr ds (t :: l))]
  unfold doesB
  rw [List.any_eq_true]
  constructor
  ·rintro ⟨r, hr, h⟩
   obtain ⟨k, h1, h2, rfl⟩ := giv_mem.1 hr
   have h3 := (does_full l _ (giv_ok hd _ hr)).1 h
   rw [gB_srv, Bool.and_eq_true, decide_eq_true_eq] at h2
   rw [many_gS, show l.map (inD (gS ds k)) = l.map (inD ds) from List.map_congr_left fun t _ => inD_gS ds k t] at h3
   exact ⟨(k : Nat), inD_mem.2 ⟨k, h1, h2.2, rfl⟩, by rw [Int.toNat_natCast, many_get]; exact h2.1, by rw [Int.toNat_natCast]; exact h3⟩
  ·rintro ⟨x, hx, h1, h2⟩
   obtain ⟨k, h3, h4, rfl⟩ := inD_mem.1 hx
   rw [Int.toNat_natCast] at h1 h2
   have hg : gB t ds k = true := by rw [gB_srv, h4, decide_eq_true (by rw [many_get] at h1; exact h1)]; rfl
   have hr : gS ds k ∈ giv t ds := giv_mem.2 ⟨k, h3, hg, rfl⟩
   refine ⟨_, hr, (does_full l _ (giv_ok hd _ hr)).2 ?_⟩
   rw [many_gS, show l.map (inD (gS ds k)) = l.map (inD ds) from List.map_congr_left fun t _ => inD_gS ds k t]
   exact h2
theorem getD_appL {α : Type} {A B : List α} {z : α} {k : Nat} (h : k < A.length) : (A ++ B).getD k z = A.getD k z := by simp [List.getD_eq_getElem?_getD, List.getElem?_append_left h]
theorem getD_appR {α : Type} (A B : List α) (z : α) (k : Nat) : (A ++ B).getD (A.length + k) z = B.getD k z := by simp [List.getD_eq_getElem?_getD, List.getElem?_append_right]
theorem does_swap1 : ∀ (l : List Tk) (A B : List Dlv), doesB l (A ++ B) = true -> doesB l (B ++ A) = true
 | [], _, _, _ => rfl
 | t :: l, A, B, h => by
  unfold doesB at h ⊢
  rw [List.any_eq_true] at h ⊢
  obtain ⟨r, hr, h⟩ := h
  obtain ⟨k, h1, h2, rfl⟩ := giv_mem.1 hr
  by_cases hk : k < A.length
  ·have e1 : gS (A ++ B) k = gS A k ++ B := by unfold gS; rw [getD_appL hk, List.set_append_left _ _ hk]
   have e2 : gS (B ++ A) (B.length + k) = B ++ gS A k := by unfold gS; rw [getD_appR, List.set_append_right _ _ (by omega), Nat.add_sub_cancel_left]
   have e3 : gB t (B ++ A) (B.length + k) = gB t (A ++ B) k := by unfold gB; rw [getD_appR, getD_appL hk]
   rw [e1] at h
   exact ⟨_, giv_mem.2 ⟨B.length + k, by rw [List.length_append]; omega, by rw [e3]; exact h2, rfl⟩, by rw [e2]; exact does_swap1 l _ _ h⟩
  ·obtain ⟨m, rfl⟩ : ∃ m, k = A.length + m := ⟨k - A.length, by omega⟩
   rw [List.length_append] at h1
   have hm : m < B.length := by omega
   have e1 : gS (A ++ B) (A.length + m) = A ++ gS B m := by unfold gS; rw [getD_appR, List.set_append_right _ _ (by omega), Nat.add_sub_cancel_left]
   have e2 : gS (B ++ A) m = gS B m ++ A := by unfold gS; rw [getD_appL hm, List.set_append_left _ _ hm]
   have e3 : gB t (B ++ A) m = gB t (A ++ B) (A.length + m) := by unfold gB; rw [getD_appR, getD_appL hm]
   rw [e1] at h
   exact ⟨_, giv_mem.2 ⟨m, by rw [List.length_append]; omega, by rw [e3]; exact h2, rfl⟩, by rw [e2]; exact does_swap1 l _ _ h⟩
theorem does_swap (l : List Tk) (A B : List Dlv) : doesB l (A ++ B) = doesB l (B ++ A) := by
 cases h : doesB l (A ++ B) with
 | true => exact (does_swap1 l A B h).symm
 | false =>
  cases k : doesB l (B ++ A) with
  | false => rfl
  | true => rw [does_swap1 l B A k] at h; cases h
theorem aTkOk {s : Ord} {i : Int} (hi : s.isW i = true) (p : Int) : s.tkOk (aloneL s.ws.length i p) s.ws.length = s.tkG i p := by
 have hi := isW_iff.1 hi
 cases h : s.tkG i p with
 | true =>
  refine List.all_eq_true.2 fun k hk => ?_
  have hk := List.mem_range.1 hk
  rw [alone_get _ _ _ hk hi.1]
  split
  ·rename_i e; rw [e]; exact h
  ·rfl
 | false => exact tkOk_le (k := i.toNat) (by rw [alone_get _ _ _ (by omega) hi.1, if_pos (by omega), show ((i.toNat : Nat) : Int) = i by omega]; exact h) (by omega)
theorem aTks {s : Ord} {i : Int} (hi : 0 <= i) (p : Int) : ∀ k, k <= s.ws.length -> s.tks (aloneL s.ws.length i p) k = if i < (k : Int) then s.tkI i p else []
 | 0, _ => by rw [if_neg (by omega)]; rfl
 | k + 1, hk => by
  rw [tks_succ, aTks hi p k (by omega), alone_get _ _ _ (by omega) hi]
  by_cases h : (k : Int) = i
  ·rw [if_pos h, if_neg (by omega), if_pos (by omega), h]; rfl
  ·rw [if_neg h, show s.tkI (k : Nat) (-1) = [] from rfl, List.append_nil]
   by_cases h2 : i < (k : Int)
   ·rw [if_pos h2, if_pos (by omega)]
   ·rw [if_neg h2, if_neg (by omega)]
theorem aTksF {s : Ord} {i : Int} (hi : s.isW i = true) (p : Nat) : s.tks (aloneL s.ws.length i (p : Nat)) s.ws.length = s.tkP i (p : Nat) := by
 have hi := isW_iff.1 hi
 rw [aTks hi.1 _ _ (Nat.le_refl _), if_pos hi.2]
 unfold Ord.tkI; rw [if_neg (by omega)]
theorem reps_tkP (s : Ord) (i j : Int) : s.reps i j = (s.tkP i j).map (inD s.sup) := by
 unfold Ord.reps Ord.tkP Ord.ftP
 rw [List.map_map, List.map_map]; rfl
theorem sup_swap (s : Ord) : s.sup2 = s.ds ++ stD s s.st.length /\ s.sup = stD s s.st.length ++ s.ds := ⟨rfl, rfl⟩
theorem sup_dsO {s : Ord} (hk : OkO s) : DsO s.sup := by
 have h := sup2_ok hk
 refine ⟨by have := h.l; unfold Ord.sup2 at this; unfold Ord.sup; rw [List.length_append] at *; omega, fun d hd => h.b d ?_⟩
 unfold Ord.sup at hd; unfold Ord.sup2
 rcases List.mem_append.1 hd with h | h
 ·exact List.mem_append_right _ h
 ·exact List.mem_append_left _ h
theorem does_sup {s : Ord} (hk : OkO s) (l : List Tk) : doesB l s.sup2 = true <-> Full s.many (l.map (inD s.sup)) := by
 rw [(sup_swap s).1, does_swap, <- (sup_swap s).2]
 exact does_full l s.sup (sup_dsO hk)
theorem lack_full {st : List Int} {fs : List (List Int)} {left g : List Int} (h : Best fs st left g) (hs : Spr st fs) (hn : Nn st) : lackN g = 0 <-> Full st fs := by
 have hm := best_IsMost h hs hn
 obtain ⟨g0, hv0, h0⟩ := hm.has
 have a := hasN_add g
 have b := h.lg
 constructor
 ·intro hl
  have a0 := hasN_add g0
  have b0 := hv0.len
  exact ⟨g0, hv0, by omega⟩
 ·rintro ⟨g1, hv, hl⟩
  have := hm.max g1 hv
  have a1 := hasN_add g1
  have b1 := hv.len
  omega
theorem rng_spr {n : Nat} {st : List Int} {fs : List (List Int)} (h : Rng n fs) (hn : st.length = n) : Spr st fs := fun f hf x hx => by
 have := h f hf x hx
 omega
theorem can_iff {s : Ord} (hk : OkO s) {i : Int} (hi : s.isW i = true) {p : Nat} (hp : p < s.ps.length) : s.fillB (aloneL s.ws.length i (p : Nat)) = match s.opt i (p : Nat) with
  | some o => canB s o
  | none => false := by
 have hpp : s.isP (p : Nat) = true := isP_iff.2 (by omega)
 unfold Ord.fillB
 rw [alone_len, aTkOk hi, aTksF hi]
 have hg : s.tkG i (p : Nat) = (decide (suitV (s.wish i) (s.piece (p : Nat)) ≠ 0) && decide (0 <= s.by_ i (p : Nat))) := by
  unfold Ord.tkG; rw [decide_eq_false (by omega)]; rfl
 rw [hg]
 unfold Ord.opt
 cases ho : s.optB i (p : Nat) with
 | true =>
  rw [if_pos rfl]
  have hmem : (⟨(p : Nat), s.reps i (p : Nat)⟩ : Opt) ∈ s.opts i := by
   unfold Ord.opts Ord.optK
   refine List.mem_filterMap.2 ⟨p, List.mem_range.2 hp, ?_⟩
   unfold Ord.opt; rw [ho]; rfl
  obtain ⟨hok, h4⟩ := opts_ok hk hmem
  unfold Ord.optB at ho
  rw [Bool.and_eq_true] at ho
  rw [ho.1, Bool.true_and]
  have hW := withF_ok hk (em_ok hk) hok (by simp only [emF, List.length_nil] at h4 ⊢; omega) (by simp [emF])
  have hrep : (withF s (emF s) ⟨(p : Nat), s.reps i (p : Nat)⟩).rep = s.reps i (p : Nat) := rfl
  have hl := lack_full (show Best (s.reps i (p : Nat)) s.many _ _ from hW.best) (rng_spr hok.r rfl) (many_nn hk)
  have hd := does_sup hk (s.tkP i (p : Nat))
  rw [<- reps_tkP] at hd
  have e : doesB (s.tkP i (p : Nat)) s.sup2 = true <-> canB s ⟨(p : Nat), s.reps i (p : Nat)⟩ = true := by
   rw [hd, <- hl]
   unfold canB
   rw [decide_eq_true_eq, hW.lk]; omega
  show doesB (s.tkP i (p : Nat)) s.sup2 = canB s ⟨(p : Nat), s.reps i (p : Nat)⟩
  cases h1 : doesB (s.tkP i (p : Nat)) s.sup2 with
  | true => exact (e.1 h1).symm
  | false =>
   cases h2 : canB s ⟨(p : Nat), s.reps i (p : Nat)⟩ with
   | true => rw [e.2 h2] at h1; cases h1
   | false => rfl
 | false =>
  rw [if_neg (by simp)]
  show (_ && doesB (s.tkP i (p : Nat)) s.sup2) = false
  unfold Ord.optB at ho
  cases hz : (decide (suitV (s.wish i) (s.piece (p : Nat)) ≠ 0) && decide (0 <= s.by_ i (p : Nat))) with
  | false => rfl
  | true =>
   rw [hz, Bool.true_and] at ho
   rw [Bool.true_and]
   cases h1 : doesB (s.tkP i (p : Nat)) s.sup2 with
   | false => rfl
   | true =>
    obtain ⟨g, hv, hl⟩ := (does_sup hk _).1 h1
    have hall : ((s.piece (p : Nat)).br.all fun k => !(s.fitL ((s.piece (p : Nat)).mkr, k)).isEmpty) = true := by
     refine List.all_eq_true.2 fun k hk' => ?_
     obtain ⟨n, hn, rfl⟩ := List.getElem_of_mem hk'
     have hlen : n < ((s.tkP i (p : Nat)).map (inD s.sup)).length := by rw [List.length_map, tkP_len]; exact hn
     have hgl := hv.len
     have hgn : g.getD n 0 ≠ -1 := fun e => by
      have : (-1 : Int) ∈ g := by rw [<- e]; exact getD_memI (by omega)
      have : 0 < lackN g := List.count_pos_iff.2 this
      omega
     rcases hv.fit n (by omega) with h | h
     ·exact absurd h hgn
     ·have e2 : fsG ((s.tkP i (p : Nat)).map (inD s.sup)) n = inD s.sup ⟨s.by_ i (p : Nat), s.fitL ((s.piece (p : Nat)).mkr, (s.piece (p : Nat)).br[n])⟩ := by
       unfold fsG Ord.tkP Ord.ftP
       simp [List.getD_eq_getElem?_getD, hn]
      rw [e2] at h
      obtain ⟨k, _, h3, _⟩ := inD_mem.1 h
      unfold srvB at h3
      rw [Bool.and_eq_true, decide_eq_true_eq, decide_eq_true_eq] at h3
      have := h3.2
      cases hL : s.fitL ((s.piece (p : Nat)).mkr, (s.piece (p : Nat)).br[n]) with
      | nil => dsimp only at this; rw [hL] at this; cases this
      | cons a b => rfl
    rw [hall] at ho; cases ho
theorem can_eq {s : Ord} (hk : OkO s) {i : Int} (hi : s.isW i = true) : s.canL i = s.rcan i := by
 have : ∀ k, k <= s.ps.length -> ((s.optK i k).filter (canB s)).map (·.pc) = s.rcanK i k := by
  intro k
  induction k with
  | zero => intro _; rfl
  | succ k ih =>
   intro hkl
   have ih := ih (by omega)
   have hc := can_iff hk hi (show k < s.ps.length by omega)
   cases ho : s.opt i (k : Nat) with
   | none =>
    rw [ho] at hc
    rw [optK_none ho, rcanK_no hc, ih]
   | some o =>
    rw [ho] at hc
    have hpc : o.pc = (k : Int) := by
     unfold Ord.opt at ho
     split at ho
     ·cases ho; rfl
     ·cases ho
    dsimp only at hc
    rw [optK_some ho, List.filter_append, List.map_append, ih]
    cases hb : canB s o with
    | true => rw [hb] at hc; rw [rcanK_yes hc]; simp [hb, hpc]
    | false => rw [hb] at hc; rw [rcanK_no hc]; simp [hb]
 exact this _ (Nat.le_refl _)
theorem can_av {s : Ord} (i : Int) : s.canAV i = s.rcanAV i := by
 unfold Ord.canAV Ord.rcanAV
 by_cases h : s.eS (s.isW i) = 0
 ·obtain ⟨hc, hv, _⟩ := eS_0 h
  rw [if_pos h, if_pos h, can_eq (okO hc) hv]
 ·rw [if_neg h, if_neg h]
theorem k10 (s : Ord) (a b c : Int) : FnA Tryz.prog 10 [.agg s.cells, .agg [.int .i64 a, .int .i64 b, .int .i64 c]] (· = .bool true) := by
 have e0 := q30 s
 have eW := q17
 cases hf : s.far with
 | true =>
  rw [hf] at e0
  refine fnA 12 ok10 (by simp) ?_
  (conv=>whnf);(repeat'((first|apply bT|apply bF|apply bN|((first|apply bD|apply bEq|apply bNe)<;>intro hh<;>try(exfalso;omega))|refine e0.cq rfl rfl ?_|refine eW.cq rfl rfl ?_|refine wJ ?_|refine nJ ?_)<;>conv=>whnf))
  all_goals rfl
 | false =>
  rw [hf] at e0
  have hB := osz_big (far_false hf)
  have e1 := q24 s hB
  have e2 := q31 s hB
  have e3 := q32 s hB
  have e4 := q33 s hB a b
  have e5 := q34 s hB a b
  have e6 := v22 s hB a
  have e7 := q35 s hB a
  have e8 := q37 s hB
  rw [can_av a] at e6
  generalize (if s.e1 (s.isW a && s.isP b) = 0 then suitV (s.wish a) (s.piece b) else 0) = u at e4 e5
  generalize s.e1 (s.isW a && s.isP b) = z at e4 e5
  generalize s.chk = ch at e2 e3
  have hl : ∃ (l : List Int) (x : Int), l.length <= 1000000 /\ s.rcanAV a = .tup [.isl (l.map jAV), .int .i64 x] := by
   unfold Ord.rcanAV
   split
   ·exact ⟨_, _, Nat.le_trans (rcanK_len s a _) hB.ps, rfl⟩
   ·exact ⟨[], _, by simp, rfl⟩
  obtain ⟨l, x, hl, hr⟩ := hl
  rw [hr] at e6 e7
  have e9 := sameI hl
  refine fnA 12 ok10 (by simp) ?_
  (conv=>whnf);(repeat'((first|apply bT|apply bF|apply bN|((first|apply bD|apply bEq|apply bNe)<;>intro hh<;>try(exfalso;omega))|refine e0.cq rfl rfl ?_|refine e1.zq rfl rfl ?_|refine e2.cq rfl rfl ?_|refine e3.cq rfl rfl ?_|refine e4.cq rfl rfl ?_|refine e5.cq rfl rfl ?_|refine e6.zq rfl rfl ?_|refine e7.zq rfl rfl ?_|refine e8.cq rfl rfl ?_|refine e9.cq rfl rfl ?_|refine eW.cq rfl rfl ?_|refine wJ ?_|refine nJ ?_)<;>conv=>whnf))
  all_goals rfl
end Go.Proofs
