/- The engine of these proofs, part 3 of 3: abstract values and states, the walk of a function's body as a program on them, and why that walk is sound for the model. It speaks of any program. -/
import Derived.Test.YtpiofeaafnldfaaEng2
set_option linter.unusedSimpArgs false
set_option linter.unusedVariables false
set_option linter.unusedSectionVars false
namespace Go.Eng
open Go.RowKit

/-! ### The walk, as a program: what is computed is written out at once -/
def frcL : List AV → (List AV → Prop) → Prop
  | [], k => k []
  | a :: as, k => frcL as fun l => k (a :: l)
theorem frcL_iff : ∀ (l : List AV) (k : List AV → Prop), frcL l k ↔ k l
  | [], k => Iff.rfl
  | a :: as, k => frcL_iff as _

def setK : List Res → Nat → Res → (List Res → Prop) → Prop
  | [], _, _, k => k []
  | _ :: xs, 0, r, k => k (r :: xs)
  | x :: xs, n + 1, r, k => setK xs n r fun l => k (x :: l)
theorem setK_iff : ∀ (l : List Res) (n : Nat) (r : Res) (k : List Res → Prop), setK l n r k ↔ k (l.set n r)
  | [], _, _, _ => Iff.rfl
  | _ :: _, 0, _, _ => Iff.rfl
  | x :: xs, n + 1, r, k => setK_iff xs n r _

def getR : List Res → Nat → Res
  | [], _ => .dead
  | r :: _, 0 => r
  | _ :: rs, n + 1 => getR rs n
theorem getR_eq : ∀ (l : List Res) (n : Nat), getR l n = l.getD n .dead
  | [], n => by simp [getR]
  | r :: l, 0 => by simp [getR]
  | r :: l, n + 1 => by simp [getR, getR_eq l n]

def dropA : Nat → List AV → List AV
  | 0, l => l
  | _ + 1, [] => []
  | n + 1, _ :: l => dropA n l
theorem dropA_eq : ∀ (n : Nat) (l : List AV), dropA n l = l.drop n
  | 0, l => by simp [dropA]
  | n + 1, [] => by simp [dropA]
  | n + 1, a :: l => by simp [dropA, dropA_eq n l]

/-- so many of them, all there -/
def takeK : Nat → List AV → (List AV → Prop) → Prop
  | 0, _, k => k []
  | _ + 1, [], _ => False
  | n + 1, a :: l, k => takeK n l fun r => k (a :: r)
theorem takeK_ok : ∀ (n : Nat) (l : List AV) (k : List AV → Prop), takeK n l k → n ≤ l.length ∧ k (l.take n)
  | 0, l, k, h => by simpa [takeK] using h
  | n + 1, [], k, h => h.elim
  | n + 1, a :: l, k, h => by
    obtain ⟨h1, h2⟩ := takeK_ok n l _ h
    exact ⟨by simp; omega, by simpa using h2⟩

def ldK (ag : Bool) (n : Nat) (cs : List AV) (k : AV → Prop) : Prop :=
  match ag with
  | true => takeK n cs fun l => k (.agg l)
  | false => match cs with
    | v :: _ => k v
    | [] => False
theorem ldK_ok {ag : Bool} {n : Nat} {cs : List AV} {k : AV → Prop} (h : ldK ag n cs k) : ∃ v, evX.ldC ag n cs = some v ∧ k v := by
  cases ag with
  | true =>
    obtain ⟨h1, h2⟩ := takeK_ok _ _ _ h
    exact ⟨_, by simp only [evX.ldC, h1, if_true], h2⟩
  | false =>
    cases cs with
    | nil => exact h.elim
    | cons v cs => exact ⟨v, rfl, h⟩

def spliceK : List AV → Nat → List AV → (List AV → Prop) → Prop
  | cs, 0, vs, k => go cs vs k
  | [], _ + 1, vs, k => k vs
  | c :: cs, n + 1, vs, k => spliceK cs n vs fun l => k (c :: l)
where
  go : List AV → List AV → (List AV → Prop) → Prop
    | cs, [], k => k cs
    | [], vs, k => k vs
    | _ :: cs, v :: vs, k => go cs vs fun l => k (v :: l)
theorem spliceK_go : ∀ (cs vs : List AV) (k : List AV → Prop), spliceK.go cs vs k ↔ k (vs ++ cs.drop vs.length)
  | cs, [], k => by cases cs <;> simp [spliceK.go]
  | [], v :: vs, k => by simp [spliceK.go]
  | c :: cs, v :: vs, k => by simp [spliceK.go, spliceK_go cs vs]
theorem spliceK_iff : ∀ (cs : List AV) (n : Nat) (vs : List AV) (k : List AV → Prop), spliceK cs n vs k ↔ k (splice cs n vs)
  | cs, 0, vs, k => by cases cs <;> simp [spliceK, splice, spliceK_go]
  | [], n + 1, vs, k => by simp [spliceK, splice]
  | c :: cs, n + 1, vs, k => by simp [spliceK, splice, spliceK_iff cs n vs]

abbrev Tm := List (Nat × AV)

/-! ### What the walk stops at. (Structures: nothing unfolds them.) -/
structure BrB (b : Bool) (A B : Prop) : Prop where
  t : b = true → A
  f : b = false → B
structure WrE (k : IntKind) (x : Int) (K : Int → Prop) : Prop where
  out : K (k.wrap x)
structure Need (p A : Prop) : Prop where
  c : p
  out : A
structure IaE (es : List (List AV)) (i : Int) (K : List AV → Prop) : Prop where
  lo : 0 ≤ i
  hi : i < es.length
  out : K (es.getD i.toNat [])
structure SlE (sz : Nat) (es : List (List AV)) (lo hi : Int) (K : List (List AV) → Prop) : Prop where
  a : 0 ≤ lo
  b : lo ≤ hi
  c : hi ≤ es.length
  d : ∀ e ∈ es, e.length = sz
  out : K ((es.take hi.toNat).drop lo.toNat)
structure ApE (sz bytes : Nat) (xs ys : List (List AV)) (K : Prop) : Prop where
  a : ∀ e ∈ ys, e.length = sz ∧ e.all AV.one = true
  b : (xs.length + ys.length) * bytes ≤ 140737488355328
  out : K
/-- so much memory can be made -/
structure MkE (bytes : Nat) (n m : Int) (K : Prop) : Prop where
  a : 0 ≤ n
  b : n ≤ m
  c : (bytes : Int) * m ≤ 281474976710656
  out : K
theorem mkI {bytes : Nat} {n m : Int} {K : Prop} (h0 : 0 ≤ n) (h1 : n ≤ m) (h2 : (bytes : Int) * m ≤ 281474976710656) (hk : K) : MkE bytes n m K := ⟨h0, h1, h2, hk⟩
structure CallQ (P : Program) (sg : List Res) (f : FuncId) (args : List AV) (k : AV → Prop) : Prop where
  out : CallE P sg f args k
structure VCallQ (P : Program) (sg : List Res) (g : AV) (args : List AV) (k : AV → Prop) : Prop where
  out : VCallE P sg g args k
structure CallZQ (P : Program) (sg : List Res) (nm ct : Nat) (f : FuncId) (args : List AV) (k : List (Nat × Res) → AV → Prop) : Prop where
  out : CallZ P sg nm ct f args k
structure YldQ (E : Env) (gh : Gh) (args : List AV) (k : Gh → AV → Prop) : Prop where
  out : YldE E gh args k
structure LoopQ (E : Env) (b : CI) (T : Ex → St → Prop) (s : St) : Prop where
  out : GoC E (.loop b) T s
structure RngQ (E : Env) (f : Opd) (ps : List Nat) (x y : CI) (T : Ex → St → Prop) (s : St) : Prop where
  out : GoC E (.rng f ps x y) T s

theorem bT {A B : Prop} (h : A) : BrB true A B := ⟨fun _ => h, fun e => absurd e (by decide)⟩
theorem bF {A B : Prop} (h : B) : BrB false A B := ⟨fun e => absurd e (by decide), fun _ => h⟩
theorem bS {b : Bool} {A B : Prop} (h : b = true → A) (k : b = false → B) : BrB b A B := ⟨h, k⟩
theorem bD {p : Prop} [Decidable p] {A B : Prop} (h : p → A) (k : ¬ p → B) : BrB (decide p) A B := ⟨fun e => h (of_decide_eq_true e), fun e => k (of_decide_eq_false e)⟩
theorem bN {b : Bool} {A B : Prop} (h : BrB b B A) : BrB (!b) A B := ⟨fun e => h.2 (by simpa using e), fun e => h.1 (by simpa using e)⟩
theorem bEq {x y : Int} {A B : Prop} (h : x = y → A) (k : x ≠ y → B) : BrB (x == y) A B := ⟨fun e => h (by simpa using e), fun e => k (by simpa using e)⟩
theorem bNe {x y : Int} {A B : Prop} (h : x ≠ y → A) (k : x = y → B) : BrB (x != y) A B := ⟨fun e => h (by simpa using e), fun e => k (by simpa using e)⟩
theorem wAny {k : IntKind} {x : Int} {K : Int → Prop} (h : K (k.wrap x)) : WrE k x K := ⟨h⟩
theorem wIn {x : Int} {K : Int → Prop} (h : -9223372036854775808 ≤ x ∧ x ≤ 9223372036854775807) (hk : K x) : WrE .i64 x K := ⟨wrE_in h hk⟩
theorem nI {p A : Prop} (h : p) (k : A) : Need p A := ⟨h, k⟩
theorem iaI {es : List (List AV)} {i : Int} {K : List AV → Prop} {cs : List AV} (h0 : 0 ≤ i) (h1 : i < es.length) (hc : es.getD i.toNat [] = cs) (hk : K cs) : IaE es i K := ⟨h0, h1, by rw [hc]; exact hk⟩
theorem apI {sz bytes : Nat} {xs ys : List (List AV)} {K : Prop} (h1 : ∀ e ∈ ys, e.length = sz ∧ e.all AV.one = true) (h2 : (xs.length + ys.length) * bytes ≤ 140737488355328) (hk : K) : ApE sz bytes xs ys K := ⟨h1, h2, hk⟩
theorem slI {sz : Nat} {es es' : List (List AV)} {lo hi : Int} {K : List (List AV) → Prop} (h0 : 0 ≤ lo) (h1 : lo ≤ hi) (h2 : hi ≤ es.length) (h3 : ∀ e ∈ es, e.length = sz) (he : (es.take hi.toNat).drop lo.toNat = es') (hk : K es') : SlE sz es lo hi K := ⟨h0, h1, h2, h3, by rw [he]; exact hk⟩
theorem yI {E : Env} {gh : Gh} {args : List AV} {k : Gh → AV → Prop} (h0 : gh.st = false) (h1 : E.ys[gh.k]? = some args) (h2 : AV.flatL args = true) (h3 : k ⟨gh.p, gh.k + 1, false⟩ (.bool true)) (h4 : k ⟨gh.p, gh.k + 1, true⟩ (.bool false)) : YldQ E gh args k := ⟨h0, h1, h2, h3, h4⟩
/-- a call of what holds no memory of our own -/
theorem FnA.callq {P : Program} {sg : List Res} {f : FuncId} {args args' : List AV} {R k : AV → Prop} (h : FnA P f args' R) (hr : AV.puL args = true) (hz : AV.frzL sg 8 args = some args') (hk : ∀ r, R r → k r) : CallQ P sg f args k := ⟨h.call hr hz hk⟩
/-- a call that looks at our own memory; its result holds none -/
theorem FnA.lendq {P : Program} {sg : List Res} {f : FuncId} {args args' : List AV} {R k : AV → Prop} (h : FnA P f args' R) (hr : AV.frzL sg 8 args = some args') (hk : ∀ r, R r → r.flat = true ∧ k r) : CallQ P sg f args k := ⟨h.lend hr hk⟩
/-- a call whose result may hold memory -/
theorem FnO.callzq {P : Program} {sg : List Res} {nm ct : Nat} {f : FuncId} {args args' : List AV} {z : List (Nat × Res)} {R : AV → List (Nat × Res) → Prop} {k : List (Nat × Res) → AV → Prop} (h : FnO P f args' R) (hz : AV.reachL sg args = some z) (hr : AV.frzL sg 8 args = some args') (hk : ∀ r rows, R r rows → rowsB ct rows = true ∧ k (z ++ nameR rows nm) (r.rnr (posN rows nm))) : CallZQ P sg nm ct f args k := ⟨h.callz hz hr hk⟩
theorem FnA.callzq {P : Program} {sg : List Res} {nm ct : Nat} {f : FuncId} {args args' : List AV} {z : List (Nat × Res)} {R : AV → Prop} {k : List (Nat × Res) → AV → Prop} (h : FnA P f args' R) (hz : AV.reachL sg args = some z) (hr : AV.frzL sg 8 args = some args') (hk : ∀ r, R r → k z r) : CallZQ P sg nm ct f args k := ⟨h.callz hz hr hk⟩
theorem FnA.callzn {P : Program} {sg : List Res} {nm ct : Nat} {f : FuncId} {args args' : List AV} {z : List (Nat × Res)} {R : AV → Prop} {k : List (Nat × Res) → AV → Prop} (h : FnA P f args' R) (hz : AV.reachL sg args = some z) (hr : AV.frzNL sg args = some args') (hk : ∀ r, R r → k z r) : CallZQ P sg nm ct f args k := ⟨⟨args', z, hz, .inr hr, .inl ⟨R, h, hk⟩⟩⟩
theorem FnO.callzn {P : Program} {sg : List Res} {nm ct : Nat} {f : FuncId} {args args' : List AV} {z : List (Nat × Res)} {R : AV → List (Nat × Res) → Prop} {k : List (Nat × Res) → AV → Prop} (h : FnO P f args' R) (hz : AV.reachL sg args = some z) (hr : AV.frzNL sg args = some args') (hk : ∀ r rows, R r rows → rowsB ct rows = true ∧ k (z ++ nameR rows nm) (r.rnr (posN rows nm))) : CallZQ P sg nm ct f args k := ⟨⟨args', z, hz, .inr hr, .inr (.inl ⟨R, h, hk⟩)⟩⟩
theorem FnO.calllq {P : Program} {sg : List Res} {nm ct : Nat} {f : FuncId} {args args' : List AV} {z : List (Nat × Res)} {R : AV → List (Nat × Res) → Prop} {k : List (Nat × Res) → AV → Prop} (h : FnO P f args' R) (hz : AV.reachL sg args = some z) (hr : AV.frzL sg 8 args = some args') (hk : ∀ r rows, R r rows → rowsB ct rows = true ∧ flatRB rows = true ∧ r.flatR = true ∧ k (nameR rows nm) (r.rnr (posN rows nm))) : CallZQ P sg nm ct f args k := ⟨⟨args', z, hz, .inl hr, .inr (.inr ⟨R, h, hk⟩)⟩⟩
theorem FnV.vcallq {P : Program} {sg : List Res} {g g' : AV} {args args' : List AV} {R k : AV → Prop} (h : FnV P g' args' R) (h0 : AV.pu g = true) (h1 : AV.puL args = true) (h2 : AV.frz sg 8 g = some g') (h3 : AV.frzL sg 8 args = some args') (hk : ∀ r, R r → k r) : VCallQ P sg g args k := ⟨.inl ⟨g', args', R, h0, h1, h2, h3, h, hk⟩⟩
theorem FnV.vlendq {P : Program} {sg : List Res} {g g' : AV} {args args' : List AV} {R k : AV → Prop} (h : FnV P g' args' R) (h2 : AV.frz sg 8 g = some g') (h3 : AV.frzL sg 8 args = some args') (hk : ∀ r, R r → r.flat = true ∧ k r) : VCallQ P sg g args k := ⟨.inr ⟨g', args', R, h2, h3, h, hk⟩⟩
def evBinQ (op : BinOp) (k : IntKind) (a b : Int) (K : AV → Prop) : Prop :=
  match op with
  | .add => WrE k (a + b) fun c => K (.int k c)
  | .sub => WrE k (a - b) fun c => K (.int k c)
  | .mul => WrE k (a * b) fun c => K (.int k c)
  | .quo => Need (b ≠ 0) (WrE k (a.tdiv b) fun c => K (.int k c))
  | .rem => Need (b ≠ 0) (K (.int k (a.tmod b)))
  | .eql => K (.bool (a == b))
  | .neq => K (.bool (a != b))
  | .lss => K (.bool (decide (a < b)))
  | .leq => K (.bool (decide (a ≤ b)))
  | .gtr => K (.bool (decide (b < a)))
  | .geq => K (.bool (decide (b ≤ a)))
  | .and => K (.int k (bitI .and k a b))
  | .or => K (.int k (bitI .or k a b))
  | .xor => K (.int k (bitI .xor k a b))
  | .andNot => K (.int k (bitI .andNot k a b))
  | .shl => Need (0 ≤ b) (K (.int k (k.wrap (a * 2 ^ min b.toNat k.bits))))
  | .shr => Need (0 ≤ b) (K (.int k (a.fdiv (2 ^ min b.toNat k.bits))))

def ev (tm : Tm) : Opd → Option AV
  | .t i => look tm i
  | .c v => some v
/-- the operands, one by one -/
def evlK (tm : Tm) : List Opd → (List AV → Prop) → Prop
  | [], k => k []
  | x :: xs, k => match ev tm x with
    | some v => evlK tm xs fun l => k (v :: l)
    | none => False
theorem evlK_ok {tm : Tm} {sg : List Res} {gh : Gh} : ∀ {ps : List Opd} {k : List AV → Prop}, evlK tm ps k → ∃ vs, (St.mk tm sg gh).evl ps = some vs ∧ k vs
  | [], k, h => ⟨[], rfl, h⟩
  | p :: ps, k, h => by
    simp only [evlK] at h
    split at h
    · rename_i v hv
      obtain ⟨vs, h1, h2⟩ := evlK_ok (sg := sg) (gh := gh) (ps := ps) h
      have hv' : (St.mk tm sg gh).ev p = some v := by cases p <;> exact hv
      exact ⟨v :: vs, by simp only [St.evl, hv', h1], h2⟩
    · exact h.elim

def buildK (tm : Tm) : List AV → List (Nat × Nat × Opd) → (List AV → Prop) → Prop
  | cs, [], k => k cs
  | cs, (off, n, x) :: r, k => match ev tm x with
    | some (.agg vs) => match decide (vs.length = n), decide (off + n ≤ cs.length) with
      | true, true => spliceK cs off vs fun cs' => buildK tm cs' r k
      | _, _ => False
    | some v => match decide (n = 1), decide (off + 1 ≤ cs.length), v.one with
      | true, true, true => spliceK cs off [v] fun cs' => buildK tm cs' r k
      | _, _, _ => False
    | none => False
theorem buildK_ok {tm : Tm} {sg : List Res} {gh : Gh} : ∀ {qs : List (Nat × Nat × Opd)} {cs : List AV} {k : List AV → Prop}, buildK tm cs qs k → ∃ l, evX.evBuild (St.mk tm sg gh) cs qs = some l ∧ k l
  | [], cs, k, h => ⟨cs, rfl, h⟩
  | (off, n, x) :: qs, cs, k, h => by
    have hev : (St.mk tm sg gh).ev x = ev tm x := by cases x <;> rfl
    simp only [buildK] at h
    split at h
    · rename_i vs hv
      split at h
      · rename_i h1 h2
        have h1' := of_decide_eq_true h1
        have h2' := of_decide_eq_true h2
        rw [spliceK_iff] at h
        obtain ⟨l, h3, h4⟩ := buildK_ok h
        exact ⟨l, by simp only [evX.evBuild, hev, hv]; rw [if_pos ⟨h1', h2'⟩]; exact h3, h4⟩
      · exact h.elim
    · rename_i v hna hv
      split at h
      · rename_i h1 h2 h5
        have h1' := of_decide_eq_true h1
        have h2' := of_decide_eq_true h2
        rw [spliceK_iff] at h
        obtain ⟨l, h3, h4⟩ := buildK_ok h
        refine ⟨l, ?_, h4⟩
        simp only [evX.evBuild, hev, hv]
        cases v with
        | agg vs => exact absurd rfl (hna vs)
        | _ => rw [if_pos ⟨h1', h5, h2'⟩]; exact h3
      · exact h.elim
    · exact h.elim

def cellsP (ag : Bool) (v : AV) (K : List AV → Prop) : Prop :=
  match ag with
  | true => match v with
    | .agg cs => K cs
    | _ => False
  | false => match v.one with
    | true => K [v]
    | false => False
theorem cellsP_ok {ag : Bool} {v : AV} {K K' : List AV → Prop} (h : cellsP ag v K) (hk : ∀ vs, K vs → K' vs) : cellsK ag v K' := by
  cases ag with
  | true =>
    simp only [cellsP] at h
    split at h
    · exact hk _ h
    · exact h.elim
  | false =>
    simp only [cellsP] at h
    split at h
    · rename_i h1; exact ⟨h1, hk _ h⟩
    · exact h.elim
def oneP (vs : List AV) (A : Prop) : Prop :=
  match vs.all AV.one with
  | true => A
  | false => False
theorem oneP_ok {vs : List AV} {A : Prop} (h : oneP vs A) : need (vs.all AV.one = true) A := by
  unfold oneP at h
  split at h
  · rename_i h1; exact ⟨h1, h⟩
  · exact h.elim

def neP (tm : Tm) (i : Nat) : List Opd → Bool
  | [] => true
  | p :: ps => match ev tm p with
    | some v => match v.refsIn fun j => j != i with
      | true => neP tm i ps
      | false => false
    | none => false
theorem neP_ok {tm : Tm} {sg : List Res} {gh : Gh} {i : Nat} : ∀ {ps : List Opd}, neP tm i ps = true → neOk ⟨tm, sg, gh⟩ i ps = true
  | [], _ => rfl
  | p :: ps, h => by
    have hev : (St.mk tm sg gh).ev p = ev tm p := by cases p <;> rfl
    simp only [neP] at h
    simp only [neOk, hev]
    split at h
    · rename_i v hv
      split at h
      · rename_i h1; simp only [hv, h1, Bool.true_and]; exact neP_ok h
      · cases h
    · cases h

def neLP (tm : Tm) (us : List AV) : List Opd → Bool
  | [] => true
  | p :: ps => match ev tm p with
    | some v => match apartVs v us with
      | true => neLP tm us ps
      | false => false
    | none => false
theorem neLP_ok {tm : Tm} {sg : List Res} {gh : Gh} {us : List AV} : ∀ {ps : List Opd}, neLP tm us ps = true → neOkL ⟨tm, sg, gh⟩ us ps = true
  | [], _ => rfl
  | p :: ps, h => by
    have hev : (St.mk tm sg gh).ev p = ev tm p := by cases p <;> rfl
    simp only [neLP] at h
    simp only [neOkL, hev]
    split at h
    · rename_i v hv
      split at h
      · rename_i h1; simp only [hv, h1, Bool.true_and]; exact neLP_ok h
      · cases h
    · cases h

/-- names turn, and it is written out what they are -/
def setLK : List Res → List (Nat × Res) → (List Res → Prop) → Prop
  | sg, [], k => k sg
  | sg, (i, r) :: l, k => setK sg i r fun sg' => setLK sg' l k
theorem setLK_iff : ∀ (l : List (Nat × Res)) (sg : List Res) (k : List Res → Prop), setLK sg l k ↔ k (setL sg l)
  | [], _, _ => Iff.rfl
  | (i, r) :: l, sg, k => by simp only [setLK, setL, setK_iff]; exact setLK_iff l _ k

/-- the elements of a slice that is written out, one by one -/
def rowsK (sg : List Res) (sz : Nat) : List AV → (List (List AV) → List (Nat × Res) → Prop) → Prop
  | [], k => k [] []
  | v :: vs, k => match cellsO sz v with
    | some cs => match AV.reachL sg cs with
      | some z => match AV.frzL sg 8 cs with
        | some cs' => rowsK sg sz vs fun es zs => k (cs' :: es) (z ++ zs)
        | none => False
      | none => False
    | none => False
theorem rowsK_ok {sg : List Res} {sz : Nat} : ∀ {vs : List AV} {k : List (List AV) → List (Nat × Res) → Prop}, rowsK sg sz vs k → ∃ es z, rowsO sg sz vs = some (es, z) ∧ k es z
  | [], k, h => ⟨[], [], rfl, h⟩
  | v :: vs, k, h => by
    simp only [rowsK] at h
    split at h
    · rename_i cs h1
      split at h
      · rename_i z h2
        split at h
        · rename_i cs' h3
          obtain ⟨es, zs, h4, h5⟩ := rowsK_ok h
          exact ⟨_, _, by simp only [rowsO, h1, h2, h3, h4], h5⟩
        · exact h.elim
      · exact h.elim
    · exact h.elim

def boP (tm : Tm) : Option Opd → Option Int
  | none => some 0
  | some p => match ev tm p with
    | some (.int _ n) => some n
    | _ => none
theorem boP_eq {tm : Tm} {sg : List Res} {gh : Gh} (p : Option Opd) : boP tm p = boV ⟨tm, sg, gh⟩ p := by
  cases p with
  | none => rfl
  | some q => cases q <;> rfl

/-- one operation, and what follows it -/
def evP (E : Env) (d : Option Nat) (o : Ixo) (tm : Tm) (sg : List Res) (gh : Gh) (k : Tm → List Res → Gh → Prop) : Prop :=
  match o with
  | .mv x => match ev tm x with
    | some v => put v
    | none => False
  | .pick c a b => match ev tm c, ev tm a, ev tm b with
    | some (.bool c), some x, some y => BrB c (put x) (put y)
    | _, _, _ => False
  | .alloc nm zs => match getR sg nm with
    | .fresh => setK sg nm (.box false zs) fun sg' => put2 sg' (.own nm 0)
    | _ => False
  | .mks nm el sz bytes zs x y => match getR sg nm, ev tm x, ev tm y with
    | .fresh, some (.int _ n), some (.int _ m) => MkE bytes n m (setK sg nm (.row false el sz (List.replicate n.toNat zs)) fun sg' => put2 sg' (.row nm))
    | _, _, _ => False
  | .box nm ag x => match ev tm x, getR sg nm with
    | some v, .fresh => cellsP ag v fun cs => setK sg nm (.box false cs) fun sg' => put2 sg' (.own nm 0)
    | _, _ => False
  | .build zs ps => buildK tm zs ps fun cs => put (.agg cs)
  | .load ag n a => match ev tm a with
    | some (.own i off) => match getR sg i with
      | .box _ cs => ldK ag n (dropA off cs) put
      | _ => False
    | some (.elt i sz m j) => match getR sg i with
      | .row _ _ sz' es => match decide (sz' = sz) with
        | true => IaE es m fun cs => ldK ag n (dropA j cs) put
        | false => False
      | _ => False
    | some (.ipt cs) => ldK ag n cs put
    | _ => False
  | .store ag n a x ne => match ev tm a, ev tm x with
    | some (.own i off), some v => match getR sg i with
      | .box false cs => cellsP ag v fun vs => oneP vs (match decide (vs.length = n), decide (off + n ≤ cs.length), neP tm i ne with
        | true, true, true => spliceK cs off vs fun cs' => setK sg i (.box false cs') fun sg' => k tm sg' gh
        | _, _, _ => False)
      | _ => False
    | some (.elt i sz m j), some v => match getR sg i with
      | .row false el sz' es => cellsP ag v fun vs => oneP vs (match decide (sz' = sz), decide (vs.length = n), AV.puL vs, neP tm i ne with
        | true, true, true, true => match AV.frzL sg 8 vs with
          | some vs' => IaE es m fun cs => match decide (j + n ≤ cs.length) with
            | true => spliceK cs j vs' fun cs' => setK sg i (.row false el sz (es.set m cs')) fun sg' => k tm sg' gh
            | false => False
          | none => False
        | _, _, _, _ => False)
      | _ => False
    | _, _ => False
  | .bin op x y => match ev tm x, ev tm y with
    | some (.int k1 a), some (.int k2 b) => match isSh op || decide (k1 = k2) with
      | true => evBinQ op k1 a b put
      | false => False
    | _, _ => False
  | .eqb neg x y => match ev tm x, ev tm y with
    | some (.bool a), some (.bool b) => match neg with
      | true => put (.bool (a != b))
      | false => put (.bool (a == b))
    | _, _ => False
  | .eqs neg T x y => match ev tm x, ev tm y with
    | some (.agg as), some (.agg bs) => match eqV T as bs with
      | some r => match neg with
        | true => put (.bool (!r))
        | false => put (.bool r)
      | none => False
    | _, _ => False
  | .un op x => match op, ev tm x with
    | .not, some (.bool b) => put (.bool (!b))
    | .neg, some (.int kd n) => WrE kd (0 - n) fun c => put (.int kd c)
    | _, _ => False
  | .conv kd x => match ev tm x with
    | some (.int _ n) => WrE kd n fun c => put (.int kd c)
    | _ => False
  | .faddr off x => match ev tm x with
    | some (.own i o) => put (.own i (o + off))
    | some (.elt i sz m j) => put (.elt i sz m (j + off))
    | some (.ipt cs) => put (.ipt (dropA off cs))
    | _ => False
  | .field ag n off x => match ev tm x with
    | some (.agg cs) => ldK ag n (dropA off cs) put
    | _ => False
  | .iaddr sz x i => match ev tm x, ev tm i with
    | some (.isl es), some (.int _ i) => IaE es i fun cs => match decide (cs.length = sz) with
      | true => put (.ipt cs)
      | false => False
    | some (.row j), some (.int _ i) => match getR sg j with
      | .row _ _ sz' es => match decide (sz' = sz) with
        | true => Need (0 ≤ i ∧ i < es.length) (put (.elt j sz i.toNat 0))
        | false => False
      | _ => False
    | _, _ => False
  | .mkfn f caps => evlK tm caps fun vs => put (.fn f vs)
  | .extract i x => match ev tm x with
    | some (.tup vs) => match dropA i vs with
      | v :: _ => put v
      | [] => False
    | _ => False
  | .call f xs => evlK tm xs fun vs => CallQ E.P sg f vs put
  | .callv g xs => match ev tm g with
    | some g => evlK tm xs fun vs => match isYld g with
      | true => YldQ E gh vs put3
      | false => VCallQ E.P sg g vs put
    | none => False
  | .len x => match ev tm x with
    | some (.isl es) => put (.int .i64 es.length)
    | some .nils => put (.int .i64 0)
    | some (.row i) => match getR sg i with
      | .row _ _ _ es => put (.int .i64 es.length)
      | _ => False
    | _ => False
  | .slen x => match ev tm x with
    | some (.str b) => put (.int .i64 b.length)
    | _ => False
  | .mm mx xs => evlK tm xs fun vs => match vs with
    | .int kd n :: vs => match mmV mx kd n vs with
      | some m => put (.int kd m)
      | none => False
    | _ => False
  | .sli sz x lo hi => match ev tm x, boP tm lo with
    | some (.isl es), some lo => match hi with
      | none => SlE sz es lo es.length fun es' => put (.isl es')
      | some hi => match boP tm (some hi) with
        | some hi => SlE sz es lo hi fun es' => put (.isl es')
        | none => False
    | _, _ => False
  | .bsl nm el sz ps ne => match getR sg nm with
    | .fresh => evlK tm ps fun vs => rowsK sg sz vs fun es z => match neLP tm vs ne with
      | true => setLK sg z fun sg1 => setK sg1 nm (.row false el sz es) fun sg' => put2 sg' (.row nm)
      | false => False
    | _ => False
  | .apd nm el sz bytes x y ne => match getR sg nm, ev tm x, ev tm y with
    | .fresh, some u, some v => match srcO sg el sz u, addO sg sz v with
      | some (es, z), some es' => match apartV v u, neLP tm [u, v] ne with
        | true, true => ApE sz bytes es es' (setLK sg z fun sg1 => setK sg1 nm (.row false el sz (es ++ es')) fun sg' => put2 sg' (.row nm))
        | _, _ => False
      | _, _ => False
    | _, _, _ => False
  | .callz nm ct f xs ne => evlK tm xs fun vs => match neLP tm vs ne with
    | true => match freshN sg nm ct with
      | true => CallZQ E.P sg nm ct f vs fun z r => setLK sg z fun sg' => put2 sg' r
      | false => False
    | false => False
  | .nilck x => match ev tm x with
    | some (.own i o) => put (.own i o)
    | some (.elt i sz m j) => put (.elt i sz m j)
    | some (.ipt cs) => put (.ipt cs)
    | some (.fn f cs) => put (.fn f cs)
    | _ => False
  | .mkm nm => match getR sg nm with
    | .fresh => setK sg nm (.mp false [] []) fun sg' => put2 sg' (.row nm)
    | _ => False
  | .mpu kt m x v ne => match ev tm m, ev tm x, ev tm v with
    | some (.row i), some kv, some vv => match getR sg i with
      | .mp false ks us => match AV.reach sg vv with
        | some z => match AV.frz sg 8 vv with
          | some v' => match memN (fstN z) i, neLP tm [.row i, vv] ne with
            | false, true => MpuE kt ks us kv v' fun ks' us' => setLK sg z fun sg1 => setK sg1 i (.mp false ks' us') fun sg' => put2 sg' .gone
            | _, _ => False
          | none => False
        | none => False
      | _ => False
    | _, _, _ => False
  | .mrg nm m ne => match getR sg nm, ev tm m with
    | .fresh, some v => match AV.reach sg v with
      | some z => match AV.frz sg 8 v with
        | some (.imp ks us) => match neLP tm [v] ne with
          | true => setLK sg z fun sg1 => setK sg1 nm (.itr ks us [] []) fun sg' => put2 sg' (.row nm)
          | false => False
        | _ => False
      | none => False
    | _, _ => False
  | .mnx x => match ev tm x with
    | some (.row i) => match getR sg i with
      | .itr ks us seen _ => NxE ks us seen (fun j kv uv => setK sg i (.itr ks us (seen ++ [j]) [kv, uv]) fun sg' => put2 sg' (.tup [.bool true, kv, uv])) (put (.tup [.bool false]))
      | _ => False
    | _ => False
  | .men x => match ev tm x with
    | some (.row i) => match getR sg i with
      | .itr _ _ _ [kv, uv] => put (.tup [kv, uv])
      | _ => False
    | _ => False
  | .lkp kt ok z m x => match ev tm m, ev tm x with
    | some (.imp ks us), some kv => LkE kt ks us kv fun r => put (lkR ok z r)
    | some (.row i), some kv => match getR sg i with
      | .mp _ ks us => LkE kt ks us kv fun r => put (lkR ok z r)
      | _ => False
    | _, _ => False
  | .stz ag n a x ne => match ev tm a, ev tm x with
    | some (.own i off), some v => match getR sg i with
      | .box false cs => match neLP tm [.own i off, v] ne with
        | true => cellsP ag v fun vs => oneP vs (match decide (vs.length = n), decide (off + n ≤ cs.length) with
          | true, true => spliceK cs off vs fun cs' => setK sg i (.box false cs') fun sg' => k tm sg' gh
          | _, _ => False)
        | false => False
      | _ => False
    | some (.elt i sz m j), some v => match getR sg i with
      | .row false el sz' es => match AV.reach sg v with
        | some z => match AV.frz sg 8 v with
          | some v' => match neLP tm [.elt i sz m j, v] ne, memN (fstN z) i, decide (sz' = sz) with
            | true, false, true => cellsP ag v' fun vs' => oneP vs' (match decide (vs'.length = n) with
              | true => IaE es m fun cs => match decide (j + n ≤ cs.length) with
                | true => spliceK cs j vs' fun cs' => setLK sg z fun sg1 => setK sg1 i (.row false el sz (es.set m cs')) fun sg' => put2 sg' .gone
                | false => False
              | false => False)
            | _, _, _ => False
          | none => False
        | none => False
      | _ => False
    | _, _ => False
  | .mlen x => match ev tm x with
    | some (.imp ks _) => put (.int .i64 ks.length)
    | some (.row i) => match getR sg i with
      | .mp _ ks _ => put (.int .i64 ks.length)
      | _ => False
    | _ => False
where
  put (v : AV) : Prop := match d with
    | some d => k ((d, v) :: tm) sg gh
    | none => k tm sg gh
  put2 (sg' : List Res) (v : AV) : Prop := match d with
    | some d => k ((d, v) :: tm) sg' gh
    | none => k tm sg' gh
  put3 (gh' : Gh) (v : AV) : Prop := match d with
    | some d => k ((d, v) :: tm) sg gh'
    | none => k tm sg gh'

theorem evP_ok {E : Env} {d : Option Nat} {o : Ixo} {tm : Tm} {sg : List Res} {gh : Gh} {k : Tm → List Res → Gh → Prop} (h : evP E d o tm sg gh k) : evO E d o ⟨tm, sg, gh⟩ fun s => k s.tm s.sg s.gh := by
  have hev : ∀ x, (St.mk tm sg gh).ev x = ev tm x := fun x => by cases x <;> rfl
  have hput : ∀ v, evP.put d tm sg gh k v → (fun s : St => k s.tm s.sg s.gh) (app d ⟨tm, sg, gh⟩ (.val v)) := fun v hv => by cases d <;> exact hv
  have hput2 : ∀ nm r v, evP.put2 d tm gh k (sg.set nm r) v → (fun s : St => k s.tm s.sg s.gh) (app d ⟨tm, sg, gh⟩ (.new nm r v)) := fun nm r v hv => by cases d <;> exact hv
  have hbig : ∀ l v, evP.put2 d tm gh k (setL sg l) v → (fun s : St => k s.tm s.sg s.gh) (app d ⟨tm, sg, gh⟩ (.big l v)) := fun l v hv => by cases d <;> exact hv
  have hex : ∀ (o : Ixo) (κ : Eff → Prop), evX E o ⟨tm, sg, gh⟩ κ → (∀ e, κ e → (fun s : St => k s.tm s.sg s.gh) (app d ⟨tm, sg, gh⟩ e)) → evO E d o ⟨tm, sg, gh⟩ fun s => k s.tm s.sg s.gh := fun o κ h1 h2 => evX_mono h1 h2
  have put1 : ∀ {o : Ixo} {v : AV}, (∀ κ : Eff → Prop, κ (.val v) → evX E o ⟨tm, sg, gh⟩ κ) → evP.put d tm sg gh k v → evO E d o ⟨tm, sg, gh⟩ fun s => k s.tm s.sg s.gh := fun h1 h2 => h1 _ (hput _ h2)
  cases o with
  | mv x =>
    simp only [evP] at h
    split at h
    · rename_i v hv; exact put1 (fun κ hk => by simp only [evX, hev, hv]; exact hk) h
    · exact h.elim
  | pick c a b =>
    simp only [evP] at h
    split at h
    · rename_i c' x y h1 h2 h3
      unfold evO
      simp only [evX, hev, h1, h2, h3]
      exact brB_mono ⟨h.1, h.2⟩ (hput _) (hput _)
    · exact h.elim
  | alloc nm zs =>
    simp only [evP, getR_eq] at h
    split at h
    · rename_i h1
      rw [setK_iff] at h
      unfold evO
      simp only [evX, h1]
      exact hput2 _ _ _ h
    · exact h.elim
  | mks nm el sz bytes zs x y =>
    simp only [evP, getR_eq] at h
    split at h
    · rename_i kl n kc m h1 h2 h3
      obtain ⟨e1, e2, e3, h⟩ := h
      rw [setK_iff] at h
      unfold evO
      simp only [evX, hev, h1, h2, h3]
      exact ⟨e1, e2, e3, hput2 _ _ _ h⟩
    · exact h.elim
  | box nm ag x =>
    simp only [evP, getR_eq] at h
    split at h
    · rename_i v h1 h2
      unfold evO
      simp only [evX, hev, h1, h2]
      exact cellsP_ok h fun cs hc => by rw [setK_iff] at hc; exact hput2 _ _ _ hc
    · exact h.elim
  | build zs ps =>
    simp only [evP] at h
    obtain ⟨l, h1, h2⟩ := buildK_ok (sg := sg) (gh := gh) h
    exact put1 (fun κ hk => by simp only [evX, h1]; exact hk) h2
  | load ag n a =>
    simp only [evP, getR_eq, dropA_eq] at h
    split at h
    · rename_i i off h1
      split at h
      · rename_i ice cs h2
        obtain ⟨v, h3, h4⟩ := ldK_ok h
        exact put1 (fun κ hk => by simp only [evX, hev, h1, h2, h3]; exact hk) h4
      · exact h.elim
    · rename_i i sz m j h1
      split at h
      · rename_i ice el sz' es h2
        split at h
        · rename_i h5
          have h5' := of_decide_eq_true h5
          obtain ⟨k1, k2, h⟩ := h
          obtain ⟨v, h3, h4⟩ := ldK_ok h
          exact put1 (fun κ hk => by simp only [evX, hev, h1, h2, if_pos h5']; exact ⟨k1, k2, by simp only [h3]; exact hk⟩) h4
        · exact h.elim
      · exact h.elim
    · rename_i cs h1
      obtain ⟨v, h3, h4⟩ := ldK_ok h
      exact put1 (fun κ hk => by simp only [evX, hev, h1, h3]; exact hk) h4
    · exact h.elim
  | store ag n a x ne =>
    simp only [evP, getR_eq] at h
    split at h
    · rename_i i off v h1 h2
      split at h
      · rename_i cs h3
        unfold evO
        simp only [evX, hev, h1, h2, h3]
        have fin : ∀ vs : List AV, need (vs.all AV.one = true) (match decide (vs.length = n), decide (off + n ≤ cs.length), neP tm i ne with
            | true, true, true => spliceK cs off vs fun cs' => setK sg i (.box false cs') fun sg' => k tm sg' gh
            | _, _, _ => False) → need (vs.all AV.one = true) (if vs.length = n ∧ off + n ≤ cs.length ∧ neOk ⟨tm, sg, gh⟩ i ne = true then k tm (sg.set i (.box false (splice cs off vs))) gh else False) := fun vs hh => by
          obtain ⟨h4, h5⟩ := hh
          refine ⟨h4, ?_⟩
          split at h5
          · rename_i h6 h7 h8
            rw [if_pos ⟨of_decide_eq_true h6, of_decide_eq_true h7, neP_ok h8⟩]
            rw [spliceK_iff, setK_iff] at h5
            exact h5
          · exact h5.elim
        exact cellsP_ok h fun vs hv => fin vs (oneP_ok hv)
      · exact h.elim
    · rename_i i sz m j v h1 h2
      split at h
      · rename_i el sz' es h3
        unfold evO
        simp only [evX, hev, h1, h2, h3]
        have fin : ∀ vs : List AV, need (vs.all AV.one = true) (match decide (sz' = sz), decide (vs.length = n), AV.puL vs, neP tm i ne with
            | true, true, true, true => match AV.frzL sg 8 vs with
              | some vs' => IaE es m fun cs => match decide (j + n ≤ cs.length) with
                | true => spliceK cs j vs' fun cs' => setK sg i (.row false el sz (es.set m cs')) fun sg' => k tm sg' gh
                | false => False
              | none => False
            | _, _, _, _ => False) → need (vs.all AV.one = true) (if sz' = sz ∧ vs.length = n ∧ AV.puL vs = true ∧ neOk ⟨tm, sg, gh⟩ i ne = true then
              match AV.frzL sg 8 vs with
              | some vs' => iaE es m fun cs => if j + n ≤ cs.length then k tm (sg.set i (.row false el sz (es.set m (splice cs j vs')))) gh else False
              | none => False
            else False) := fun vs hh => by
          obtain ⟨h4, h5⟩ := hh
          refine ⟨h4, ?_⟩
          split at h5
          · rename_i h6 h7 h8 h9
            rw [if_pos ⟨of_decide_eq_true h6, of_decide_eq_true h7, h8, neP_ok h9⟩]
            split at h5
            · rename_i vs' hf
              obtain ⟨k1, k2, h5⟩ := h5
              refine ⟨k1, k2, ?_⟩
              split at h5
              · rename_i h10
                simp only [if_pos (of_decide_eq_true h10)]
                rw [spliceK_iff, setK_iff] at h5
                exact h5
              · exact h5.elim
            · exact h5.elim
          · exact h5.elim
        exact cellsP_ok h fun vs hv => fin vs (oneP_ok hv)
      · exact h.elim
    · exact h.elim
  | bin op x y =>
    simp only [evP] at h
    split at h
    · rename_i k1 a k2 b h1 h2
      split at h
      · rename_i h3
        unfold evO
        simp only [evX, hev, h1, h2, h3, if_true]
        cases op <;> simp only [evBin, evBinQ, wrE, need] at h ⊢ <;> first | exact h.elim | exact hput _ h | exact hput _ h.out | exact ⟨h.1, hput _ h.2.out⟩ | exact ⟨h.1, hput _ h.2⟩
      · exact h.elim
    · exact h.elim
  | eqb neg x y =>
    simp only [evP] at h
    split at h
    · rename_i a b h1 h2
      cases neg
      · exact put1 (fun κ hk => by simp only [evX, hev, h1, h2]; exact hk) h
      · exact put1 (fun κ hk => by simp only [evX, hev, h1, h2]; exact hk) h
    · exact h.elim
  | eqs neg T x y =>
    simp only [evP] at h
    split at h
    · rename_i a b h1 h2
      split at h
      · rename_i r h3
        cases neg
        · exact put1 (fun κ hk => by simp only [evX, hev, h1, h2, h3]; exact hk) h
        · exact put1 (fun κ hk => by simp only [evX, hev, h1, h2, h3]; exact hk) h
      · exact h.elim
    · exact h.elim
  | un op x =>
    simp only [evP] at h
    split at h
    · rename_i h1; exact put1 (fun κ hk => by simp only [evX, hev, h1]; exact hk) h
    · rename_i h1; exact put1 (fun κ hk => by simp only [evX, hev, h1, wrE]; exact hk) h.out
    · exact h.elim
  | conv kd x =>
    simp only [evP] at h
    split at h
    · rename_i h1; exact put1 (fun κ hk => by simp only [evX, hev, h1, wrE]; exact hk) h.out
    · exact h.elim
  | faddr off x =>
    simp only [evP, dropA_eq] at h
    split at h
    · rename_i h1; exact put1 (fun κ hk => by simp only [evX, hev, h1]; exact hk) h
    · rename_i h1; exact put1 (fun κ hk => by simp only [evX, hev, h1]; exact hk) h
    · rename_i h1; exact put1 (fun κ hk => by simp only [evX, hev, h1]; exact hk) h
    · exact h.elim
  | field ag n off x =>
    simp only [evP, dropA_eq] at h
    split at h
    · rename_i h1
      obtain ⟨v, h3, h4⟩ := ldK_ok h
      exact put1 (fun κ hk => by simp only [evX, hev, h1, h3]; exact hk) h4
    · exact h.elim
  | iaddr sz x i =>
    simp only [evP, getR_eq] at h
    split at h
    · rename_i h1 h2
      obtain ⟨h4, h5, h⟩ := h
      split at h
      · rename_i h3
        have h3' := of_decide_eq_true h3
        unfold evO
        simp only [evX, hev, h1, h2]
        exact ⟨h4, h5, by simp only [if_pos h3']; exact hput _ h⟩
      · exact h.elim
    · rename_i h1 h2
      split at h
      · rename_i h3
        split at h
        · rename_i h4
          have h4' := of_decide_eq_true h4
          unfold evO
          simp only [evX, hev, h1, h2, h3, if_pos h4']
          exact ⟨h.1, hput _ h.2⟩
        · exact h.elim
      · exact h.elim
    · exact h.elim
  | bsl nm el sz ps ne =>
    simp only [evP, getR_eq] at h
    split at h
    · rename_i h1
      obtain ⟨vs, h2, h3⟩ := evlK_ok (sg := sg) (gh := gh) h
      obtain ⟨es, z, h4, h5⟩ := rowsK_ok h3
      split at h5
      · rename_i h6
        have h6' := neLP_ok (sg := sg) (gh := gh) h6
        rw [setLK_iff, setK_iff] at h5
        unfold evO
        simp only [evX, h1, h2, h4, h6']
        refine hbig _ _ ?_
        rw [setL_append]
        exact h5
      · exact h5.elim
    · exact h.elim
  | apd nm el sz bytes x y ne =>
    simp only [evP, getR_eq] at h
    split at h
    · rename_i u v h1 h2 h3
      split at h
      · rename_i es z es' h4 h5
        split at h
        · rename_i h6 h7
          obtain ⟨k1, k2, h⟩ := h
          rw [setLK_iff, setK_iff] at h
          unfold evO
          simp only [evX, hev, h1, h2, h3, h4, h5]
          rw [if_pos ⟨h6, neLP_ok h7⟩]
          refine ⟨k1, k2, hbig _ _ ?_⟩
          rw [setL_append]
          exact h
        · exact h.elim
      · exact h.elim
    · exact h.elim
  | callz nm ct f xs ne =>
    simp only [evP] at h
    obtain ⟨vs, h1, h2⟩ := evlK_ok (sg := sg) (gh := gh) h
    split at h2
    · rename_i h3
      unfold evO
      simp only [evX, h1]
      split at h2
      · rename_i h4
        rw [if_pos ⟨neLP_ok h3, h4⟩]
        obtain ⟨args', z, k1, k2, k3⟩ := h2.out
        refine ⟨args', z, k1, k2, ?_⟩
        rcases k3 with ⟨R, k3, k4⟩ | ⟨R, k3, k4⟩ | ⟨R, k3, k4⟩
        · refine .inl ⟨R, k3, fun r hr => hbig _ _ ?_⟩
          have h5 : setLK sg z (fun sg' => evP.put2 d tm gh k sg' r) := k4 r hr
          rw [setLK_iff] at h5
          exact h5
        · refine .inr (.inl ⟨R, k3, fun r rows hr => ⟨(k4 r rows hr).1, hbig _ _ ?_⟩⟩)
          have h5 : setLK sg (z ++ nameR rows nm) (fun sg' => evP.put2 d tm gh k sg' (r.rnr (posN rows nm))) := (k4 r rows hr).2
          rw [setLK_iff] at h5
          exact h5
        · refine .inr (.inr ⟨R, k3, fun r rows hr => ⟨(k4 r rows hr).1, (k4 r rows hr).2.1, (k4 r rows hr).2.2.1, hbig _ _ ?_⟩⟩)
          have h5 : setLK sg (nameR rows nm) (fun sg' => evP.put2 d tm gh k sg' (r.rnr (posN rows nm))) := (k4 r rows hr).2.2.2
          rw [setLK_iff] at h5
          exact h5
      · exact h2.elim
    · exact h2.elim
  | mm mx xs =>
    simp only [evP] at h
    obtain ⟨vs, h1, h2⟩ := evlK_ok (sg := sg) (gh := gh) h
    split at h2
    · split at h2
      · rename_i h3
        exact put1 (fun κ hk => by simp only [evX, h1, h3]; exact hk) h2
      · exact h2.elim
    · exact h2.elim
  | sli sz x lo hi =>
    simp only [evP, boP_eq (sg := sg) (gh := gh)] at h
    unfold evO
    simp only [evX, hev]
    split at h
    · rename_i h1 h2
      try simp only [h1, h2]
      cases hi with
      | none => exact ⟨h.1, h.2, h.3, h.4, hput _ h.5⟩
      | some q =>
        simp only at h ⊢
        split at h
        · rename_i h3
          try simp only [h3]
          exact ⟨h.1, h.2, h.3, h.4, hput _ h.5⟩
        · exact h.elim
    · exact h.elim
  | mkfn f caps =>
    simp only [evP] at h
    obtain ⟨vs, h1, h2⟩ := evlK_ok (sg := sg) (gh := gh) h
    exact put1 (fun κ hk => by simp only [evX, h1]; exact hk) h2
  | extract i x =>
    simp only [evP, dropA_eq] at h
    split at h
    · rename_i vs h1
      split at h
      · rename_i v rest h2
        have h3 : vs[i]? = some v := by have := congrArg (·[0]?) h2; simpa using this
        exact put1 (fun κ hk => by simp only [evX, hev, h1, h3]; exact hk) h
      · exact h.elim
    · exact h.elim
  | call f xs =>
    simp only [evP] at h
    obtain ⟨vs, h1, h2⟩ := evlK_ok (sg := sg) (gh := gh) h
    unfold evO
    simp only [evX, h1]
    rcases h2.out with ⟨args', R, a0, a1, a2, a3⟩ | ⟨args', R, a1, a2, a3⟩
    · exact .inl ⟨args', R, a0, a1, a2, fun r hr => hput _ (a3 r hr)⟩
    · exact .inr ⟨args', R, a1, a2, fun r hr => ⟨(a3 r hr).1, hput _ (a3 r hr).2⟩⟩
  | callv g xs =>
    simp only [evP] at h
    split at h
    · rename_i gv hg
      obtain ⟨vs, h1, h2⟩ := evlK_ok (sg := sg) (gh := gh) h
      unfold evO
      simp only [evX, hev, hg, h1]
      split at h2
      · rename_i hyl
        try rw [hyl]
        obtain ⟨y0, y1, y2, y3, y4⟩ := h2.out
        have h3 : ∀ g v, evP.put3 d tm sg k g v → (fun s : St => k s.tm s.sg s.gh) (app d ⟨tm, sg, gh⟩ (.yl g v)) := fun g v hv => by cases d <;> exact hv
        exact ⟨y0, y1, y2, h3 _ _ y3, h3 _ _ y4⟩
      rename_i hyl
      try rw [hyl]
      rcases h2.out with ⟨g', args', R, b0, b1, a0, a1, a2, a3⟩ | ⟨g', args', R, a0, a1, a2, a3⟩
      · exact .inl ⟨g', args', R, b0, b1, a0, a1, a2, fun r hr => hput _ (a3 r hr)⟩
      · exact .inr ⟨g', args', R, a0, a1, a2, fun r hr => ⟨(a3 r hr).1, hput _ (a3 r hr).2⟩⟩
    · exact h.elim
  | len x =>
    simp only [evP, getR_eq] at h
    split at h
    · rename_i h1; exact put1 (fun κ hk => by simp only [evX, hev, h1]; exact hk) h
    · rename_i h1; exact put1 (fun κ hk => by simp only [evX, hev, h1]; exact hk) h
    · rename_i h1
      split at h
      · rename_i h2; exact put1 (fun κ hk => by simp only [evX, hev, h1, h2]; exact hk) h
      · exact h.elim
    · exact h.elim
  | slen x =>
    simp only [evP] at h
    split at h
    · rename_i h1; exact put1 (fun κ hk => by simp only [evX, hev, h1]; exact hk) h
    · exact h.elim
  | nilck x =>
    simp only [evP] at h
    split at h
    · rename_i h1; exact put1 (fun κ hk => by simp only [evX, hev, h1]; exact hk) h
    · rename_i h1; exact put1 (fun κ hk => by simp only [evX, hev, h1]; exact hk) h
    · rename_i h1; exact put1 (fun κ hk => by simp only [evX, hev, h1]; exact hk) h
    · rename_i h1; exact put1 (fun κ hk => by simp only [evX, hev, h1]; exact hk) h
    · exact h.elim
  | mkm nm =>
    simp only [evP, getR_eq] at h
    split at h
    · rename_i h1
      rw [setK_iff] at h
      unfold evO
      simp only [evX, h1]
      exact hput2 _ _ _ h
    · exact h.elim
  | mpu kt m x v ne =>
    simp only [evP, getR_eq] at h
    split at h
    · rename_i i kv vv h1 h2 h3
      split at h
      · rename_i ks us h4
        split at h
        · rename_i z h5
          split at h
          · rename_i v' h6
            split at h
            · rename_i h7 h8
              obtain ⟨ks', us', h9, h⟩ := h.out
              rw [setLK_iff, setK_iff] at h
              unfold evO
              simp only [evX, hev, h1, h2, h3, h4, h5, h6]
              rw [if_pos ⟨h7, neLP_ok h8⟩]
              refine mpI h9 (hbig _ _ ?_)
              rw [setL_append]
              exact h
            · exact h.elim
          · exact h.elim
        · exact h.elim
      · exact h.elim
    · exact h.elim
  | mrg nm m ne =>
    simp only [evP, getR_eq] at h
    split at h
    · rename_i v h1 h2
      split at h
      · rename_i z h5
        split at h
        · rename_i ks us h6
          split at h
          · rename_i h8
            rw [setLK_iff, setK_iff] at h
            unfold evO
            simp only [evX, hev, h1, h2, h5, h6]
            rw [if_pos (neLP_ok h8)]
            refine hbig _ _ ?_
            rw [setL_append]
            exact h
          · exact h.elim
        · exact h.elim
      · exact h.elim
    · exact h.elim
  | mnx x =>
    simp only [evP, getR_eq] at h
    split at h
    · rename_i i h1
      split at h
      · rename_i ks us seen last h2
        unfold evO
        simp only [evX, hev, h1, h2]
        refine nxI (fun j kv uv k1 k2 k3 => ?_) (fun k1 => hput _ (h.none k1))
        have h3 := h.some j kv uv k1 k2 k3
        rw [setK_iff] at h3
        exact hbig [(i, .itr ks us (seen ++ [j]) [kv, uv])] _ h3
      · exact h.elim
    · exact h.elim
  | men x =>
    simp only [evP, getR_eq] at h
    split at h
    · rename_i i h1
      split at h
      · rename_i ks us seen kv uv h2
        exact put1 (fun κ hk => by simp only [evX, hev, h1, h2]; exact hk) h
      · exact h.elim
    · exact h.elim
  | lkp kt ok z m x =>
    simp only [evP, getR_eq] at h
    split at h
    · rename_i h1 h2
      obtain ⟨r, h3, h4⟩ := h.out
      exact put1 (fun κ hk => by simp only [evX, hev, h1, h2]; exact lkI h3 hk) h4
    · rename_i h1 h2
      split at h
      · rename_i h5
        obtain ⟨r, h3, h4⟩ := h.out
        exact put1 (fun κ hk => by simp only [evX, hev, h1, h2, h5]; exact lkI h3 hk) h4
      · exact h.elim
    · exact h.elim
  | stz ag n a x ne =>
    simp only [evP, getR_eq] at h
    split at h
    · rename_i i off v h1 h2
      split at h
      · rename_i cs h3
        split at h
        · rename_i h4
          unfold evO
          simp only [evX, hev, h1, h2, h3]
          rw [if_pos (neLP_ok h4)]
          refine cellsP_ok h fun vs hc => ?_
          obtain ⟨q1, q2⟩ := oneP_ok hc
          refine ⟨q1, ?_⟩
          split at q2
          · rename_i d1 d2
            rw [if_pos ⟨of_decide_eq_true d1, of_decide_eq_true d2⟩]
            rw [spliceK_iff, setK_iff] at q2
            cases d <;> exact q2
          · exact q2.elim
        · exact h.elim
      · exact h.elim
    · rename_i i sz m j v h1 h2
      split at h
      · rename_i el sz' es h3
        split at h
        · rename_i z h4
          split at h
          · rename_i v' h5
            split at h
            · rename_i d1 d2 d3
              unfold evO
              simp only [evX, hev, h1, h2, h3, h4, h5]
              rw [if_pos ⟨neLP_ok d1, d2, of_decide_eq_true d3⟩]
              refine cellsP_ok h fun vs hc => ?_
              obtain ⟨q1, q2⟩ := oneP_ok hc
              refine ⟨q1, ?_⟩
              split at q2
              · rename_i d4
                rw [if_pos (of_decide_eq_true d4)]
                obtain ⟨r1, r2, r3⟩ := q2
                refine ⟨r1, r2, ?_⟩
                split at r3
                · rename_i d5
                  simp only [if_pos (of_decide_eq_true d5)]
                  rw [spliceK_iff, setLK_iff, setK_iff] at r3
                  refine hbig _ _ ?_
                  rw [setL_append]
                  exact r3
                · exact r3.elim
              · exact q2.elim
            · exact h.elim
          · exact h.elim
        · exact h.elim
      · exact h.elim
    · exact h.elim
  | mlen x =>
    simp only [evP, getR_eq] at h
    split at h
    · rename_i h1; exact put1 (fun κ hk => by simp only [evX, hev, h1]; exact hk) h
    · rename_i h1
      split at h
      · rename_i h2; exact put1 (fun κ hk => by simp only [evX, hev, h1, h2]; exact hk) h
      · exact h.elim
    · exact h.elim

def evsP.skip (d : Option Nat) (tm : Tm) (k : Tm → Prop) : Prop := match d with
  | some d => k ((d, .tup []) :: tm)
  | none => k tm
abbrev KP := Tm → List Res → Gh → Prop
/-- one operation with its guard, and what follows -/
def evsS (E : Env) (o : IOp) (ih : Tm → List Res → Gh → KP → Prop) (tm : Tm) (sg : List Res) (gh : Gh) (k : KP) : Prop :=
  match o.g with
    | none => evP E o.d o.o tm sg gh fun tm sg gh => ih tm sg gh k
    | some (j, want) => match look tm j with
      | some (.bool b) => BrB b
        (match want with
          | true => evP E o.d o.o ((j, .bool true) :: tm) sg gh fun tm sg gh => ih tm sg gh k
          | false => evsP.skip o.d ((j, .bool true) :: tm) fun tm => ih tm sg gh k)
        (match want with
          | false => evP E o.d o.o ((j, .bool false) :: tm) sg gh fun tm sg gh => ih tm sg gh k
          | true => evsP.skip o.d ((j, .bool false) :: tm) fun tm => ih tm sg gh k)
      | some (.tup []) => evsP.skip o.d tm fun tm => ih tm sg gh k
      | _ => False
def evsP (E : Env) (ps : List IOp) : Tm → List Res → Gh → KP → Prop :=
  @List.rec IOp (fun _ => Tm → List Res → Gh → KP → Prop) (fun tm sg gh k => k tm sg gh) (fun o _ ih => evsS E o ih) ps
theorem evsP_cons {E : Env} {o : IOp} {os : List IOp} {tm : Tm} {sg : List Res} {gh : Gh} {k : KP} : evsP E (o :: os) tm sg gh k = evsS E o (evsP E os) tm sg gh k := rfl

theorem evsP_ok {E : Env} : ∀ {ps : List IOp} {tm : Tm} {sg : List Res} {gh : Gh} {k : Tm → List Res → Gh → Prop}, evsP E ps tm sg gh k → evs E ps ⟨tm, sg, gh⟩ fun s => k s.tm s.sg s.gh
  | [], tm, sg, gh, k, h => h
  | o :: os, tm, sg, gh, k, h => by
    have ih : ∀ s : St, evsP E os s.tm s.sg s.gh k → evs E os s fun s => k s.tm s.sg s.gh := fun s hs => evsP_ok hs
    have hop : ∀ tm', evP E o.d o.o tm' sg gh (fun tm sg gh => evsP E os tm sg gh k) → evO E o.d o.o ⟨tm', sg, gh⟩ fun s => evs E os s fun s => k s.tm s.sg s.gh := fun tm' h' => evX_mono (evP_ok h') fun e he => ih _ he
    have hsk : ∀ tm', evsP.skip o.d tm' (fun tm => evsP E os tm sg gh k) → evs E os (St.put ⟨tm', sg, gh⟩ o.d (.tup [])) fun s => k s.tm s.sg s.gh := fun tm' h' => by
      unfold evsP.skip at h'
      cases hd : o.d with
      | none => rw [hd] at h'; exact ih ⟨tm', sg, gh⟩ h'
      | some d => rw [hd] at h'; exact ih ⟨(d, .tup []) :: tm', sg, gh⟩ h'
    rw [evsP_cons] at h
    simp only [evsS] at h
    rw [evs_cons]
    unfold evG
    cases hg : o.g with
    | none => rw [hg] at h; exact hop tm h
    | some jw =>
      obtain ⟨j, want⟩ := jw
      rw [hg] at h
      simp only at h ⊢
      split at h
      · rename_i b hl
        try simp only [hl]
        cases want
        · exact ⟨fun e => hsk _ (h.1 e), fun e => hop _ (h.2 e)⟩
        · exact ⟨fun e => hop _ (h.1 e), fun e => hsk _ (h.2 e)⟩
      · rename_i hl
        try simp only [hl]
        exact hsk _ h
      · exact h.elim

abbrev GP := (Ex → KP) → KP
def goS (ga gb : GP) : GP := fun T tm sg gh => ga (fun e tm sg gh => match e with
    | .normal => gb T tm sg gh
    | .ret => T .ret tm sg gh
    | .exit i => T (.exit i) tm sg gh) tm sg gh
def goC (c : Opd) (ga gb : GP) : GP := fun T tm sg gh => match c with
    | .t j => match look tm j with
      | some (.bool b') => BrB b' (ga T ((j, .bool true) :: tm) sg gh) (gb T ((j, .bool false) :: tm) sg gh)
      | _ => False
    | .c (.bool b') => BrB b' (ga T tm sg gh) (gb T tm sg gh)
    | _ => False
def goK (id : Nat) (gb : GP) : GP := fun T tm sg gh => gb (fun e tm sg gh => match e with
    | .normal => T .normal tm sg gh
    | .ret => T .ret tm sg gh
    | .exit i => match decide (i = id) with
      | true => T .normal tm sg gh
      | false => T (.exit i) tm sg gh) tm sg gh
def goP (E : Env) (c : CI) : GP :=
  @CI.rec (fun _ => GP) (fun T tm sg gh => T .normal tm sg gh) (fun ps T tm sg gh => evsP E ps tm sg gh (T .normal)) (fun _ _ ga gb => goS ga gb) (fun c _ _ ga gb => goC c ga gb) (fun id _ gb => goK id gb)
    (fun b _ T tm sg gh => LoopQ E b (fun e s => T e s.tm s.sg s.gh) ⟨tm, sg, gh⟩) (fun id T tm sg gh => T (.exit id) tm sg gh) (fun T tm sg gh => T .ret tm sg gh) (fun f ps x y _ _ T tm sg gh => RngQ E f ps x y (fun e s => T e s.tm s.sg s.gh) ⟨tm, sg, gh⟩) c

theorem goP_ok {E : Env} : ∀ {c : CI} {T : Ex → Tm → List Res → Gh → Prop} {tm : Tm} {sg : List Res} {gh : Gh}, goP E c T tm sg gh → GoC E c (fun e s => T e s.tm s.sg s.gh) ⟨tm, sg, gh⟩
  | .skip, T, tm, sg, gh, h => go_skip h
  | .reg ps, T, tm, sg, gh, h => go_reg (evsP_ok h)
  | .seq a b, T, tm, sg, gh, h => go_seq ((goP_ok (c := a) h).mono fun e s hs => by
      cases e with
      | normal => exact goP_ok (c := b) hs
      | ret => exact hs
      | exit i => exact hs)
  | .cond c a b, T, tm, sg, gh, h => go_cond (by
      have h : goC _ (goP E a) (goP E b) T tm sg gh := h
      simp only [goC] at h
      split at h
      · rename_i j
        simp only [condE]
        split at h
        · rename_i b' hl
          try simp only [hl]
          exact ⟨fun e => goP_ok (c := a) (h.1 e), fun e => goP_ok (c := b) (h.2 e)⟩
        · exact h.elim
      · exact ⟨fun e => goP_ok (c := a) (h.1 e), fun e => goP_ok (c := b) (h.2 e)⟩
      · exact h.elim)
  | .block id b, T, tm, sg, gh, h => go_block ((goP_ok (c := b) h).mono fun e s hs => by
      cases e with
      | normal => exact hs
      | ret => exact hs
      | exit i =>
        simp only [blkT]
        split
        · rename_i e; simp only [e, decide_true] at hs; exact hs
        · rename_i e; simp only [e, decide_false] at hs; exact hs)
  | .loop b, T, tm, sg, gh, h => LoopQ.out h
  | .exit id, T, tm, sg, gh, h => go_exit h
  | .ret, T, tm, sg, gh, h => go_ret h
  | .rng f ps x y, T, tm, sg, gh, h => RngQ.out h

def resVK (tm : Tm) (sg : List Res) (r : RIO) (k : AV → Prop) : Prop :=
  match r with
  | .t i => match look tm i with
    | some v => k v
    | none => False
  | .cell a ag n => match look tm a with
    | some (.own i off) => match getR sg i with
      | .box _ cs => ldK ag n (dropA off cs) k
      | _ => False
    | _ => False
def resLK (tm : Tm) (sg : List Res) : List RIO → (List AV → Prop) → Prop
  | [], k => k []
  | r :: rs, k => resVK tm sg r fun v => resLK tm sg rs fun l => k (v :: l)

/-- the end of a function -/
def retP (rs : List RIO) (R : AV → Prop) (tm : Tm) (sg : List Res) : Prop :=
  resLK tm sg rs fun vs => match AV.frzL sg 8 vs with
    | some l => match l with
      | [v] => R v
      | l => R (.tup l)
    | none => False

theorem resVK_ok {tm : Tm} {sg : List Res} {gh : Gh} {r : RIO} {k : AV → Prop} (h : resVK tm sg r k) : ∃ v, resV ⟨tm, sg, gh⟩ r = some v ∧ k v := by
  cases r with
  | t i =>
    simp only [resVK] at h
    split at h
    · rename_i v hv; exact ⟨v, hv, h⟩
    · exact h.elim
  | cell a ag n =>
    simp only [resVK, getR_eq, dropA_eq] at h
    split at h
    · rename_i h1
      split at h
      · rename_i h2
        obtain ⟨v, h3, h4⟩ := ldK_ok h
        exact ⟨v, by simp only [resV, h1, h2, h3], h4⟩
      · exact h.elim
    · exact h.elim
theorem resLK_ok {tm : Tm} {sg : List Res} {gh : Gh} : ∀ {rs : List RIO} {k : List AV → Prop}, resLK tm sg rs k → ∃ vs, resL ⟨tm, sg, gh⟩ rs = some vs ∧ k vs
  | [], k, h => ⟨[], rfl, h⟩
  | r :: rs, k, h => by
    obtain ⟨v, h1, h2⟩ := resVK_ok (gh := gh) h
    obtain ⟨vs, h3, h4⟩ := resLK_ok (gh := gh) h2
    exact ⟨v :: vs, by simp only [resL, h1, h3], h4⟩

def finP (rs : List RIO) (R : AV → Prop) (e : Ex) (tm : Tm) (sg : List Res) (gh : Gh) : Prop :=
  match e with
  | .exit _ => False
  | .normal => retP rs R tm sg
  | .ret => retP rs R tm sg

theorem retP_ok {rs : List RIO} {R : AV → Prop} {tm : Tm} {sg : List Res} {gh : Gh} (h : retP rs R tm sg) : retK rs R ⟨tm, sg, gh⟩ := by
  obtain ⟨vs, h1, h2⟩ := resLK_ok (gh := gh) h
  unfold retK
  rw [h1]
  simp only
  split at h2
  · rename_i l h3
    rw [h3]
    split at h2
    · exact h2
    · rename_i hne
      match l, hne with
      | [v], hne => exact absurd rfl (hne v)
      | [], _ => exact h2
      | _ :: _ :: _, _ => exact h2
  · exact h2.elim

theorem finP_ok {rs : List RIO} {R : AV → Prop} {e : Ex} {s : St} (h : finP rs R e s.tm s.sg s.gh) : finT rs R e s := by
  cases e with
  | exit i => exact h.elim
  | normal => exact retP_ok h
  | ret => exact retP_ok h

def freshL : Nat → List Res
  | 0 => []
  | n + 1 => .fresh :: freshL n
theorem freshL_eq : ∀ n, freshL n = List.replicate n .fresh
  | 0 => rfl
  | n + 1 => by simp [freshL, freshL_eq n, List.replicate_succ]

/-- **A FUNCTION's CONTRACT, BY THE WALK OF ITS BODY.** -/
theorem fnA {P : Program} {f : FuncId} {N M : Nat} {ci : CI} {rs : List RIO} {args : List AV} {R : AV → Prop} (m : Nat) (hok : FnOk P f N M ci rs) (hN : args.length ≤ N) (h : goP ⟨P, N, []⟩ ci (finP rs R) (argsTm 0 args) (freshL m) ⟨[], 0, false⟩) : FnA P f args R := by
  refine fnA_of_go hok m hN ?_
  rw [freshL_eq] at h
  exact (goP_ok h).mono fun e s hs => finP_ok hs

/-- **A LOOP**, by what the state is at its head. -/
theorem loop_i {E : Env} {T : Ex → St → Prop} {tm0 : Tm} {sg0 : List Res} {gh : Gh} {b : CI} {α : Type} (tm : α → Tm) (sg : α → List Res) (inv : α → Prop) (μ : α → Nat) (x0 : α) (hw : MeetsE ⟨tm0, sg0, gh⟩ ⟨tm x0, sg x0, gh⟩) (h0 : inv x0)
    (hr : ∀ x, inv x → goP E b (fun e tm' sg' gh' => match e with
      | .normal => ∃ y, MeetsE ⟨tm', sg', gh'⟩ ⟨tm y, sg y, gh⟩ ∧ inv y ∧ μ y < μ x
      | .ret => T .ret ⟨tm', sg', gh'⟩
      | .exit i => T (.exit i) ⟨tm', sg', gh'⟩) (tm x) (sg x) gh) : LoopQ E b T ⟨tm0, sg0, gh⟩ := by
  refine LoopQ.mk (go_loop_m (fun x => ⟨tm x, sg x, gh⟩) inv μ x0 h0 hw fun x hx => (goP_ok (hr x hx)).mono fun e s' hs => ?_)
  cases e with
  | normal => exact hs
  | _ => exact hs

/-- **A LOOP**, in an iterator: how many values have been yielded is told, too. -/
theorem loop_y {E : Env} {T : Ex → St → Prop} {tm0 : Tm} {sg0 : List Res} {gh0 : Gh} {b : CI} {α : Type} (tm : α → Tm) (sg : α → List Res) (gh : α → Gh) (inv : α → Prop) (μ : α → Nat) (x0 : α) (hw : MeetsE ⟨tm0, sg0, gh0⟩ ⟨tm x0, sg x0, gh x0⟩) (h0 : inv x0)
    (hr : ∀ x, inv x → goP E b (fun e tm' sg' gh' => match e with
      | .normal => ∃ y, MeetsE ⟨tm', sg', gh'⟩ ⟨tm y, sg y, gh y⟩ ∧ inv y ∧ μ y < μ x
      | .ret => T .ret ⟨tm', sg', gh'⟩
      | .exit i => T (.exit i) ⟨tm', sg', gh'⟩) (tm x) (sg x) (gh x)) : LoopQ E b T ⟨tm0, sg0, gh0⟩ := by
  refine LoopQ.mk (go_loop_m (fun x => ⟨tm x, sg x, gh x⟩) inv μ x0 h0 hw fun x hx => (goP_ok (hr x hx)).mono fun e s' hs => ?_)
  cases e with
  | normal => exact hs
  | _ => exact hs

/-- **A LOOP OVER A FUNCTION**, by what the names are at its head. -/
theorem rng_i {E : Env} {T : Ex → St → Prop} {tm0 : Tm} {sg0 : List Res} {gh : Gh} {pf : Opd} {ps : List Nat} {x y : CI} {f : FuncId} {cap cap' : List AV} {α : Type} (ys : List (List AV)) (p : List Nat) (tm1 : Tm) (sg : α → List Res) (inv : Nat → α → Prop) (x0 : α)
    (hf : ev tm0 pf = some (.fn f cap)) (hpu : AV.puL cap = true) (hfz : AV.frzL sg0 8 cap = some cap') (hb : bodied E.P f = true) (hit : ItA E.P f cap' ys) (hp : subN gh.p p = true)
    (hm : MeetsE ⟨tm0, sg0, gh⟩ ⟨tm1, sg x0, gh⟩) (hlt : refsLt p tm1 = true) (h0 : inv 0 x0) (hl : ∀ v ∈ ys, ps.length = v.length)
    (hr : ∀ k v z, ys[k]? = some v → inv k z → goP E x (fun e tm' sg' gh' => match e with
      | .normal => goP E y (fun e tm' sg' gh' => match e with
        | .normal => ∃ u, MeetsE ⟨tm', sg', gh'⟩ ⟨[], sg u, ⟨p, gh.k, gh.st⟩⟩ ∧ inv (k + 1) u
        | .ret => ∃ sg'', MeetsE ⟨tm', sg', gh'⟩ ⟨[], sg'', ⟨p, gh.k, gh.st⟩⟩ ∧ T .ret ⟨tm1, sg'', gh⟩
        | .exit i => ∃ sg'', MeetsE ⟨tm', sg', gh'⟩ ⟨[], sg'', ⟨p, gh.k, gh.st⟩⟩ ∧ T (.exit i) ⟨tm1, sg'', gh⟩) tm' sg' gh'
      | .ret => False
      | .exit _ => False) (bindT tm1 ps v) (sg z) ⟨p, gh.k, gh.st⟩)
    (hend : ∀ z, inv ys.length z → T .normal ⟨tm1, sg z, gh⟩) : RngQ E pf ps x y T ⟨tm0, sg0, gh⟩ := by
  have hev : (St.mk tm0 sg0 gh).ev pf = some (.fn f cap) := by cases pf <;> exact hf
  refine RngQ.mk (go_rng (f := f) (cap := cap) ys hev hpu hfz hb hit p hp tm1 (sg x0) hm.r hlt (fun k s gk gst => gk = gh.k ∧ gst = gh.st ∧ ∃ z, s = sg z ∧ inv k z) (fun e s gk gst => gk = gh.k ∧ gst = gh.st ∧ T e ⟨tm1, s, gh⟩) ⟨rfl, rfl, x0, rfl, h0⟩ ?_ ?_ ?_)
  · rintro k v s gk gst hv ⟨rfl, rfl, z, rfl, hz⟩
    refine ⟨hl v (List.mem_of_getElem? hv), (goP_ok (hr k v z hv hz)).mono fun e s' hs => ?_⟩
    cases e with
    | normal =>
      refine (goP_ok (c := y) hs).mono fun e s'' hs' => ?_
      cases e with
      | normal => obtain ⟨u, h1, h2⟩ := hs'; exact ⟨_, _, _, h1, rfl, rfl, u, rfl, h2⟩
      | ret => obtain ⟨s2, h1, h2⟩ := hs'; exact ⟨_, _, _, h1, rfl, rfl, h2⟩
      | exit i => obtain ⟨s2, h1, h2⟩ := hs'; exact ⟨_, _, _, h1, rfl, rfl, h2⟩
    | ret => exact hs.elim
    | exit i => exact hs.elim
  · rintro s gk gst ⟨rfl, rfl, z, rfl, hz⟩; exact hend z hz
  · rintro e s gk gst _ ⟨rfl, rfl, ht⟩; exact ht

def finIP (ys : List (List AV)) (e : Ex) (tm : Tm) (sg : List Res) (gh : Gh) : Prop :=
  match e with
  | .exit _ => False
  | .normal => gh.st = true ∨ gh.k = ys.length
  | .ret => gh.st = true ∨ gh.k = ys.length
/-- **AN ITERATOR's CONTRACT, BY THE WALK OF ITS BODY.** -/
theorem itA {P : Program} {f : FuncId} {N M : Nat} {ci : CI} {cap : List AV} {ys : List (List AV)} (m : Nat) (hok : FnOk P f N M ci []) (hN : cap.length + 1 ≤ N) (h : goP ⟨P, N, ys⟩ ci (finIP ys) (argsTm 0 (.yld :: cap)) (freshL m) ⟨[], 0, false⟩) : ItA P f cap ys := by
  refine itA_of_go hok m hN ?_
  rw [freshL_eq] at h
  exact (goP_ok h).mono fun e s hs => by cases e <;> exact hs

theorem apE_i {sz bytes : Nat} {xs ys : List (List AV)} {K : Prop} (h1 : ∀ e ∈ ys, e.length = sz ∧ e.all AV.one = true) (h2 : (xs.length + ys.length) * bytes ≤ 140737488355328) (hk : K) : apE sz bytes xs ys K := ⟨h1, h2, hk⟩
theorem slE_i {sz : Nat} {es : List (List AV)} {lo hi : Int} {K : List (List AV) → Prop} (h0 : 0 ≤ lo) (h1 : lo ≤ hi) (h2 : hi ≤ es.length) (h3 : ∀ e ∈ es, e.length = sz) (hk : K ((es.take hi.toNat).drop lo.toNat)) : slE sz es lo hi K := ⟨h0, h1, h2, h3, hk⟩

-- attribute [irreducible] brB need wrE iaE slE apE CallZ CallE VCallE YldE GoC LoopE RngE MeetsE FnA FnV ItA


theorem fnV_of {P : Program} {f : FuncId} {cap args : List AV} {R : AV → Prop} (hb : bodied P f = true) (h : FnA P f (args ++ cap) R) : FnV P (.fn f cap) args R := by
  unfold FnV
  intro imm w gv vs himm hg hv
  simp only [RV0] at hg
  obtain ⟨us, rfl, hu⟩ := hg
  refine ⟨f, us.toArray, rfl, hb, ?_⟩
  have := h
  unfold FnA at this
  have h2 := this imm w (vs ++ us) himm (RV0s.append hv hu)
  simpa using h2

theorem FnV.vcall {P : Program} {sg : List Res} {g g' : AV} {args args' : List AV} {R k : AV → Prop} (h : FnV P g' args' R) (h0 : AV.pu g = true) (h1 : AV.puL args = true) (h2 : AV.frz sg 8 g = some g') (h3 : AV.frzL sg 8 args = some args') (hk : ∀ r, R r → k r) : VCallE P sg g args k := .inl ⟨g', args', R, h0, h1, h2, h3, h, hk⟩
theorem FnV.vlend {P : Program} {sg : List Res} {g g' : AV} {args args' : List AV} {R k : AV → Prop} (h : FnV P g' args' R) (h2 : AV.frz sg 8 g = some g') (h3 : AV.frzL sg 8 args = some args') (hk : ∀ r, R r → r.flat = true ∧ k r) : VCallE P sg g args k := .inr ⟨g', args', R, h2, h3, h, hk⟩

/-! ### The walk, run. By recursors, in small pieces: so the kernel runs it quickly. -/
noncomputable def lookR (tm : Tm) (d : Nat) : Option AV :=
  @List.rec (Nat × AV) (fun _ => Option AV) none (fun p _ ih => @Bool.rec (fun _ => Option AV) ih (some p.2) (Nat.beq p.1 d)) tm
theorem lookR_eq : ∀ (tm : Tm) (d : Nat), lookR tm d = look tm d
  | [], d => rfl
  | (i, v) :: r, d => by
    have ih := lookR_eq r d
    show @Bool.rec (fun _ => Option AV) (lookR r d) (some v) (Nat.beq i d) = _
    simp only [look]
    by_cases h : i = d
    · have : Nat.beq i d = true := by rw [Nat.beq_eq]; exact h
      rw [this, if_pos h]
    · have : Nat.beq i d = false := by
        cases hb : Nat.beq i d with
        | false => rfl
        | true => rw [Nat.beq_eq] at hb; exact absurd hb h
      rw [this, if_neg h]; exact ih
noncomputable def evR (s : St) (p : Opd) : Option AV := @Opd.rec (fun _ => Option AV) (fun i => lookR s.tm i) (fun v => some v) p
theorem evR_eq (s : St) (p : Opd) : evR s p = s.ev p := by
  cases p with
  | t i => exact lookR_eq s.tm i
  | c v => rfl
noncomputable def evlStep (v : Option AV) (r : Option (List AV)) : Option (List AV) := @Option.rec AV (fun _ => Option (List AV)) none (fun v => @Option.rec (List AV) (fun _ => Option (List AV)) none (fun l => some (v :: l)) r) v
noncomputable def evlR (s : St) (ps : List Opd) : Option (List AV) := @List.rec Opd (fun _ => Option (List AV)) (some []) (fun p _ ih => evlStep (evR s p) ih) ps
theorem evlR_eq (s : St) : ∀ ps, evlR s ps = s.evl ps
  | [] => rfl
  | p :: ps => by
    have ih := evlR_eq s ps
    show evlStep (evR s p) (evlR s ps) = _
    rw [evR_eq, ih]
    simp only [St.evl]
    cases s.ev p with
    | none => rfl
    | some v => cases s.evl ps <;> rfl
noncomputable def sgR (l : List Res) (i : Nat) : Res := @List.rec Res (fun _ => Nat → Res) (fun _ => .dead) (fun r _ ih i => @Nat.rec (fun _ => Res) r (fun n _ => ih n) i) l i
theorem sgR_eq : ∀ (l : List Res) (i : Nat), sgR l i = l.getD i .dead
  | [], i => by simp [sgR]
  | r :: l, 0 => rfl
  | r :: l, i + 1 => by
    have := sgR_eq l i
    simp only [List.getD_cons_succ]
    exact this

noncomputable def updStep (i : Nat) (u : AV) (r : Tm) (ih : Nat → AV → (Tm → Option AV) → Option AV) (d : Nat) (v : AV) (k : Tm → Option AV) : Option AV :=
  @Bool.rec (fun _ => Option AV) (@Bool.rec (fun _ => Option AV) (ih d v fun r' => k ((i, u) :: r')) (k ((d, v) :: (i, u) :: r)) (Nat.ble (d + 1) i)) (k ((d, v) :: r)) (Nat.beq i d)
noncomputable def updO (tm : Tm) (d : Nat) (v : AV) (k : Tm → Option AV) : Option AV :=
  @List.rec (Nat × AV) (fun _ => Nat → AV → (Tm → Option AV) → Option AV) (fun d v k => k [(d, v)]) (fun p r ih => updStep p.1 p.2 r ih) tm d v k
def upd' : Tm → Nat → AV → Tm
  | [], d, v => [(d, v)]
  | (i, u) :: r, d, v => if i = d then (d, v) :: r else if d < i then (d, v) :: (i, u) :: r else (i, u) :: upd' r d v
theorem updO_eq : ∀ (tm : Tm) (d : Nat) (v : AV) (k : Tm → Option AV), updO tm d v k = k (upd' tm d v)
  | [], d, v, k => rfl
  | (i, u) :: r, d, v, k => by
    have ih := updO_eq r d v (fun r' => k ((i, u) :: r'))
    show updStep i u r (updO r) d v k = _
    simp only [updStep, upd']
    by_cases h : i = d
    · have : Nat.beq i d = true := by rw [Nat.beq_eq]; exact h
      rw [this, if_pos h]
    · have hb : Nat.beq i d = false := by
        cases hb : Nat.beq i d with
        | false => rfl
        | true => rw [Nat.beq_eq] at hb; exact absurd hb h
      rw [hb, if_neg h]
      by_cases h2 : d < i
      · have : Nat.ble (d + 1) i = true := (by rw [Nat.ble_eq]; exact h2)
        rw [this, if_pos h2]
      · have : Nat.ble (d + 1) i = false := by
          cases hb : Nat.ble (d + 1) i with
          | false => rfl
          | true => rw [Nat.ble_eq] at hb; exact absurd hb h2
        rw [this, if_neg h2]; exact ih
theorem look_upd' : ∀ (tm : Tm) (d : Nat) (v : AV) (j : Nat), look (upd' tm d v) j = look ((d, v) :: tm) j
  | [], d, v, j => rfl
  | (i, u) :: r, d, v, j => by
    simp only [upd']
    split
    · rename_i h; subst h; simp only [look]; split <;> rfl
    · rename_i h
      split
      · rfl
      · have := look_upd' r d v j
        simp only [look] at this ⊢
        rw [this]
        by_cases h1 : i = j
        · by_cases h2 : d = j
          · omega
          · simp [h1, h2]
        · simp [h1]

noncomputable def setO (l : List Res) (n : Nat) (r : Res) (k : List Res → Option AV) : Option AV :=
  @List.rec Res (fun _ => Nat → (List Res → Option AV) → Option AV) (fun _ k => k []) (fun x xs ih n k => @Nat.rec (fun _ => Option AV) (k (r :: xs)) (fun m _ => ih m fun l => k (x :: l)) n) l n k
theorem setO_eq : ∀ (l : List Res) (n : Nat) (r : Res) (k : List Res → Option AV), setO l n r k = k (l.set n r)
  | [], _, _, _ => rfl
  | _ :: _, 0, _, _ => rfl
  | x :: xs, n + 1, r, k => setO_eq xs n r _
noncomputable def setLO : List Res → List (Nat × Res) → (List Res → Option AV) → Option AV
  | sg, [], k => k sg
  | sg, (i, r) :: l, k => setO sg i r fun sg' => setLO sg' l k
theorem setLO_eq : ∀ (l : List (Nat × Res)) (sg : List Res) (k : List Res → Option AV), setLO sg l k = k (setL sg l)
  | [], _, _ => rfl
  | (i, r) :: l, sg, k => by simp only [setLO, setL, setO_eq]; exact setLO_eq l _ k

/-- a number is worked out -/
def frcN (m : Nat) (k : Nat → Option AV) : Option AV := match m with
  | 0 => k 0
  | n + 1 => k (n + 1)
theorem frcN_eq (m : Nat) (k : Nat → Option AV) : frcN m k = k m := by cases m <;> rfl
def frcI (z : Int) (k : Int → Option AV) : Option AV := match z with
  | .ofNat m => frcN m fun m => k (.ofNat m)
  | .negSucc m => frcN m fun m => k (.negSucc m)
theorem frcI_eq (z : Int) (k : Int → Option AV) : frcI z k = k z := by cases z <;> simp [frcI, frcN_eq]
def frcV (v : AV) (k : AV → Option AV) : Option AV := match v with
  | .int kd n => frcI n fun n => k (.int kd n)
  | .bool b => match b with
    | true => k (.bool true)
    | false => k (.bool false)
  | v => k v
theorem frcV_eq (v : AV) (k : AV → Option AV) : frcV v k = k v := by
  cases v <;> simp only [frcV, frcI_eq]
  rename_i b; cases b <;> rfl

noncomputable def putO (d : Option Nat) (tm : Tm) (v : AV) (k : Tm → Option AV) : Option AV := match d with
  | some d => frcV v fun v => updO tm d v k
  | none => k tm

/-- what an operation comes to is done -/
noncomputable def appK (d : Option Nat) (s : St) (e : Eff) (k : St → Option AV) : Option AV :=
  match s with
  | ⟨tm, sg, gh⟩ => match e with
    | .val v => putO d tm v fun tm => k ⟨tm, sg, gh⟩
    | .new nm r v => setO sg nm r fun sg => putO d tm v fun tm => k ⟨tm, sg, gh⟩
    | .set i r => setO sg i r fun sg => k ⟨tm, sg, gh⟩
    | .big l v => setLO sg l fun sg => putO d tm v fun tm => k ⟨tm, sg, gh⟩
    | .yl g v => putO d tm v fun tm => k ⟨tm, sg, g⟩
theorem putO_eqv {d : Option Nat} {tm : Tm} {v : AV} {k : Tm → Option AV} : ∃ tm', putO d tm v k = k tm' ∧ ∀ (sg : List Res) (gh : Gh), Eqv ⟨tm', sg, gh⟩ (St.put ⟨tm, sg, gh⟩ d v) := by
  cases d with
  | none => exact ⟨tm, rfl, fun sg gh => Eqv.refl _⟩
  | some d => exact ⟨upd' tm d v, by simp only [putO, frcV_eq, updO_eq], fun sg gh => ⟨fun j => look_upd' tm d v j, rfl, rfl⟩⟩
theorem appK_eqv (d : Option Nat) (s : St) (e : Eff) (k : St → Option AV) : ∃ s', appK d s e k = k s' ∧ Eqv s' (app d s e) := by
  obtain ⟨tm, sg, gh⟩ := s
  cases e with
  | val v =>
    obtain ⟨tm', h1, h2⟩ := putO_eqv (d := d) (tm := tm) (v := v) (k := fun tm => k ⟨tm, sg, gh⟩)
    exact ⟨_, h1, h2 sg gh⟩
  | new nm r v =>
    obtain ⟨tm', h1, h2⟩ := putO_eqv (d := d) (tm := tm) (v := v) (k := fun tm => k ⟨tm, sg.set nm r, gh⟩)
    exact ⟨_, by simp only [appK, setO_eq]; exact h1, h2 (sg.set nm r) gh⟩
  | set i r => exact ⟨_, by simp only [appK, setO_eq]; rfl, Eqv.refl _⟩
  | big l v =>
    obtain ⟨tm', h1, h2⟩ := putO_eqv (d := d) (tm := tm) (v := v) (k := fun tm => k ⟨tm, setL sg l, gh⟩)
    exact ⟨_, by simp only [appK, setLO_eq]; exact h1, h2 (setL sg l) gh⟩
  | yl g v =>
    obtain ⟨tm', h1, h2⟩ := putO_eqv (d := d) (tm := tm) (v := v) (k := fun tm => k ⟨tm, sg, g⟩)
    exact ⟨_, h1, h2 sg g⟩

def cellsX (ag : Bool) (v : AV) : Option (List AV) :=
  match ag with
  | true => match v with
    | .agg cs => some cs
    | _ => none
  | false => match v.one with
    | true => some [v]
    | false => none
theorem cellsX_ok {ag : Bool} {v : AV} {cs : List AV} {K : List AV → Prop} (h : cellsX ag v = some cs) (hk : K cs) : cellsK ag v K := by
  cases ag with
  | true =>
    simp only [cellsX] at h
    split at h
    · cases h; exact hk
    · cases h
  | false =>
    simp only [cellsX] at h
    split at h
    · rename_i h1; cases h; exact ⟨h1, hk⟩
    · cases h

def binX (op : BinOp) (k : IntKind) (a b : Int) : Option AV :=
  match op with
  | .add => some (.int k (k.wrap (a + b)))
  | .sub => some (.int k (k.wrap (a - b)))
  | .mul => some (.int k (k.wrap (a * b)))
  | .quo => if b ≠ 0 then some (.int k (k.wrap (a.tdiv b))) else none
  | .rem => if b ≠ 0 then some (.int k (a.tmod b)) else none
  | .eql => some (.bool (a == b))
  | .neq => some (.bool (a != b))
  | .lss => some (.bool (decide (a < b)))
  | .leq => some (.bool (decide (a ≤ b)))
  | .gtr => some (.bool (decide (b < a)))
  | .geq => some (.bool (decide (b ≤ a)))
  | .and => some (.int k (bitI .and k a b))
  | .or => some (.int k (bitI .or k a b))
  | .xor => some (.int k (bitI .xor k a b))
  | .andNot => some (.int k (bitI .andNot k a b))
  | .shl => if 0 ≤ b then some (.int k (k.wrap (a * 2 ^ min b.toNat k.bits))) else none
  | .shr => if 0 ≤ b then some (.int k (a.fdiv (2 ^ min b.toNat k.bits))) else none
theorem binX_ok {op : BinOp} {k : IntKind} {a b : Int} {v : AV} {K : AV → Prop} (h : binX op k a b = some v) (hk : K v) : evBin op k a b K := by
  cases op <;> simp only [binX] at h <;> simp only [evBin, wrE] <;> first
    | (cases h; exact hk)
    | (split at h
       · rename_i hb; cases h; exact ⟨hb, hk⟩
       · cases h)
    | cases h

def elX (es : List (List AV)) (i : Int) : Option (List AV) := if 0 ≤ i ∧ i < es.length then some (es.getD i.toNat []) else none
theorem elX_ok {es : List (List AV)} {i : Int} {cs : List AV} {K : List AV → Prop} (h : elX es i = some cs) (hk : K cs) : iaE es i K := by
  unfold elX at h
  split at h
  · rename_i h1; cases h; exact ⟨h1.1, h1.2, hk⟩
  · cases h

def slX (sz : Nat) (es : List (List AV)) (lo hi : Int) : Option (List (List AV)) :=
  if 0 ≤ lo ∧ lo ≤ hi ∧ hi ≤ es.length ∧ es.all (fun e => decide (e.length = sz)) = true then some ((es.take hi.toNat).drop lo.toNat) else none
theorem slX_ok {sz : Nat} {es es' : List (List AV)} {lo hi : Int} {K : List (List AV) → Prop} (h : slX sz es lo hi = some es') (hk : K es') : slE sz es lo hi K := by
  unfold slX at h
  split at h
  · rename_i h1; cases h
    exact ⟨h1.1, h1.2.1, h1.2.2.1, fun e he => by have := List.all_eq_true.1 h1.2.2.2 e he; simpa using this, hk⟩
  · cases h

noncomputable def ex_mv (s : St) (x : Opd) : Option Eff :=
  (evR s x).map .val

noncomputable def ex_pick (s : St) (c a b : Opd) : Option Eff :=
  match evR s c, evR s a, evR s b with
    | some (.bool c), some x, some y => match c with
      | true => some (.val x)
      | false => some (.val y)
    | _, _, _ => none

noncomputable def ex_alloc (s : St) (nm : Nat) (zs : List AV) : Option Eff :=
  match sgR s.sg nm with
    | .fresh => some (.new nm (.box false zs) (.own nm 0))
    | _ => none

noncomputable def ex_mks (s : St) (nm : Nat) (el : TypeId) (sz bytes : Nat) (zs : List AV) (x y : Opd) : Option Eff :=
  match sgR s.sg nm, evR s x, evR s y with
    | .fresh, some (.int _ n), some (.int _ m) => if 0 ≤ n ∧ n ≤ m ∧ (bytes : Int) * m ≤ 281474976710656 then some (.new nm (.row false el sz (List.replicate n.toNat zs)) (.row nm)) else none
    | _, _, _ => none

noncomputable def ex_box (s : St) (nm : Nat) (ag : Bool) (x : Opd) : Option Eff :=
  match evR s x, sgR s.sg nm with
    | some v, .fresh => match cellsX ag v with
      | some cs => some (.new nm (.box false cs) (.own nm 0))
      | none => none
    | _, _ => none

noncomputable def ex_build (s : St) (zs : List AV) (ps : List (Nat × Nat × Opd)) : Option Eff :=
  match evX.evBuild s zs ps with
    | some cs => some (.val (.agg cs))
    | none => none

noncomputable def ex_load (s : St) (ag : Bool) (n : Nat) (a : Opd) : Option Eff :=
  match evR s a with
    | some (.own i off) => match sgR s.sg i with
      | .box _ cs => (evX.ldC ag n (cs.drop off)).map .val
      | _ => none
    | some (.elt i sz m j) => match sgR s.sg i with
      | .row _ _ sz' es => if sz' = sz then match elX es m with
        | some cs => (evX.ldC ag n (cs.drop j)).map .val
        | none => none
        else none
      | _ => none
    | some (.ipt cs) => (evX.ldC ag n cs).map .val
    | _ => none

noncomputable def ex_store (s : St) (ag : Bool) (n : Nat) (a x : Opd) (ne : List Opd) : Option Eff :=
  match evR s a, evR s x with
    | some (.own i off), some v => match sgR s.sg i with
      | .box false cs => match cellsX ag v with
        | some vs => if vs.all AV.one = true ∧ vs.length = n ∧ off + n ≤ cs.length ∧ neOk s i ne = true then some (.set i (.box false (splice cs off vs))) else none
        | none => none
      | _ => none
    | some (.elt i sz m j), some v => match sgR s.sg i with
      | .row false el sz' es => match cellsX ag v with
        | some vs => if vs.all AV.one = true ∧ sz' = sz ∧ vs.length = n ∧ AV.puL vs = true ∧ neOk s i ne = true then
            match AV.frzL s.sg 8 vs, elX es m with
            | some vs', some cs => if j + n ≤ cs.length then some (.set i (.row false el sz (es.set m (splice cs j vs')))) else none
            | _, _ => none
          else none
        | none => none
      | _ => none
    | _, _ => none

noncomputable def ex_bin (s : St) (op : BinOp) (x y : Opd) : Option Eff :=
  match evR s x, evR s y with
    | some (.int k1 a), some (.int k2 b) => if (isSh op || decide (k1 = k2)) = true then (binX op k1 a b).map .val else none
    | _, _ => none

noncomputable def ex_eqb (s : St) (neg : Bool) (x y : Opd) : Option Eff :=
  match evR s x, evR s y with
    | some (.bool a), some (.bool b) => some (.val (.bool (if neg then a != b else a == b)))
    | _, _ => none

noncomputable def ex_eqs (s : St) (neg : Bool) (T : EqT) (x y : Opd) : Option Eff :=
  match evR s x, evR s y with
    | some (.agg as), some (.agg bs) => match eqV T as bs with
      | some r => some (.val (.bool (if neg then !r else r)))
      | none => none
    | _, _ => none

noncomputable def ex_un (s : St) (op : UnOp) (x : Opd) : Option Eff :=
  match op, evR s x with
    | .not, some (.bool b) => some (.val (.bool (!b)))
    | .neg, some (.int kd n) => some (.val (.int kd (kd.wrap (0 - n))))
    | _, _ => none

noncomputable def ex_conv (s : St) (kd : IntKind) (x : Opd) : Option Eff :=
  match evR s x with
    | some (.int _ n) => some (.val (.int kd (kd.wrap n)))
    | _ => none

noncomputable def ex_faddr (s : St) (off : Nat) (x : Opd) : Option Eff :=
  match evR s x with
    | some (.own i o) => some (.val (.own i (o + off)))
    | some (.elt i sz m j) => some (.val (.elt i sz m (j + off)))
    | some (.ipt cs) => some (.val (.ipt (cs.drop off)))
    | _ => none

noncomputable def ex_field (s : St) (ag : Bool) (n off : Nat) (x : Opd) : Option Eff :=
  match evR s x with
    | some (.agg cs) => (evX.ldC ag n (cs.drop off)).map .val
    | _ => none

noncomputable def ex_iaddr (s : St) (sz : Nat) (x i : Opd) : Option Eff :=
  match evR s x, evR s i with
    | some (.isl es), some (.int _ i) => match elX es i with
      | some cs => if cs.length = sz then some (.val (.ipt cs)) else none
      | none => none
    | some (.row j), some (.int _ i) => match sgR s.sg j with
      | .row _ _ sz' es => if sz' = sz ∧ 0 ≤ i ∧ i < es.length then some (.val (.elt j sz i.toNat 0)) else none
      | _ => none
    | _, _ => none

noncomputable def ex_mkfn (s : St) (f : FuncId) (caps : List Opd) : Option Eff :=
  match evlR s caps with
    | some vs => some (.val (.fn f vs))
    | none => none

noncomputable def ex_extract (s : St) (i : Nat) (x : Opd) : Option Eff :=
  match evR s x with
    | some (.tup vs) => vs[i]?.map .val
    | _ => none

noncomputable def ex_call (F : FuncId → List AV → Option AV) (s : St) (f : FuncId) (xs : List Opd) : Option Eff :=
  match evlR s xs with
    | some vs => match AV.frzL s.sg 8 vs with
      | some vs' => match F f vs' with
        | some r => if AV.puL vs = true ∨ r.flat = true then some (.val r) else none
        | none => none
      | none => none
    | none => none

noncomputable def ex_callv (F : FuncId → List AV → Option AV) (s : St) (g : Opd) (xs : List Opd) : Option Eff :=
  match evR s g, evlR s xs with
    | some g, some vs => match isYld g, AV.frz s.sg 8 g, AV.frzL s.sg 8 vs with
      | false, some (.fn f cap'), some vs' => match F f (vs' ++ cap') with
        | some r => if (AV.pu g = true ∧ AV.puL vs = true) ∨ r.flat = true then some (.val r) else none
        | none => none
      | _, _, _ => none
    | _, _ => none

noncomputable def ex_len (s : St) (x : Opd) : Option Eff :=
  match evR s x with
    | some (.isl es) => some (.val (.int .i64 es.length))
    | some .nils => some (.val (.int .i64 0))
    | some (.row i) => match sgR s.sg i with
      | .row _ _ _ es => some (.val (.int .i64 es.length))
      | _ => none
    | _ => none

noncomputable def ex_slen (s : St) (x : Opd) : Option Eff :=
  match evR s x with
    | some (.str b) => some (.val (.int .i64 b.length))
    | _ => none

noncomputable def ex_mm (s : St) (mx : Bool) (xs : List Opd) : Option Eff :=
  match evlR s xs with
    | some (.int kd n :: vs) => match mmV mx kd n vs with
      | some m => some (.val (.int kd m))
      | none => none
    | _ => none

noncomputable def ex_sli (s : St) (sz : Nat) (x : Opd) (lo hi : Option Opd) : Option Eff :=
  match evR s x, boV s lo with
    | some (.isl es), some lo => match hi with
      | none => (slX sz es lo es.length).map fun es' => .val (.isl es')
      | some hi => match boV s (some hi) with
        | some hi => (slX sz es lo hi).map fun es' => .val (.isl es')
        | none => none
    | _, _ => none

noncomputable def ex_bsl (s : St) (nm : Nat) (el : TypeId) (sz : Nat) (ps ne : List Opd) : Option Eff :=
  match sgR s.sg nm, evlR s ps with
    | .fresh, some vs => match rowsO s.sg sz vs, neOkL s vs ne with
      | some (es, z), true => some (.big (z ++ [(nm, .row false el sz es)]) (.row nm))
      | _, _ => none
    | _, _ => none

noncomputable def ex_apd (s : St) (nm : Nat) (el : TypeId) (sz bytes : Nat) (x y : Opd) (ne : List Opd) : Option Eff :=
  match sgR s.sg nm, evR s x, evR s y with
    | .fresh, some u, some v => match srcO s.sg el sz u, addO s.sg sz v with
      | some (es, z), some es' => if apartV v u = true ∧ neOkL s [u, v] ne = true ∧ es'.all (fun e => decide (e.length = sz) && e.all AV.one) = true ∧ (es.length + es'.length) * bytes ≤ 140737488355328 then some (.big (z ++ [(nm, .row false el sz (es ++ es'))]) (.row nm)) else none
      | _, _ => none
    | _, _, _ => none

noncomputable def ex_callz (F : FuncId → List AV → Option AV) (s : St) (nm ct : Nat) (f : FuncId) (xs ne : List Opd) : Option Eff :=
  match evlR s xs with
    | some vs => if neOkL s vs ne = true ∧ freshN s.sg nm ct = true then match AV.reachL s.sg vs, AV.frzL s.sg 8 vs with
      | some z, some vs' => (F f vs').map fun r => .big z r
      | _, _ => none
      else none
    | none => none

noncomputable def ex_nilck (s : St) (x : Opd) : Option Eff :=
  match evR s x with
    | some (.own i o) => some (.val (.own i o))
    | some (.elt i sz m j) => some (.val (.elt i sz m j))
    | some (.ipt cs) => some (.val (.ipt cs))
    | some (.fn f cs) => some (.val (.fn f cs))
    | _ => none

noncomputable def ex_mkm (s : St) (nm : Nat) : Option Eff :=
  match sgR s.sg nm with
    | .fresh => some (.new nm (.mp false [] []) (.row nm))
    | _ => none

noncomputable def ex_mpu (s : St) (kt : KTy) (m x v : Opd) (ne : List Opd) : Option Eff :=
  match evR s m, evR s x, evR s v with
    | some (.row i), some kv, some vv => match sgR s.sg i, AV.reach s.sg vv, AV.frz s.sg 8 vv with
      | .mp false ks us, some z, some v' => if memN (fstN z) i = false ∧ neOkL s [.row i, vv] ne = true then (mput kt ks us kv v').map fun p => .big (z ++ [(i, .mp false p.1 p.2)]) .gone else none
      | _, _, _ => none
    | _, _, _ => none

noncomputable def ex_mrg (s : St) (nm : Nat) (m : Opd) (ne : List Opd) : Option Eff :=
  match sgR s.sg nm, evR s m with
    | .fresh, some v => match AV.reach s.sg v, AV.frz s.sg 8 v with
      | some z, some (.imp ks us) => if neOkL s [v] ne = true then some (.big (z ++ [(nm, .itr ks us [] [])]) (.row nm)) else none
      | _, _ => none
    | _, _ => none

/-- the entries that are left -/
def leftN (seen : List Nat) (n : Nat) : List Nat := (List.range n).filter fun j => !memN seen j
noncomputable def ex_mnx (s : St) (x : Opd) : Option Eff :=
  match evR s x with
    | some (.row i) => match sgR s.sg i with
      | .itr ks us seen _ => match leftN seen ks.length with
        | [] => some (.val (.tup [.bool false]))
        | [j] => match ks[j]?, us[j]? with
          | some kv, some uv => some (.big [(i, .itr ks us (seen ++ [j]) [kv, uv])] (.tup [.bool true, kv, uv]))
          | _, _ => none
        | _ => none
      | _ => none
    | _ => none

noncomputable def ex_men (s : St) (x : Opd) : Option Eff :=
  match evR s x with
    | some (.row i) => match sgR s.sg i with
      | .itr _ _ _ [kv, uv] => some (.val (.tup [kv, uv]))
      | _ => none
    | _ => none

noncomputable def ex_lkp (s : St) (kt : KTy) (ok : Bool) (z : AV) (m x : Opd) : Option Eff :=
  match evR s m, evR s x with
    | some (.imp ks us), some kv => (mlook kt ks us kv).map fun r => .val (lkR ok z r)
    | some (.row i), some kv => match sgR s.sg i with
      | .mp _ ks us => (mlook kt ks us kv).map fun r => .val (lkR ok z r)
      | _ => none
    | _, _ => none

noncomputable def ex_stz (s : St) (ag : Bool) (n : Nat) (a x : Opd) (ne : List Opd) : Option Eff :=
  match evR s a, evR s x with
    | some (.own i off), some v => match sgR s.sg i with
      | .box false cs => if neOkL s [.own i off, v] ne = true then match cellsX ag v with
        | some vs => if vs.all AV.one = true ∧ vs.length = n ∧ off + n ≤ cs.length then some (.set i (.box false (splice cs off vs))) else none
        | none => none
        else none
      | _ => none
    | some (.elt i sz m j), some v => match sgR s.sg i, AV.reach s.sg v, AV.frz s.sg 8 v with
      | .row false el sz' es, some z, some v' => if neOkL s [.elt i sz m j, v] ne = true ∧ memN (fstN z) i = false ∧ sz' = sz then match cellsX ag v' with
        | some vs' => if vs'.all AV.one = true ∧ vs'.length = n ∧ m < es.length ∧ j + n ≤ (es.getD m []).length then some (.big (z ++ [(i, .row false el sz (es.set m (splice (es.getD m []) j vs')))]) .gone) else none
        | none => none
        else none
      | _, _, _ => none
    | _, _ => none

noncomputable def ex_mlen (s : St) (x : Opd) : Option Eff :=
  match evR s x with
    | some (.imp ks _) => some (.val (.int .i64 ks.length))
    | some (.row i) => match sgR s.sg i with
      | .mp _ ks _ => some (.val (.int .i64 ks.length))
      | _ => none
    | _ => none

/-- what an operation comes to -/
noncomputable def exE (F : FuncId → List AV → Option AV) (o : Ixo) (s : St) : Option Eff :=
  match o with
  | .mv x => ex_mv s x
  | .pick c a b => ex_pick s c a b
  | .alloc nm zs => ex_alloc s nm zs
  | .mks nm el sz bytes zs x y => ex_mks s nm el sz bytes zs x y
  | .box nm ag x => ex_box s nm ag x
  | .build zs ps => ex_build s zs ps
  | .load ag n a => ex_load s ag n a
  | .store ag n a x ne => ex_store s ag n a x ne
  | .bin op x y => ex_bin s op x y
  | .eqb neg x y => ex_eqb s neg x y
  | .eqs neg T x y => ex_eqs s neg T x y
  | .un op x => ex_un s op x
  | .conv kd x => ex_conv s kd x
  | .faddr off x => ex_faddr s off x
  | .field ag n off x => ex_field s ag n off x
  | .iaddr sz x i => ex_iaddr s sz x i
  | .mkfn f caps => ex_mkfn s f caps
  | .extract i x => ex_extract s i x
  | .call f xs => ex_call F s f xs
  | .callv g xs => ex_callv F s g xs
  | .len x => ex_len s x
  | .slen x => ex_slen s x
  | .mm mx xs => ex_mm s mx xs
  | .sli sz x lo hi => ex_sli s sz x lo hi
  | .bsl nm el sz ps ne => ex_bsl s nm el sz ps ne
  | .apd nm el sz bytes x y ne => ex_apd s nm el sz bytes x y ne
  | .callz nm ct f xs ne => ex_callz F s nm ct f xs ne
  | .nilck x => ex_nilck s x
  | .mkm nm => ex_mkm s nm
  | .mpu kt m x v ne => ex_mpu s kt m x v ne
  | .mrg nm m ne => ex_mrg s nm m ne
  | .mnx x => ex_mnx s x
  | .men x => ex_men s x
  | .lkp kt ok z m x => ex_lkp s kt ok z m x
  | .mlen x => ex_mlen s x
  | .stz ag n a x ne => ex_stz s ag n a x ne

theorem leftN_mem {seen : List Nat} {n j : Nat} : j ∈ leftN seen n ↔ j < n ∧ j ∉ seen := by
  simp only [leftN, List.mem_filter, List.mem_range, Bool.not_eq_true']
  constructor
  · rintro ⟨h1, h2⟩; exact ⟨h1, fun h => by rw [memN_iff.2 h] at h2; cases h2⟩
  · rintro ⟨h1, h2⟩; exact ⟨h1, by cases h : memN seen j with
      | false => rfl
      | true => exact absurd (memN_iff.1 h) h2⟩

theorem exE_ok {E : Env} {F : FuncId → List AV → Option AV} (hF : ∀ f args r, F f args = some r → bodied E.P f = true ∧ FnA E.P f args (· = r)) {o : Ixo} {s : St} {e : Eff} (h : exE F o s = some e) {κ : Eff → Prop} (hk : κ e) : evX E o s κ := by
  cases o with
  | mv x =>
    simp only [exE, ex_mv, evR_eq, evlR_eq, sgR_eq, Option.map_eq_some_iff] at h
    obtain ⟨v, h1, rfl⟩ := h
    simp only [evX, h1]; exact hk
  | pick c a b =>
    simp only [exE, ex_pick, evR_eq, evlR_eq, sgR_eq] at h
    split at h
    · rename_i b' x y h1 h2 h3
      simp only [evX, h1, h2, h3]
      cases b' <;> cases h
      · exact brB_f hk
      · exact brB_t hk
    · cases h
  | alloc nm zs =>
    simp only [exE, ex_alloc, evR_eq, evlR_eq, sgR_eq] at h
    split at h <;> cases h
    rename_i h1
    simp only [evX, h1]; exact hk
  | mks nm el sz bytes zs x y =>
    simp only [exE, ex_mks, evR_eq, evlR_eq, sgR_eq] at h
    split at h
    · rename_i kl n kc m h1 h2 h3
      split at h <;> cases h
      rename_i h4
      simp only [evX, h1, h2, h3]
      exact ⟨h4.1, h4.2.1, h4.2.2, hk⟩
    · cases h
  | box nm ag x =>
    simp only [exE, ex_box, evR_eq, evlR_eq, sgR_eq] at h
    split at h
    · rename_i v h1 h2
      split at h <;> cases h
      rename_i cs h3
      simp only [evX, h1, h2]
      exact cellsX_ok h3 hk
    · cases h
  | build zs ps =>
    simp only [exE, ex_build, evR_eq, evlR_eq, sgR_eq] at h
    split at h <;> cases h
    rename_i cs h1
    simp only [evX, h1]; exact hk
  | load ag n a =>
    simp only [exE, ex_load, evR_eq, evlR_eq, sgR_eq] at h
    split at h
    · rename_i i off h1
      split at h
      · rename_i h2
        obtain ⟨v, h3, rfl⟩ := Option.map_eq_some_iff.1 h
        simp only [evX, h1, h2, h3]; exact hk
      · cases h
    · rename_i i sz m j h1
      split at h
      · rename_i h2
        split at h
        · rename_i e1
          split at h
          · rename_i cs h4
            obtain ⟨v, h3, rfl⟩ := Option.map_eq_some_iff.1 h
            simp only [evX, h1, h2, if_pos e1]
            refine elX_ok h4 ?_
            simp only [h3]; exact hk
          · cases h
        · cases h
      · cases h
    · rename_i cs h1
      obtain ⟨v, h3, rfl⟩ := Option.map_eq_some_iff.1 h
      simp only [evX, h1, h3]; exact hk
    · cases h
  | store ag n a x ne =>
    simp only [exE, ex_store, evR_eq, evlR_eq, sgR_eq] at h
    split at h
    · rename_i i off v h1 h2
      split at h
      · rename_i cs h3
        split at h
        · rename_i vs h4
          split at h <;> cases h
          rename_i h5
          simp only [evX, h1, h2, h3]
          exact cellsX_ok h4 ⟨h5.1, by rw [if_pos h5.2]; exact hk⟩
        · cases h
      · cases h
    · rename_i i sz m j v h1 h2
      split at h
      · rename_i el sz' es h3
        split at h
        · rename_i vs h4
          split at h
          · rename_i h5
            split at h
            · rename_i vs' cs h6 h7
              split at h <;> cases h
              rename_i h8
              simp only [evX, h1, h2, h3]
              refine cellsX_ok h4 ⟨h5.1, ?_⟩
              rw [if_pos h5.2]
              simp only [h6]
              refine elX_ok h7 ?_
              rw [if_pos h8]; exact hk
            · cases h
          · cases h
        · cases h
      · cases h
    · cases h
  | bin op x y =>
    simp only [exE, ex_bin, evR_eq, evlR_eq, sgR_eq] at h
    split at h
    · rename_i k1 a k2 b h1 h2
      split at h
      · rename_i e1
        obtain ⟨v, h3, rfl⟩ := Option.map_eq_some_iff.1 h
        simp only [evX, h1, h2, if_pos e1]
        exact binX_ok h3 hk
      · cases h
    · cases h
  | eqb neg x y =>
    simp only [exE, ex_eqb, evR_eq, evlR_eq, sgR_eq] at h
    split at h <;> cases h
    rename_i h1 h2
    simp only [evX, h1, h2]; exact hk
  | eqs neg T x y =>
    simp only [exE, ex_eqs, evR_eq, evlR_eq, sgR_eq] at h
    split at h
    · rename_i h1 h2
      split at h <;> cases h
      rename_i h3
      simp only [evX, h1, h2, h3]; exact hk
    · cases h
  | un op x =>
    simp only [exE, ex_un, evR_eq, evlR_eq, sgR_eq] at h
    split at h <;> cases h
    · rename_i h1; simp only [evX, h1]; exact hk
    · rename_i h1; simp only [evX, h1, wrE]; exact hk
  | conv kd x =>
    simp only [exE, ex_conv, evR_eq, evlR_eq, sgR_eq] at h
    split at h <;> cases h
    rename_i h1; simp only [evX, h1, wrE]; exact hk
  | faddr off x =>
    simp only [exE, ex_faddr, evR_eq, evlR_eq, sgR_eq] at h
    split at h <;> cases h <;> (rename_i h1; simp only [evX, h1]; exact hk)
  | field ag n off x =>
    simp only [exE, ex_field, evR_eq, evlR_eq, sgR_eq] at h
    split at h
    · rename_i cs h1
      obtain ⟨v, h3, rfl⟩ := Option.map_eq_some_iff.1 h
      simp only [evX, h1, h3]; exact hk
    · cases h
  | iaddr sz x i =>
    simp only [exE, ex_iaddr, evR_eq, evlR_eq, sgR_eq] at h
    split at h
    · rename_i h1 h2
      split at h
      · rename_i cs h3
        split at h <;> cases h
        rename_i h4
        simp only [evX, h1, h2]
        exact elX_ok h3 (by rw [if_pos h4]; exact hk)
      · cases h
    · rename_i h1 h2
      split at h
      · rename_i h3
        split at h <;> cases h
        rename_i h4
        simp only [evX, h1, h2, h3, if_pos h4.1]
        exact ⟨h4.2, hk⟩
      · cases h
    · cases h
  | mkfn f caps =>
    simp only [exE, ex_mkfn, evR_eq, evlR_eq, sgR_eq] at h
    split at h <;> cases h
    rename_i h1; simp only [evX, h1]; exact hk
  | extract i x =>
    simp only [exE, ex_extract, evR_eq, evlR_eq, sgR_eq] at h
    split at h
    · rename_i vs h1
      obtain ⟨v, h3, rfl⟩ := Option.map_eq_some_iff.1 h
      simp only [evX, h1, h3]; exact hk
    · cases h
  | call f xs =>
    simp only [exE, ex_call, evR_eq, evlR_eq, sgR_eq] at h
    split at h
    · rename_i vs h1
      split at h
      · rename_i vs' h2
        split at h
        · rename_i r h3
          split at h <;> cases h
          rename_i h4
          simp only [evX, h1]
          rcases h4 with h4 | h4
          · exact (hF _ _ _ h3).2.call h4 h2 fun q hq => by subst hq; exact hk
          · exact (hF _ _ _ h3).2.lend h2 fun q hq => by subst hq; exact ⟨h4, hk⟩
        · cases h
      · cases h
    · cases h
  | callv g xs =>
    simp only [exE, ex_callv, evR_eq, evlR_eq, sgR_eq] at h
    split at h
    · rename_i gv vs h1 h2
      split at h
      · rename_i f cap' vs' hy h3 h4
        split at h
        · rename_i r h5
          split at h <;> cases h
          rename_i h6
          simp only [evX, h1, h2, hy]
          have hv := fnV_of (hF _ _ _ h5).1 (hF _ _ _ h5).2
          rcases h6 with ⟨h6, h7⟩ | h6
          · exact .inl ⟨_, _, _, h6, h7, h3, h4, hv, fun q hq => by subst hq; exact hk⟩
          · exact .inr ⟨_, _, _, h3, h4, hv, fun q hq => by subst hq; exact ⟨h6, hk⟩⟩
        · cases h
      · cases h
    · cases h
  | len x =>
    simp only [exE, ex_len, evR_eq, evlR_eq, sgR_eq] at h
    split at h
    · cases h; rename_i h1; simp only [evX, h1]; exact hk
    · cases h; rename_i h1; simp only [evX, h1]; exact hk
    · rename_i h1
      split at h <;> cases h
      rename_i h2
      simp only [evX, h1, h2]; exact hk
    · cases h
  | slen x =>
    simp only [exE, ex_slen, evR_eq, evlR_eq, sgR_eq] at h
    split at h <;> cases h
    rename_i h1; simp only [evX, h1]; exact hk
  | mm mx xs =>
    simp only [exE, ex_mm, evR_eq, evlR_eq, sgR_eq] at h
    split at h
    · rename_i h1
      split at h <;> cases h
      rename_i h2
      simp only [evX, h1, h2]; exact hk
    · cases h
  | sli sz x lo hi =>
    simp only [exE, ex_sli, evR_eq, evlR_eq, sgR_eq] at h
    split at h
    · rename_i es l h1 h2
      cases hi with
      | none =>
        obtain ⟨v, h3, rfl⟩ := Option.map_eq_some_iff.1 h
        simp only [evX, h1, h2]
        exact slX_ok h3 hk
      | some q =>
        simp only at h
        split at h
        · rename_i hq h4
          obtain ⟨v, h3, rfl⟩ := Option.map_eq_some_iff.1 h
          simp only [evX, h1, h2, h4]
          exact slX_ok h3 hk
        · cases h
    · cases h
  | bsl nm el sz ps ne =>
    simp only [exE, ex_bsl, evR_eq, evlR_eq, sgR_eq] at h
    split at h
    · rename_i vs h1 h2
      split at h <;> cases h
      rename_i h3 h4
      simp only [evX, h1, h2, h3, h4]; exact hk
    · cases h
  | apd nm el sz b x y ne =>
    simp only [exE, ex_apd, evR_eq, evlR_eq, sgR_eq] at h
    split at h
    · rename_i u v h1 h2 h3
      split at h
      · rename_i es z es' h4 h5
        split at h <;> cases h
        rename_i h6
        simp only [evX, h1, h2, h3, h4, h5, if_pos (And.intro h6.1 h6.2.1)]
        refine ⟨fun e he => ?_, h6.2.2.2, hk⟩
        have := List.all_eq_true.1 h6.2.2.1 e he
        simpa using this
      · cases h
    · cases h
  | callz nm ct f xs ne =>
    simp only [exE, ex_callz, evR_eq, evlR_eq, sgR_eq] at h
    split at h
    · rename_i vs h1
      split at h
      · rename_i h2
        split at h
        · rename_i z vs' h3 h4
          obtain ⟨r, h5, rfl⟩ := Option.map_eq_some_iff.1 h
          simp only [evX, h1, if_pos h2]
          exact (hF _ _ _ h5).2.callz h3 h4 fun q hq => by subst hq; exact hk
        · cases h
      · cases h
    · cases h
  | nilck x =>
    simp only [exE, ex_nilck, evR_eq, evlR_eq, sgR_eq] at h
    split at h <;> cases h <;> (rename_i h1; simp only [evX, h1]; exact hk)
  | mkm nm =>
    simp only [exE, ex_mkm, sgR_eq] at h
    split at h <;> cases h
    rename_i h1; simp only [evX, h1]; exact hk
  | mpu kt m x v ne =>
    simp only [exE, ex_mpu, evR_eq, sgR_eq] at h
    split at h
    · rename_i i kv vv h1 h2 h3
      split at h
      · rename_i ks us z v' h4 h5 h6
        split at h
        · rename_i h7
          obtain ⟨p, h8, rfl⟩ := Option.map_eq_some_iff.1 h
          simp only [evX, h1, h2, h3, h4, h5, h6, if_pos h7]
          exact mpI (ks' := p.1) (us' := p.2) h8 hk
        · cases h
      · cases h
    · cases h
  | mrg nm m ne =>
    simp only [exE, ex_mrg, evR_eq, sgR_eq] at h
    split at h
    · rename_i v h1 h2
      split at h
      · rename_i z ks us h5 h6
        split at h <;> cases h
        rename_i h7
        simp only [evX, h1, h2, h5, h6, if_pos h7]; exact hk
      · cases h
    · cases h
  | mnx x =>
    simp only [exE, ex_mnx, evR_eq, sgR_eq] at h
    split at h
    · rename_i i h1
      split at h
      · rename_i ks us seen last h2
        split at h
        · rename_i h3
          cases h
          simp only [evX, h1, h2]
          refine nxI (fun j kv uv k1 k2 k3 => ?_) (fun _ => hk)
          have : j ∈ leftN seen ks.length := leftN_mem.2 ⟨(List.getElem?_eq_some_iff.1 k1).1, k3⟩
          rw [h3] at this; cases this
        · rename_i j0 h3
          split at h <;> cases h
          rename_i kv0 uv0 h4 h5
          simp only [evX, h1, h2]
          refine nxI (fun j kv uv k1 k2 k3 => ?_) (fun hall => ?_)
          · have : j ∈ leftN seen ks.length := leftN_mem.2 ⟨(List.getElem?_eq_some_iff.1 k1).1, k3⟩
            rw [h3] at this
            simp only [List.mem_singleton] at this
            subst this
            rw [h4] at k1; rw [h5] at k2; cases k1; cases k2
            exact hk
          · have : j0 ∈ leftN seen ks.length := by rw [h3]; simp
            obtain ⟨q1, q2⟩ := leftN_mem.1 this
            exact absurd (hall j0 q1) q2
        · cases h
      · cases h
    · cases h
  | men x =>
    simp only [exE, ex_men, evR_eq, sgR_eq] at h
    split at h
    · rename_i i h1
      split at h <;> cases h
      rename_i h2
      simp only [evX, h1, h2]; exact hk
    · cases h
  | lkp kt ok z m x =>
    simp only [exE, ex_lkp, evR_eq, sgR_eq] at h
    split at h
    · rename_i h1 h2
      obtain ⟨r, h3, rfl⟩ := Option.map_eq_some_iff.1 h
      simp only [evX, h1, h2]
      exact lkI h3 hk
    · rename_i h1 h2
      split at h
      · rename_i h4
        obtain ⟨r, h3, rfl⟩ := Option.map_eq_some_iff.1 h
        simp only [evX, h1, h2, h4]
        exact lkI h3 hk
      · cases h
    · cases h
  | stz ag n a x ne =>
    simp only [exE, ex_stz, evR_eq, sgR_eq] at h
    split at h
    · rename_i i off v h1 h2
      split at h
      · rename_i cs h3
        split at h
        · rename_i h4
          split at h
          · rename_i vs h5
            split at h <;> cases h
            rename_i h6
            simp only [evX, h1, h2, h3, if_pos h4]
            exact cellsX_ok h5 ⟨h6.1, by rw [if_pos h6.2]; exact hk⟩
          · cases h
        · cases h
      · cases h
    · rename_i i sz m j v h1 h2
      split at h
      · rename_i el sz' es z v' h3 h4 h5
        split at h
        · rename_i h6
          split at h
          · rename_i vs h7
            split at h <;> cases h
            rename_i h8
            simp only [evX, h1, h2, h3, h4, h5, if_pos h6]
            refine cellsX_ok h7 ⟨h8.1, ?_⟩
            rw [if_pos h8.2.1]
            refine ⟨by omega, by omega, ?_⟩
            simp only [Int.toNat_natCast]
            rw [if_pos h8.2.2.2]
            exact hk
          · cases h
        · cases h
      · cases h
    · cases h
  | mlen x =>
    simp only [exE, ex_mlen, evR_eq, sgR_eq] at h
    split at h
    · cases h; rename_i h1; simp only [evX, h1]; exact hk
    · rename_i h1
      split at h <;> cases h
      rename_i h2
      simp only [evX, h1, h2]; exact hk
    · cases h


/-! ### Names are put in order at a loop's head -/
mutual
def AV.mask : AV → Nat → Nat
  | .own i _, m => m ||| 2 ^ i
  | .elt i _ _ _, m => m ||| 2 ^ i
  | .row i, m => m ||| 2 ^ i
  | .agg cs, m => AV.maskL cs m
  | .tup cs, m => AV.maskL cs m
  | .fn _ cs, m => AV.maskL cs m
  | _, m => m
def AV.maskL : List AV → Nat → Nat
  | [], m => m
  | a :: as, m => AV.maskL as (a.mask m)
end
def maskTm : Tm → Nat → Nat
  | [], m => m
  | (_, v) :: r, m => maskTm r (v.mask m)
def maskSg : List Res → Nat → Nat
  | [], m => m
  | .box _ cs :: r, m => maskSg r (AV.maskL cs m)
  | _ :: r, m => maskSg r m
def maskP : List Nat → Nat → Nat
  | [], m => m
  | i :: l, m => maskP l (m ||| 2 ^ i)

def swN : List (Nat × Nat) → Nat → Nat
  | [], i => i
  | (a, b) :: l, i => if i = a then b else if i = b then a else swN l i
def swOk (sw : List (Nat × Nat)) : Bool := sw.all fun p => swN sw p.1 == p.2 && swN sw p.2 == p.1
theorem swN_mem : ∀ {sw : List (Nat × Nat)} {i : Nat}, swN sw i = i ∨ (i, swN sw i) ∈ sw ∨ (swN sw i, i) ∈ sw
  | [], i => .inl rfl
  | (a, b) :: l, i => by
    simp only [swN]
    by_cases h1 : i = a
    · subst h1; simp
    · by_cases h2 : i = b
      · subst h2; simp [h1]
      · simp only [if_neg h1, if_neg h2]
        rcases swN_mem (sw := l) (i := i) with h | h | h
        · exact .inl h
        · exact .inr (.inl (List.mem_cons_of_mem _ h))
        · exact .inr (.inr (List.mem_cons_of_mem _ h))
theorem swN_inv {sw : List (Nat × Nat)} (h : swOk sw = true) (i : Nat) : swN sw (swN sw i) = i := by
  have hall := List.all_eq_true.1 h
  rcases swN_mem (sw := sw) (i := i) with e | e | e
  · rw [e, e]
  · have := hall _ e
    simp only [Bool.and_eq_true, beq_iff_eq] at this
    exact this.2
  · have := hall _ e
    simp only [Bool.and_eq_true, beq_iff_eq] at this
    exact this.1

def nlF : Nat → Bool := fun _ => false
mutual
theorem ren_ren {π : Nat → Nat} (h : ∀ i, π (π i) = i) : ∀ v : AV, (v.ren π nlF).ren π nlF = v
  | .bool _ => rfl
  | .int _ _ => rfl
  | .str _ => rfl
  | .lit _ => rfl
  | .isl _ => rfl
  | .nils => rfl
  | .ipt _ => rfl
  | .imp _ _ => rfl
  | .yld => rfl
  | .gone => rfl
  | .own i o => by simp only [AV.ren, h]
  | .elt i _ _ _ => by simp only [AV.ren, h]
  | .row i => by simp only [AV.ren, nlF, h]
  | .agg cs => by simp only [AV.ren, renL_renL h cs]
  | .tup cs => by simp only [AV.ren, renL_renL h cs]
  | .fn f cs => by simp only [AV.ren, renL_renL h cs]
theorem renL_renL {π : Nat → Nat} (h : ∀ i, π (π i) = i) : ∀ as : List AV, AV.renL π nlF (AV.renL π nlF as) = as
  | [] => rfl
  | a :: as => by simp only [AV.renL, ren_ren h a, renL_renL h as]
end

def Res.renR (π : Nat → Nat) : Res → Res
  | .box ice cs => .box ice (AV.renL π nlF cs)
  | r => r

def permTm (π : Nat → Nat) : Tm → Tm
  | [] => []
  | (d, v) :: r => (d, v.ren π nlF) :: permTm π r
def permSg (π : Nat → Nat) (m : Nat) (sg : List Res) : List Nat → List Res
  | [] => []
  | i :: l => (if m.testBit (π i) then (sg.getD (π i) .fresh).renR π else .fresh) :: permSg π m sg l

/-- the keys go up -/
def ascT : Nat → Tm → Bool
  | _, [] => true
  | n, (d, _) :: r => match decide (n ≤ d) with
    | true => ascT (d + 1) r
    | false => false
theorem ascT_look : ∀ {n : Nat} {tm : Tm}, ascT n tm = true → ∀ p ∈ tm, n ≤ p.1 ∧ look tm p.1 = some p.2
  | n, [], _, p, hp => by cases hp
  | n, (d, v) :: r, h, p, hp => by
    simp only [ascT] at h
    split at h
    · rename_i h1
      have h1 := of_decide_eq_true h1
      rcases List.mem_cons.1 hp with rfl | hp
      · exact ⟨h1, by simp [look]⟩
      · obtain ⟨h2, h3⟩ := ascT_look h p hp
        refine ⟨by omega, ?_⟩
        simp only [look]
        rw [if_neg (by omega)]; exact h3
    · cases h

def okTm (keep : Nat → Bool) : Tm → Bool
  | [] => true
  | (_, v) :: r => match v.okN nlF keep with
    | true => okTm keep r
    | false => false
def okSg (s : List Res) (π : Nat → Nat) (keep : Nat → Bool) : Nat → List Res → Bool
  | _, [] => true
  | i, r :: rs => match r with
    | .fresh => okSg s π keep (i + 1) rs
    | .dead => okSg s π keep (i + 1) rs
    | .box ice cs => match AV.okNL nlF keep cs, !ice || AV.puL cs with
      | true, true => okSg s π keep (i + 1) rs
      | _, _ => false
    | .row _ _ _ _ => okSg s π keep (i + 1) rs
    | .mp _ _ _ => okSg s π keep (i + 1) rs
    | .itr _ _ _ _ => okSg s π keep (i + 1) rs

theorem permSg_get (π : Nat → Nat) (m : Nat) (sg : List Res) : ∀ (l : List Nat) (i : Nat), (permSg π m sg l).getD i .fresh = match l[i]? with
    | some j => if m.testBit (π j) then (sg.getD (π j) .fresh).renR π else .fresh
    | none => .fresh
  | [], i => by simp [permSg]
  | j :: l, 0 => by simp [permSg]
  | j :: l, i + 1 => by
    have := permSg_get π m sg l i
    simp only [permSg, List.getD_cons_succ, List.getElem?_cons_succ]
    exact this

/-- so ordered, it says no more than it did -/
theorem meets_perm {sw : List (Nat × Nat)} (hsw : swOk sw = true) {s : St} {tm0 : Tm} (htm0 : tm0 = s.tm ∨ tm0 = []) (hasc : ascT 0 tm0 = true) {m n : Nat} {sg' : List Res} {tm' : Tm} (h1 : tm' = permTm (swN sw) tm0) (h2 : sg' = permSg (swN sw) m s.sg (List.range n))
    (hk1 : okTm (keepN nlF sg') tm' = true) (hk2 : okSg s.sg (swN sw) (keepN nlF sg') 0 sg' = true) (hp : pinB s ⟨tm', sg', s.gh⟩ (swN sw) nlF s.gh.p = true) : MeetsE s ⟨tm', sg', s.gh⟩ := by
  have hinv := swN_inv hsw
  refine ⟨swN sw, nlF, ?_, ?_, ?_, rfl, hp⟩
  · have key : ∀ (t : Tm), (∀ p ∈ t, look s.tm p.1 = some p.2) → ∀ t', t' = permTm (swN sw) t → okTm (keepN nlF sg') t' = true → renTm s (swN sw) nlF (keepN nlF sg') t' := by
      intro t
      induction t with
      | nil => intro _ t' e _; subst e; trivial
      | cons p t ih =>
        intro hl t' e hk
        obtain ⟨d, v⟩ := p
        subst e
        simp only [permTm, okTm] at hk ⊢
        split at hk
        · rename_i hv
          exact ⟨⟨by rw [hl (d, v) (by simp), ren_ren hinv], hv⟩, ih (fun p hp => hl p (by simp [hp])) _ rfl hk⟩
        · cases hk
    refine key tm0 (fun p hp => ?_) tm' h1 hk1
    rcases htm0 with e | e
    · rw [← e]; exact (ascT_look hasc p hp).2
    · rw [e] at hp; cases hp
  · have hget : ∀ i, sg'.getD i .fresh = match (List.range n)[i]? with
        | some j => if m.testBit (swN sw j) then (s.sg.getD (swN sw j) .fresh).renR (swN sw) else .fresh
        | none => .fresh := fun i => by rw [h2]; exact permSg_get _ _ _ _ _
    have key : ∀ (l : List Res) (i : Nat), (∀ j, l.getD j .fresh = sg'.getD (i + j) .fresh) → okSg s.sg (swN sw) (keepN nlF sg') i l = true → renSg s (swN sw) nlF (keepN nlF sg') i l := by
      intro l
      induction l with
      | nil => intro i _ _; trivial
      | cons r l ih =>
        intro i hl hk
        have hr : r = sg'.getD i .fresh := by have := hl 0; simpa using this
        have htl : ∀ j, l.getD j .fresh = sg'.getD (i + 1 + j) .fresh := fun j => by
          have := hl (j + 1)
          rw [List.getD_cons_succ] at this
          rw [this]; congr 1; omega
        have hg := hget i
        rw [← hr] at hg
        have hcase : r = .fresh ∨ r = (s.sg.getD (swN sw i) .fresh).renR (swN sw) := by
          split at hg
          · rename_i j hj
            have : j = i := by
              have := (List.getElem?_eq_some_iff.1 hj)
              obtain ⟨_, e⟩ := this
              simp at e; exact e.symm
            subst this
            split at hg
            · exact .inr hg
            · exact .inl hg
          · exact .inl hg
        cases r with
        | fresh => simp only [okSg] at hk; exact ⟨trivial, ih _ htl hk⟩
        | dead =>
          simp only [okSg] at hk
          refine ⟨⟨rfl, fun e => ?_⟩, ih _ htl hk⟩
          rcases hcase with h | h
          · cases h
          · rw [e] at h; cases h
        | box ice cs =>
          simp only [okSg] at hk
          split at hk
          · rename_i k1 k2
            refine ⟨⟨rfl, ?_, k1, fun e => by simpa [e] using k2⟩, ih _ htl hk⟩
            rcases hcase with h | h
            · cases h
            · cases ho : s.sg.getD (swN sw i) .fresh with
              | box ice' cs' =>
                rw [ho] at h
                simp only [Res.renR, Res.box.injEq] at h
                obtain ⟨rfl, rfl⟩ := h
                rw [renL_renL hinv]
              | _ => rw [ho] at h; cases h
          · cases hk
        | row ice el sz es =>
          simp only [okSg] at hk
          refine ⟨?_, ih _ htl hk⟩
          rcases hcase with h | h
          · cases h
          · cases ho : s.sg.getD (swN sw i) .fresh with
            | row ice' el' sz' es' =>
              rw [ho] at h
              simp only [Res.renR] at h
              show s.sg.getD (swN sw i) .fresh = _
              rw [ho, h]
            | _ => rw [ho] at h; cases h
        | mp ice ks us =>
          simp only [okSg] at hk
          refine ⟨⟨rfl, ?_⟩, ih _ htl hk⟩
          rcases hcase with h | h
          · cases h
          · cases ho : s.sg.getD (swN sw i) .fresh with
            | mp ice' ks' us' =>
              rw [ho] at h
              simp only [Res.renR] at h
              rw [h]
            | _ => rw [ho] at h; cases h
        | itr ks us seen last =>
          simp only [okSg] at hk
          refine ⟨⟨rfl, ?_⟩, ih _ htl hk⟩
          rcases hcase with h | h
          · cases h
          · cases ho : s.sg.getD (swN sw i) .fresh with
            | itr ks' us' seen' last' =>
              rw [ho] at h
              simp only [Res.renR] at h
              rw [h]
            | _ => rw [ho] at h; cases h
    exact key sg' 0 (fun j => by simp) hk2
  · show injB (swN sw) nlF sg' sg'.length = true
    simp only [injB, List.all_eq_true, Bool.or_eq_true]
    intro i _
    right
    intro j _
    by_cases e : i = j
    · simp [e]
    · right
      simp only [bne_iff_ne, ne_eq]
      intro h
      have := congrArg (swN sw) h
      rw [hinv, hinv] at this
      exact e this

/-- the same, with what is worked out written out at once -/
def permTmK (π : Nat → Nat) : Tm → (Tm → Option AV) → Option AV
  | [], k => k []
  | (d, v) :: r, k => permTmK π r fun r' => k ((d, v.ren π nlF) :: r')
theorem permTmK_eq (π : Nat → Nat) : ∀ (tm : Tm) (k : Tm → Option AV), permTmK π tm k = k (permTm π tm)
  | [], _ => rfl
  | (d, v) :: r, k => permTmK_eq π r _
def permSgK (π : Nat → Nat) (m : Nat) (sg : List Res) : List Nat → (List Res → Option AV) → Option AV
  | [], k => k []
  | i :: l, k => match m.testBit (π i) with
    | true => match (sg.getD (π i) .fresh).renR π with
      | .fresh => permSgK π m sg l fun l' => k (.fresh :: l')
      | .dead => permSgK π m sg l fun l' => k (.dead :: l')
      | .box a b => permSgK π m sg l fun l' => k (.box a b :: l')
      | .row a b c e => permSgK π m sg l fun l' => k (.row a b c e :: l')
      | .mp a b c => permSgK π m sg l fun l' => k (.mp a b c :: l')
      | .itr a b c e => permSgK π m sg l fun l' => k (.itr a b c e :: l')
    | false => permSgK π m sg l fun l' => k (.fresh :: l')
theorem permSgK_eq (π : Nat → Nat) (m : Nat) (sg : List Res) : ∀ (l : List Nat) (k : List Res → Option AV), permSgK π m sg l k = k (permSg π m sg l)
  | [], _ => rfl
  | i :: l, k => by
    simp only [permSgK, permSg]
    cases m.testBit (π i) with
    | true =>
      simp only [if_true]
      cases (sg.getD (π i) .fresh).renR π <;> exact permSgK_eq π m sg l _
    | false =>
      simp only [Bool.false_eq_true, if_false]
      exact permSgK_eq π m sg l _

def pairUp : List Nat → List Nat → Option (List (Nat × Nat))
  | [], _ => some []
  | a :: as, b :: bs => (pairUp as bs).map ((a, b) :: ·)
  | _ :: _, [] => none

/-- names that the code gives -/
def CI.names : CI → List Nat
  | .reg ps => ps.flatMap fun p => p.o.names
  | .seq a b => a.names ++ b.names
  | .cond _ a b => a.names ++ b.names
  | .block _ b => b.names
  | .loop b => b.names
  | .rng _ _ x y => x.names ++ y.names
  | _ => []

/-- in order -/
def gcK (bl : List Nat) (M : Nat) (s : St) (tm0 : Tm) (k : St → Option AV) : Option AV :=
  let n := s.sg.length
  let m := maskP s.gh.p (maskSg s.sg (maskTm tm0 0))
  match pairUp (bl.filter fun i => m.testBit i) ((List.range n).filter fun j => decide (M ≤ j) && !m.testBit j) with
  | some sw => match swOk sw, ascT 0 tm0 with
    | true, true => permTmK (swN sw) tm0 fun tm' => permSgK (swN sw) m s.sg (List.range n) fun sg' =>
      match okTm (keepN nlF sg') tm', okSg s.sg (swN sw) (keepN nlF sg') 0 sg', pinB s ⟨tm', sg', s.gh⟩ (swN sw) nlF s.gh.p with
      | true, true, true => k ⟨tm', sg', s.gh⟩
      | _, _, _ => none
    | _, _ => none
  | none => none
theorem gcK_ok {bl : List Nat} {M : Nat} {s : St} {tm0 : Tm} {k : St → Option AV} {r : AV} (htm0 : tm0 = s.tm ∨ tm0 = []) (h : gcK bl M s tm0 k = some r) : ∃ s', MeetsE s s' ∧ s'.gh = s.gh ∧ (tm0 = [] → s'.tm = []) ∧ k s' = some r := by
  unfold gcK at h
  simp only at h
  split at h
  · rename_i sw hsw
    split at h
    · rename_i h1 h2
      rw [permTmK_eq, permSgK_eq] at h
      split at h
      · rename_i h3 h4 h5
        exact ⟨_, meets_perm h1 htm0 h2 rfl rfl h3 h4 h5, rfl, fun e => by subst e; rfl, h⟩
      · cases h
    · cases h
  · cases h


abbrev FTab := FuncId → List AV → Option AV
abbrev ITab := FuncId → List AV → Option (List (List AV))
abbrev YTab := Gh → List AV → (Gh → AV → Option AV) → Option AV

noncomputable def opGen (F : FTab) (o : Ixo) (d : Option Nat) (s : St) (k : St → Option AV) : Option AV :=
  match exE F o s with
  | some e => appK d s e k
  | none => none
noncomputable def opCv (F : FTab) (yl : YTab) (g : Opd) (xs : List Opd) (d : Option Nat) (s : St) (k : St → Option AV) : Option AV :=
  match s.ev g, s.evl xs with
  | some gv, some vs => match isYld gv with
    | true => yl s.gh vs fun g v => appK d s (.yl g v) k
    | false => opGen F (.callv g xs) d s k
  | _, _ => none
noncomputable def opX (F : FTab) (yl : YTab) (o : Ixo) (d : Option Nat) (s : St) (k : St → Option AV) : Option AV :=
  match o with
  | .callv g xs => opCv F yl g xs d s k
  | _ => opGen F o d s k

noncomputable def skO (d : Option Nat) (s : St) (k : St → Option AV) : Option AV := match s with
  | ⟨tm, sg, gh⟩ => putO d tm (.tup []) fun tm => k ⟨tm, sg, gh⟩

noncomputable def regG (F : FTab) (yl : YTab) (o : IOp) (ih : St → (St → Option AV) → Option AV) (j : Nat) (want : Bool) (s : St) (k : St → Option AV) : Option AV :=
  match lookR s.tm j with
  | some (.bool b) => match b == want with
    | true => opX F yl o.o o.d s fun s => ih s k
    | false => skO o.d s fun s => ih s k
  | some (.tup []) => skO o.d s fun s => ih s k
  | _ => none
noncomputable def regStep (F : FTab) (yl : YTab) (o : IOp) (ih : St → (St → Option AV) → Option AV) (s : St) (k : St → Option AV) : Option AV :=
  match o.g with
  | none => opX F yl o.o o.d s fun s => ih s k
  | some jw => regG F yl o ih jw.1 jw.2 s k
noncomputable def regX (F : FTab) (yl : YTab) (l : List IOp) (s : St) (k : St → Option AV) : Option AV :=
  @List.rec IOp (fun _ => St → (St → Option AV) → Option AV) (fun s k => k s) (fun o _ ih => regStep F yl o ih) l s k
theorem regX_cons (F : FTab) (yl : YTab) (o : IOp) (os : List IOp) (s : St) (k : St → Option AV) : regX F yl (o :: os) s k = (match o.g with
    | none => opX F yl o.o o.d s fun s => regX F yl os s k
    | some (j, want) => match look s.tm j with
      | some (.bool b) => match b == want with
        | true => opX F yl o.o o.d s fun s => regX F yl os s k
        | false => skO o.d s fun s => regX F yl os s k
      | some (.tup []) => skO o.d s fun s => regX F yl os s k
      | _ => none) := by
  show regStep F yl o (regX F yl os) s k = _
  unfold regStep
  cases o.g with
  | none => rfl
  | some jw =>
    obtain ⟨j, want⟩ := jw
    simp only [regG, lookR_eq]

/-- what is left behind: some state that looks like this one goes on to r -/
def KT (ys : List (List AV)) (K : St → Option AV) (r : AV) (s : St) : Prop := ∃ s' r', Eqv s' s ∧ K s' = some r' ∧ (ys = [] → r' = r)
theorem KT.resp (ys : List (List AV)) (K : St → Option AV) (r : AV) : Resp (KT ys K r) := fun s t q ⟨s', r', h1, h2, h3⟩ => ⟨s', r', h1.trans q, h2, h3⟩

structure TabOk (E : Env) (F : FTab) (It : ITab) (yl : YTab) : Prop where
  fn : ∀ f args r, F f args = some r → bodied E.P f = true ∧ FnA E.P f args (· = r)
  it : ∀ f cap ys, It f cap = some ys → bodied E.P f = true ∧ ItA E.P f cap ys
  yl : ∀ gh args k r, yl gh args k = some r → YldE E gh args (fun g v => ∃ r', k g v = some r' ∧ (E.ys = [] → r' = r))

theorem opX_ok {E : Env} {F : FTab} {It : ITab} {yl : YTab} (hT : TabOk E F It yl) {o : Ixo} {d : Option Nat} {s : St} {k : St → Option AV} {r : AV} (h : opX F yl o d s k = some r) : evO E d o s (KT E.ys k r) := by
  have gen : ∀ o : Ixo, opGen F o d s k = some r → evO E d o s (KT E.ys k r) := fun o h => by
    unfold opGen at h
    split at h
    · rename_i e he
      obtain ⟨s', h1, h2⟩ := appK_eqv d s e k
      rw [h1] at h
      exact exE_ok hT.fn he ⟨s', r, h2, h, fun _ => rfl⟩
    · cases h
  cases o with
  | callv g xs =>
    simp only [opX, opCv] at h
    split at h
    · rename_i gv vs hg hv
      split at h
      · rename_i hy
        have hy2 := hT.yl _ _ _ _ h
        unfold evO
        simp only [evX, hg, hv, hy]
        obtain ⟨q1, q2, q3, ⟨r1, q4, q5⟩, ⟨r2, q6, q7⟩⟩ := hy2
        refine ⟨q1, q2, q3, ?_, ?_⟩
        · obtain ⟨s', h1, h2⟩ := appK_eqv d s (.yl ⟨s.gh.p, s.gh.k + 1, false⟩ (.bool true)) k
          rw [h1] at q4
          exact ⟨s', r1, h2, q4, q5⟩
        · obtain ⟨s', h1, h2⟩ := appK_eqv d s (.yl ⟨s.gh.p, s.gh.k + 1, true⟩ (.bool false)) k
          rw [h1] at q6
          exact ⟨s', r2, h2, q6, q7⟩
      · exact gen _ h
    · cases h
  | _ => exact gen _ h

theorem skO_ok {ys : List (List AV)} {d : Option Nat} {s : St} {k : St → Option AV} {r : AV} (h : skO d s k = some r) : KT ys k r (s.put d (.tup [])) := by
  obtain ⟨tm, sg, gh⟩ := s
  obtain ⟨tm', h1, h2⟩ := putO_eqv (d := d) (tm := tm) (v := .tup []) (k := fun tm => k ⟨tm, sg, gh⟩)
  have h' : putO d tm (.tup []) (fun tm => k ⟨tm, sg, gh⟩) = some r := h
  rw [h1] at h'
  exact ⟨_, r, h2 sg gh, h', fun _ => rfl⟩

theorem KT.mono {ys : List (List AV)} {K : St → Option AV} {r : AV} {s : St} {Q : St → Prop} (hQ : Resp Q) (h : KT ys K r s) (hk : ∀ s' r', K s' = some r' → (ys = [] → r' = r) → Q s') : Q s := by
  obtain ⟨s', r', h1, h2, h3⟩ := h
  exact hQ _ _ h1 (hk s' r' h2 h3)

theorem evs_mono' {E : Env} {k k' : St → Prop} (h : ∀ s, k s → k' s) {os : List IOp} {s : St} (he : evs E os s k) : evs E os s k' := evs_mono h os s he

theorem regX_ok {E : Env} {F : FTab} {It : ITab} {yl : YTab} (hT : TabOk E F It yl) : ∀ {ps : List IOp} {s : St} {k : St → Option AV} {r : AV}, regX F yl ps s k = some r → evs E ps s (KT E.ys k r)
  | [], s, k, r, h => ⟨s, r, Eqv.refl s, h, fun _ => rfl⟩
  | o :: os, s, k, r, h => by
    rw [evs_cons]
    have ih : ∀ s', KT E.ys (fun s => regX F yl os s k) r s' → evs E os s' (KT E.ys k r) := fun s' hs => KT.mono (Q := fun s => evs E os s (KT E.ys k r)) (evs_resp (KT.resp _ _ _) os) hs fun s1 r1 h1 h2 => by
      refine evs_mono' (fun s hs => ?_) (regX_ok hT h1)
      obtain ⟨s2, r2, a1, a2, a3⟩ := hs
      exact ⟨s2, r2, a1, a2, fun e => (a3 e).trans (h2 e)⟩
    have hop : ∀ s', Eqv s s' → opX F yl o.o o.d s (fun s => regX F yl os s k) = some r → evO E o.d o.o s' (fun s' => evs E os s' (KT E.ys k r)) := fun s' q h => evO_eqv (evs_resp (KT.resp _ _ _) os) q (evX_mono (opX_ok hT h) fun e he => ih _ he)
    have hsk : ∀ s', Eqv s s' → skO o.d s (fun s => regX F yl os s k) = some r → evs E os (s'.put o.d (.tup [])) (KT E.ys k r) := fun s' q h => evs_resp (KT.resp _ _ _) os _ _ (q.put o.d _) (ih _ (skO_ok h))
    rw [regX_cons] at h
    unfold evG
    split at h
    · rename_i hg
      try simp only [hg]
      exact hop s (Eqv.refl s) h
    · rename_i j want hg
      try simp only [hg]
      split at h
      · rename_i b hl
        try simp only [hl]
        have hq := (Eqv.lit hl).symm
        cases b <;> cases want
        · exact brB_f (hop _ hq h)
        · exact brB_f (hsk _ hq h)
        · exact brB_t (hsk _ hq h)
        · exact brB_t (hop _ hq h)
      · rename_i hl
        try simp only [hl]
        exact hsk s (Eqv.refl s) h
      · cases h

def bindU : Tm → List Nat → List AV → Tm
  | tm, p :: ps, x :: xs => bindU (upd' tm p x) ps xs
  | tm, _, _ => tm
theorem bindU_look : ∀ (ps : List Nat) (xs : List AV) (tm tm' : Tm), (∀ d, look tm d = look tm' d) → ∀ d, look (bindU tm ps xs) d = look (bindT tm' ps xs) d
  | [], xs, tm, tm', h, d => by cases xs <;> simpa [bindU, bindT] using h d
  | p :: ps, [], tm, tm', h, d => by simpa [bindU, bindT] using h d
  | p :: ps, x :: xs, tm, tm', h, d => by
    simp only [bindU, bindT]
    refine bindU_look ps xs _ _ (fun d => ?_) d
    rw [look_upd']
    simp only [look, h]

/-- the rounds of a loop over a function -/
noncomputable def rndB (gx gy : (Ex → St → Option AV) → St → Option AV) (bl : List Nat) (M : Nat) (tm1 : Tm) (ps : List Nat) (p ghp : List Nat) (K : Ex → St → Option AV) : List (List AV) → List Res → Nat → Bool → Option AV
  | [], sg, gk, gst => K .normal ⟨tm1, sg, ⟨ghp, gk, gst⟩⟩
  | v :: vs, sg, gk, gst => match decide (ps.length = v.length) with
    | true => gx (fun e s => match e with
      | .normal => gy (fun e s => gcK bl M s [] fun s' => match decide (s'.gh.p = p), e with
        | true, .normal => rndB gx gy bl M tm1 ps p ghp K vs s'.sg s'.gh.k s'.gh.st
        | true, e => K e ⟨tm1, s'.sg, ⟨ghp, s'.gh.k, s'.gh.st⟩⟩
        | false, _ => none) s
      | _ => none) ⟨bindU tm1 ps v, sg, ⟨p, gk, gst⟩⟩
    | false => none

def liveN : Nat → List Res → List Nat
  | _, [] => []
  | i, .fresh :: r => liveN (i + 1) r
  | i, _ :: r => i :: liveN (i + 1) r

noncomputable def gSeq (ga gb : (Ex → St → Option AV) → St → Option AV) (K : Ex → St → Option AV) (s : St) : Option AV := ga (fun e s => match e with
    | .normal => gb K s
    | .ret => K .ret s
    | .exit i => K (.exit i) s) s
noncomputable def gCond (c : Opd) (ga gb : (Ex → St → Option AV) → St → Option AV) (K : Ex → St → Option AV) (s : St) : Option AV := match evR s c with
    | some (.bool true) => ga K s
    | some (.bool false) => gb K s
    | _ => none
noncomputable def gBlk (id : Nat) (gb : (Ex → St → Option AV) → St → Option AV) (K : Ex → St → Option AV) (s : St) : Option AV := gb (fun e s => match e with
    | .exit i => match Nat.beq i id with
      | true => K .normal s
      | false => K (.exit i) s
    | .normal => K .normal s
    | .ret => K .ret s) s
noncomputable def gLp (bl : List Nat) (M : Nat) (gb gself : (Ex → St → Option AV) → St → Option AV) (K : Ex → St → Option AV) (s : St) : Option AV := gcK bl M s s.tm fun s => gb (fun e s => match e with
    | .normal => gself K s
    | .ret => K .ret s
    | .exit i => K (.exit i) s) s
noncomputable def gRn2 (bl : List Nat) (M : Nat) (gx gy : (Ex → St → Option AV) → St → Option AV) (ps : List Nat) (K : Ex → St → Option AV) (s : St) (ys : List (List AV)) (ln : List Nat) : Option AV :=
  match subN s.gh.p ln, refsLt ln s.tm with
  | true, true => rndB gx gy bl M s.tm ps ln s.gh.p K ys s.sg s.gh.k s.gh.st
  | _, _ => none
noncomputable def gRn (It : ITab) (bl : List Nat) (M : Nat) (f : Opd) (ps : List Nat) (gx gy : (Ex → St → Option AV) → St → Option AV) (K : Ex → St → Option AV) (s : St) : Option AV := gcK bl M s s.tm fun s => match evR s f with
    | some (.fn g cap) => match AV.puL cap, AV.frzL s.sg 8 cap with
      | true, some cap' => match It g cap' with
        | some ys => gRn2 bl M gx gy ps K s ys (liveN 0 s.sg)
        | none => none
      | _, _ => none
    | _ => none
noncomputable def goB (self : CI → (Ex → St → Option AV) → St → Option AV) (F : FTab) (It : ITab) (yl : YTab) (M : Nat) (c : CI) : (Ex → St → Option AV) → St → Option AV :=
  @CI.rec (fun _ => (Ex → St → Option AV) → St → Option AV) (fun K s => K .normal s) (fun ps K s => regX F yl ps s (K .normal)) (fun _ _ ga gb => gSeq ga gb) (fun c _ _ ga gb => gCond c ga gb) (fun id _ gb => gBlk id gb)
    (fun b gb => gLp b.names M gb (self (.loop b))) (fun id K s => K (.exit id) s) (fun K s => K .ret s) (fun f ps x y gx gy => gRn It (x.names ++ y.names) M f ps gx gy) c

def GoOk (E : Env) (g : (Ex → St → Option AV) → St → Option AV) (c : CI) : Prop := ∀ K s r, g K s = some r → GoC E c (fun e => KT E.ys (K e) r) s

theorem go_eqv {E : Env} {c : CI} {T : Ex → St → Prop} {s r : St} (q : Eqv s r) (h : GoC E c T s) : GoC E c T r := by
  unfold GoC at h ⊢
  exact fun X hX code nm nm' hc C a hr => h X hX code nm nm' hc C a (hr.eqv q.symm)

theorem go_KT {E : Env} {c : CI} {T : Ex → St → Prop} {K : St → Option AV} {r : AV} {s : St} (h : KT E.ys K r s) (hk : ∀ s' r', K s' = some r' → (E.ys = [] → r' = r) → GoC E c T s') : GoC E c T s := by
  obtain ⟨s', r', h1, h2, h3⟩ := h
  exact go_eqv h1 (hk s' r' h2 h3)

theorem KT.trans {ys : List (List AV)} {K : St → Option AV} {r r' : AV} {s : St} (h : KT ys K r' s) (e : ys = [] → r' = r) : KT ys K r s := by
  obtain ⟨s', r1, h1, h2, h3⟩ := h
  exact ⟨s', r1, h1, h2, fun q => (h3 q).trans (e q)⟩

theorem meets_of_eqv {s s' t : St} (q : Eqv s s') (h : MeetsE s t) : MeetsE s' t := by
  obtain ⟨π, nl, h1, h2, h3, h4, h5⟩ := h
  refine ⟨π, nl, ?_, ?_, h3, q.2.2.symm.trans h4, ?_⟩
  · have : ∀ tm, renTm s π nl (keepN nl t.sg) tm → renTm s' π nl (keepN nl t.sg) tm := by
      intro tm
      induction tm with
      | nil => exact id
      | cons p r ih => exact fun h => ⟨⟨(q.1 p.1).symm.trans h.1.1, h.1.2⟩, ih h.2⟩
    exact this _ h1
  · have : ∀ l i, renSg s π nl (keepN nl t.sg) i l → renSg s' π nl (keepN nl t.sg) i l := by
      intro l
      induction l with
      | nil => intro _; exact id
      | cons p r ih =>
        intro i h
        refine ⟨?_, ih _ h.2⟩
        have h6 := h.1
        unfold renR at h6 ⊢
        rw [← q.2.1]; exact h6
    exact this _ _ h2
  · have : ∀ l, pinB s t π nl l = true → pinB s' t π nl l = true := by
      intro l
      induction l with
      | nil => exact id
      | cons p r ih =>
        simp only [pinB]
        rw [← q.2.1]
        intro h
        split at h
        · exact ih h
        · split at h
          · exact ih h
          · cases h
    rw [← q.2.2]
    exact this _ h5

theorem rndB_ok {E : Env} {x y : CI} {gx gy : (Ex → St → Option AV) → St → Option AV} (hx : GoOk E gx x) (hy : GoOk E gy y) {bl : List Nat} {M : Nat} {tm1 : Tm} {ps p ghp : List Nat} {K : Ex → St → Option AV} {r : AV} {pf : Opd} {f : FuncId} {cap cap' : List AV} {ys : List (List AV)} {s : St}
    (hf : s.ev pf = some (.fn f cap)) (hpu : AV.puL cap = true) (hfz : AV.frzL s.sg 8 cap = some cap') (hb : bodied E.P f = true) (hit : ItA E.P f cap' ys) (hp : subN s.gh.p p = true) (htm : tm1 = s.tm) (hlt : refsLt p tm1 = true) (hgp : ghp = s.gh.p)
    (h : rndB gx gy bl M tm1 ps p ghp K ys s.sg s.gh.k s.gh.st = some r) : GoC E (.rng pf ps x y) (fun e => KT E.ys (K e) r) s := by
  subst htm hgp
  refine go_rng ys hf hpu hfz hb hit p hp s.tm s.sg (MeetsR.refl s) hlt (fun k sg gk gst => ∃ r', rndB gx gy bl M s.tm ps p s.gh.p K (ys.drop k) sg gk gst = some r' ∧ (E.ys = [] → r' = r))
    (fun e sg gk gst => KT E.ys (K e) r ⟨s.tm, sg, ⟨s.gh.p, gk, gst⟩⟩) ⟨r, by simpa using h, fun _ => rfl⟩ ?_ ?_ ?_
  · rintro k v sg gk gst hv ⟨r', h1, h2⟩
    have hd : ys.drop k = v :: ys.drop (k + 1) := by
      rw [List.drop_eq_getElem_cons (List.getElem?_eq_some_iff.1 hv).1, (List.getElem?_eq_some_iff.1 hv).2]
    rw [hd] at h1
    simp only [rndB] at h1
    split at h1
    rotate_left
    · cases h1
    rename_i hlen
    refine ⟨of_decide_eq_true hlen, go_eqv (s := ⟨bindU s.tm ps v, sg, ⟨p, gk, gst⟩⟩) ⟨bindU_look ps v s.tm s.tm (fun _ => rfl), rfl, rfl⟩ ((hx _ _ _ h1).mono fun e s1 hs1 => ?_)⟩
    cases e with
    | normal =>
      refine go_KT hs1 fun s2 r2 h3 h4 => (hy _ _ _ h3).mono fun e s3 hs3 => ?_
      obtain ⟨s4, r4, q1, q2, q3⟩ := hs3
      obtain ⟨s5, m1, m2, m3, m4⟩ := gcK_ok (.inr rfl) q2
      have hm5 := meets_of_eqv q1 m1
      cases hp5 : decide (s5.gh.p = p) with
      | false => rw [hp5] at m4; cases m4
      | true =>
        have e5 : s5 = ⟨[], s5.sg, ⟨p, s5.gh.k, s5.gh.st⟩⟩ := by
          have h6 := of_decide_eq_true hp5
          have h7 := m3 rfl
          obtain ⟨t5, g5, gh5⟩ := s5
          obtain ⟨a, b, c⟩ := gh5
          simp only at h6 h7 ⊢
          rw [h7, h6]
        rw [hp5] at m4
        cases e with
        | normal => exact ⟨s5.sg, s5.gh.k, s5.gh.st, e5 ▸ hm5, r4, m4, fun q => ((q3 q).trans (h4 q)).trans (h2 q)⟩
        | ret => exact ⟨s5.sg, s5.gh.k, s5.gh.st, e5 ▸ hm5, _, r4, Eqv.refl _, m4, fun q => ((q3 q).trans (h4 q)).trans (h2 q)⟩
        | exit i => exact ⟨s5.sg, s5.gh.k, s5.gh.st, e5 ▸ hm5, _, r4, Eqv.refl _, m4, fun q => ((q3 q).trans (h4 q)).trans (h2 q)⟩
    | ret => obtain ⟨s4, r4, q1, q2, q3⟩ := hs1; cases q2
    | exit i => obtain ⟨s4, r4, q1, q2, q3⟩ := hs1; cases q2
  · rintro sg gk gst ⟨r', h1, h2⟩
    rw [List.drop_length] at h1
    exact ⟨_, r', Eqv.refl _, h1, h2⟩
  · rintro e sg gk gst _ h1; exact h1


noncomputable def goX (F : FTab) (It : ITab) (yl : YTab) (M : Nat) (n : Nat) : CI → (Ex → St → Option AV) → St → Option AV :=
  Nat.rec (motive := fun _ => CI → (Ex → St → Option AV) → St → Option AV) (fun _ _ _ => none) (fun _ ih => goB ih F It yl M) n

theorem goB_ok {E : Env} {F : FTab} {It : ITab} {yl : YTab} (hT : TabOk E F It yl) (M : Nat) : ∀ (c : CI) (m : Nat), GoOk E (goB (goX F It yl M m) F It yl M c) c
  | .skip, m, K, s, r, h => go_skip ⟨s, r, Eqv.refl s, h, fun _ => rfl⟩
  | .reg ps, m, K, s, r, h => go_reg (regX_ok hT h)
  | .seq a b, m, K, s, r, h => go_seq ((goB_ok hT M a m _ _ _ h).mono fun e s' hs => by
    cases e with
    | normal => exact go_KT hs fun s2 r2 h2 h3 => (goB_ok hT M b m _ _ _ h2).mono fun e s3 hs3 => hs3.trans h3
    | ret => exact hs
    | exit i => exact hs)
  | .cond c a b, m, K, s, r, h0 => go_cond (by
    have h : gCond c (goB (goX F It yl M m) F It yl M a) (goB (goX F It yl M m) F It yl M b) K s = some r := h0
    clear h0
    simp only [gCond, evR_eq] at h
    split at h
    · rename_i hc
      cases c with
      | t j =>
        simp only [St.ev] at hc
        simp only [condE, hc]
        exact brB_t (go_eqv (Eqv.lit hc).symm (goB_ok hT M a m _ _ _ h))
      | c v =>
        simp only [St.ev, Option.some.injEq] at hc
        subst hc
        exact brB_t (goB_ok hT M a m _ _ _ h)
    · rename_i hc
      cases c with
      | t j =>
        simp only [St.ev] at hc
        simp only [condE, hc]
        exact brB_f (go_eqv (Eqv.lit hc).symm (goB_ok hT M b m _ _ _ h))
      | c v =>
        simp only [St.ev, Option.some.injEq] at hc
        subst hc
        exact brB_f (goB_ok hT M b m _ _ _ h)
    · cases h)
  | .block id b, m, K, s, r, h => go_block ((goB_ok hT M b m _ _ _ h).mono fun e s' hs => by
    cases e with
    | normal => exact hs
    | ret => exact hs
    | exit i =>
      simp only [blkT]
      split
      · rename_i e
        subst e
        obtain ⟨s2, r2, q1, q2, q3⟩ := hs
        simp only [show Nat.beq i i = true from by rw [Nat.beq_eq]] at q2
        exact ⟨s2, r2, q1, q2, q3⟩
      · rename_i e
        obtain ⟨s2, r2, q1, q2, q3⟩ := hs
        simp only [show Nat.beq i id = false from by
          cases hb : Nat.beq i id with
          | false => rfl
          | true => rw [Nat.beq_eq] at hb; exact absurd hb e] at q2
        exact ⟨s2, r2, q1, q2, q3⟩)
  | .exit id, m, K, s, r, h => go_exit ⟨s, r, Eqv.refl s, h, fun _ => rfl⟩
  | .ret, m, K, s, r, h => go_ret ⟨s, r, Eqv.refl s, h, fun _ => rfl⟩
  | .rng f ps x y, m, K, s, r, h => by
    have h : gRn It (x.names ++ y.names) M f ps (goB (goX F It yl M m) F It yl M x) (goB (goX F It yl M m) F It yl M y) K s = some r := h
    unfold gRn at h
    obtain ⟨s', h1, h2, h3, h4⟩ := gcK_ok (.inl rfl) h
    simp only [evR_eq] at h4
    split at h4
    · rename_i g cap hg
      split at h4
      · rename_i cap' hpu hfz
        split at h4
        · rename_i ys hys
          unfold gRn2 at h4
          split at h4
          · rename_i hp hlt
            obtain ⟨π, nl, h1⟩ := h1
            refine go_meets h1 ?_
            exact rndB_ok (goB_ok hT M x m) (goB_ok hT M y m) hg hpu hfz (hT.it _ _ _ hys).1 (hT.it _ _ _ hys).2 hp rfl hlt rfl h4
          · cases h4
        · cases h4
      · cases h4
    · cases h4
  | .loop b, m, K, s, r, h => by
    have key : ∀ s' r', goX F It yl M (m + 1) (.loop b) K s' = some r' → (E.ys = [] → r' = r) → ∀ n, n = m + 1 → GoC E (.loop b) (fun e => KT E.ys (K e) r) s' := fun s' r' h hr n hn => by
      refine go_loop (J := fun n s => ∃ s1 r1, Eqv s1 s ∧ goX F It yl M n (.loop b) K s1 = some r1 ∧ (E.ys = [] → r1 = r)) (m + 1) ⟨s', r', Eqv.refl _, h, hr⟩ ?_
      rintro n s2 ⟨s1, r1, q1, q2, q3⟩
      cases n with
      | zero => cases q2
      | succ n =>
        have q4 : gLp b.names M (goB (goX F It yl M n) F It yl M b) (goX F It yl M n (.loop b)) K s1 = some r1 := q2
        unfold gLp at q4
        obtain ⟨s3, h1, h2, h3, h4⟩ := gcK_ok (.inl rfl) q4
        obtain ⟨π, nl, h5⟩ := meets_of_eqv q1 h1
        refine go_meets h5 ((goB_ok hT M b n _ _ _ h4).mono fun e s4 hs4 => ?_)
        cases e with
        | normal =>
          obtain ⟨s5, r5, a1, a2, a3⟩ := hs4
          exact ⟨n, by omega, s5, r5, a1, a2, fun e => (a3 e).trans (q3 e)⟩
        | ret => exact hs4.trans q3
        | exit i => exact hs4.trans q3
    exact key s r h (fun _ => rfl) _ rfl


theorem goX_ok {E : Env} {F : FTab} {It : ITab} {yl : YTab} (hT : TabOk E F It yl) (M : Nat) (c : CI) : ∀ m, GoOk E (goX F It yl M m c) c
  | 0, K, s, r, h => by cases h
  | m + 1, K, s, r, h => goB_ok hT M c m K s r h

mutual
def AV.feq : AV → AV → Bool
  | .bool a, .bool b => match a, b with
    | true, true => true
    | false, false => true
    | _, _ => false
  | .int k a, .int l b => decide (k = l) && decide (a = b)
  | .str a, .str b => decide (a = b)
  | .nils, .nils => true
  | .agg as, .agg bs => AV.feqL as bs
  | .tup as, .tup bs => AV.feqL as bs
  | _, _ => false
def AV.feqL : List AV → List AV → Bool
  | [], [] => true
  | a :: as, b :: bs => a.feq b && AV.feqL as bs
  | _, _ => false
end
mutual
theorem feq_ok : ∀ (a b : AV), a.feq b = true → a = b ∧ a.flat = true
  | .bool a, b, h => by cases b <;> simp only [AV.feq] at h <;> first | (cases h; done) | skip
                        rename_i c; cases a <;> cases c <;> first | exact ⟨rfl, rfl⟩ | cases h
  | .int k n, b, h => by cases b <;> simp only [AV.feq] at h <;> first | (cases h; done) | skip
                         simp only [Bool.and_eq_true, decide_eq_true_eq] at h; exact ⟨by rw [h.1, h.2], rfl⟩
  | .str s, b, h => by cases b <;> simp only [AV.feq] at h <;> first | (cases h; done) | skip
                       exact ⟨by rw [of_decide_eq_true h], rfl⟩
  | .nils, b, h => by cases b <;> simp only [AV.feq] at h <;> first | (cases h; done) | skip
                      exact ⟨rfl, rfl⟩
  | .agg as, b, h => by cases b <;> simp only [AV.feq] at h <;> first | (cases h; done) | skip
                        obtain ⟨h1, h2⟩ := feqL_ok _ _ h; exact ⟨by rw [h1], h2⟩
  | .tup as, b, h => by cases b <;> simp only [AV.feq] at h <;> first | (cases h; done) | skip
                        obtain ⟨h1, h2⟩ := feqL_ok _ _ h; exact ⟨by rw [h1], h2⟩
  | .lit _, b, h => by simp [AV.feq] at h
  | .fn _ _, b, h => by simp [AV.feq] at h
  | .isl _, b, h => by simp [AV.feq] at h
  | .ipt _, b, h => by simp [AV.feq] at h
  | .own _ _, b, h => by simp [AV.feq] at h
  | .elt _ _ _ _, b, h => by simp [AV.feq] at h
  | .row _, b, h => by simp [AV.feq] at h
  | .yld, b, h => by simp [AV.feq] at h
  | .gone, b, h => by simp [AV.feq] at h
theorem feqL_ok : ∀ (as bs : List AV), AV.feqL as bs = true → as = bs ∧ AV.flatL as = true
  | [], [], _ => ⟨rfl, rfl⟩
  | [], _ :: _, h => by cases h
  | _ :: _, [], h => by cases h
  | a :: as, b :: bs, h => by
    simp only [AV.feqL, Bool.and_eq_true] at h
    obtain ⟨h1, h2⟩ := feq_ok a b h.1
    obtain ⟨h3, h4⟩ := feqL_ok as bs h.2
    exact ⟨by rw [h1, h3], by simp only [AV.flatL, h2, h4, Bool.and_self]⟩
end

/-- a function, as it is read -/
abbrev FE := Nat × Nat × CI × List RIO

def retX (rs : List RIO) (s : St) : Option AV := match resL s rs with
  | some vs => match AV.frzL s.sg 8 vs with
    | some [v] => some v
    | some vs => some (.tup vs)
    | none => none
  | none => none
def startX (M : Nat) (args : List AV) : St := ⟨argsTm 0 args, freshL (2 * M + 2), ⟨[], 0, false⟩⟩
def finX (rs : List RIO) : Ex → St → Option AV
  | .exit _, _ => none
  | .normal, s => retX rs s
  | .ret, s => retX rs s
def ylN : YTab := fun _ _ _ => none
/-- the values are collected -/
def ylC : YTab := fun gh args k => match k ⟨gh.p, gh.k + 1, false⟩ (.bool true) with
  | some (.tup l) => some (.tup (.tup args :: l))
  | _ => none
/-- they are held against what was collected, on both ways -/
def ylY (ys : List (List AV)) : YTab := fun gh args k => match gh.st, ys[gh.k]? with
  | false, some a => match AV.feqL args a with
    | true => match k ⟨gh.p, gh.k + 1, true⟩ (.bool false) with
      | some _ => k ⟨gh.p, gh.k + 1, false⟩ (.bool true)
      | none => none
    | false => none
  | _, _ => none
def untup : AV → List AV
  | .tup l => l
  | _ => []
def finY (n : Nat) : Ex → St → Option AV
  | .exit _, _ => none
  | .normal, s => match s.gh.st || s.gh.k == n with
    | true => some (.tup [])
    | false => none
  | .ret, s => match s.gh.st || s.gh.k == n with
    | true => some (.tup [])
    | false => none

noncomputable def fnB (tbl : FuncId → Option FE) (sp : FTab) (L : Nat) (ih : FTab × ITab) (f : FuncId) (args : List AV) : Option AV :=
  match sp f args with
  | some r => some r
  | none => match tbl f with
  | some (N, M, ci, rs) => match decide (args.length ≤ N) with
    | true => goX ih.1 ih.2 ylN M L ci (finX rs) (startX M args)
    | false => none
  | none => none
noncomputable def itB (tbl : FuncId → Option FE) (L : Nat) (ih : FTab × ITab) (f : FuncId) (cap : List AV) : Option (List (List AV)) :=
  match tbl f with
  | some (N, M, ci, []) => match decide (cap.length + 1 ≤ N) with
    | true => match goX ih.1 ih.2 ylC M L ci (fun _ _ => some (.tup [])) (startX M (.yld :: cap)) with
      | some (.tup l) => match goX ih.1 ih.2 (ylY (l.map untup)) M L ci (finY l.length) (startX M (.yld :: cap)) with
        | some _ => some (l.map untup)
        | none => none
      | _ => none
    | false => none
  | _ => none
/-- so deep; what is known of some calls is taken as it is -/
noncomputable def tabX (tbl : FuncId → Option FE) (sp : FTab) (L : Nat) (n : Nat) : FTab × ITab :=
  Nat.rec (motive := fun _ => FTab × ITab) (fun _ _ => none, fun _ _ => none) (fun _ ih => (fnB tbl sp L ih, itB tbl L ih)) n

theorem resV_eqv {s s' : St} (q : Eqv s s') : ∀ r, resV s r = resV s' r := fun r => by
  cases r with
  | t i => exact q.1 i
  | cell a ag n => simp only [resV, q.1 a, q.2.1]
theorem resL_eqv {s s' : St} (q : Eqv s s') : ∀ rs, resL s rs = resL s' rs
  | [] => rfl
  | r :: rs => by simp only [resL, resV_eqv q r, resL_eqv q rs]

theorem tabX_ok {P : Program} {tbl : FuncId → Option FE} (hP : ∀ f N M ci rs, tbl f = some (N, M, ci, rs) → FnOk P f N M ci rs ∧ bodied P f = true) {sp : FTab} (hS : ∀ f args r, sp f args = some r → bodied P f = true ∧ FnA P f args (· = r)) (L : Nat) :
    ∀ n, (∀ f args r, (tabX tbl sp L n).1 f args = some r → bodied P f = true ∧ FnA P f args (· = r)) ∧ (∀ f cap ys, (tabX tbl sp L n).2 f cap = some ys → bodied P f = true ∧ ItA P f cap ys)
  | 0 => ⟨(fun f args r h => by cases h), (fun f cap ys h => by cases h)⟩
  | n + 1 => by
    obtain ⟨ih1, ih2⟩ := tabX_ok hP hS L n
    refine ⟨fun f args r h => ?_, fun f cap ys h => ?_⟩
    · have h' : fnB tbl sp L (tabX tbl sp L n) f args = some r := h
      unfold fnB at h'
      split at h'
      · rename_i r' hr'
        cases h'; exact hS _ _ _ hr'
      split at h'
      · rename_i N M ci rs htb
        split at h'
        · rename_i hN
          obtain ⟨hok, hbd⟩ := hP _ _ _ _ _ htb
          have hT : TabOk ⟨P, N, []⟩ (tabX tbl sp L n).1 (tabX tbl sp L n).2 ylN := ⟨ih1, ih2, fun gh args k r h => by cases h⟩
          have hg := goX_ok hT M ci L _ _ _ h'
          refine ⟨hbd, fnA_of_go hok (2 * M + 2) (of_decide_eq_true hN) ?_⟩
          rw [show start (2 * M + 2) args = startX M args from by simp only [start, startX, freshL_eq]]
          refine hg.mono fun e s hs => ?_
          obtain ⟨s', r', q1, q2, q3⟩ := hs
          have q3 := q3 rfl
          subst q3
          have fin : retX rs s' = some r' → retK rs (· = r') s := fun hr => by
            unfold retX at hr
            unfold retK
            rw [← resL_eqv q1 rs, ← q1.2.1]
            split at hr
            · rename_i vs h1
              try simp only [h1]
              split at hr
              · rename_i h2; cases hr; simp only [h2]
              · rename_i vs' hne h2
                cases hr
                simp only [h2]
              · cases hr
            · cases hr
          cases e with
          | exit i => cases q2
          | normal => exact fin q2
          | ret => exact fin q2
        · cases h'
      · cases h'
    · have h' : itB tbl L (tabX tbl sp L n) f cap = some ys := h
      unfold itB at h'
      split at h'
      · rename_i N M ci htb
        split at h'
        · rename_i hN
          split at h'
          · rename_i l hl
            split at h'
            · rename_i r hr
              cases h'
              obtain ⟨hok, hbd⟩ := hP _ _ _ _ _ htb
              have hT : TabOk ⟨P, N, l.map untup⟩ (tabX tbl sp L n).1 (tabX tbl sp L n).2 (ylY (l.map untup)) := ⟨ih1, ih2, fun gh args k r h => by
                unfold ylY at h
                split at h
                · rename_i a h1 h2
                  split at h
                  · rename_i h3
                    obtain ⟨h4, h5⟩ := feqL_ok _ _ h3
                    subst h4
                    split at h
                    · rename_i r' h6
                      have hne : (l.map untup) ≠ [] := fun e => by rw [e] at h2; simp at h2
                      exact ⟨h1, h2, h5, ⟨r, h, fun e => absurd e hne⟩, ⟨r', h6, fun e => absurd e hne⟩⟩
                    · cases h
                  · cases h
                · cases h⟩
              have hg := goX_ok hT M ci L _ _ _ hr
              refine ⟨hbd, itA_of_go hok (2 * M + 2) (of_decide_eq_true hN) ?_⟩
              rw [show start (2 * M + 2) (.yld :: cap) = startX M (.yld :: cap) from by simp only [start, startX, freshL_eq]]
              refine hg.mono fun e s hs => ?_
              obtain ⟨s', r', q1, q2, q3⟩ := hs
              have fin : (match s'.gh.st || s'.gh.k == l.length with | true => some (AV.tup []) | false => none) = some r' → s.gh.st = true ∨ s.gh.k = (l.map untup).length := fun hr => by
                rw [← q1.2.2]
                split at hr
                · rename_i hb
                  simp only [Bool.or_eq_true, beq_iff_eq] at hb
                  simpa using hb
                · cases hr
              cases e with
              | exit i => cases q2
              | normal => exact fin q2
              | ret => exact fin q2
            · cases h'
          · cases h'
        · cases h'
      · cases h'

def lookF : List (Nat × FE) → FuncId → Option FE
  | [], _ => none
  | (g, e) :: l, f => match decide (g = f) with
    | true => some e
    | false => lookF l f
def TblOk (P : Program) : List (Nat × FE) → Prop
  | [] => True
  | (f, N, M, ci, rs) :: l => (FnOk P f N M ci rs ∧ bodied P f = true) ∧ TblOk P l
theorem lookF_ok {P : Program} : ∀ {l : List (Nat × FE)}, TblOk P l → ∀ f N M ci rs, lookF l f = some (N, M, ci, rs) → FnOk P f N M ci rs ∧ bodied P f = true
  | [], _, f, N, M, ci, rs, h => by cases h
  | (g, N', M', ci', rs') :: l, hl, f, N, M, ci, rs, h => by
    simp only [lookF] at h
    split at h
    · rename_i e
      have e := of_decide_eq_true e
      cases h; subst e; exact hl.1
    · exact lookF_ok hl.2 f N M ci rs h

def noS : FTab := fun _ _ => none
theorem noS_ok {P : Program} : ∀ f args r, noS f args = some r → bodied P f = true ∧ FnA P f args (· = r) := fun f args r h => by cases h
/-- **A CALL IS RUN.** -/
theorem fnA_run {P : Program} {tbl : FuncId → Option FE} (hP : ∀ f N M ci rs, tbl f = some (N, M, ci, rs) → FnOk P f N M ci rs ∧ bodied P f = true) {sp : FTab} (hS : ∀ f args r, sp f args = some r → bodied P f = true ∧ FnA P f args (· = r)) (L n : Nat) {f : FuncId} {args : List AV} {r : AV} (h : (tabX tbl sp L n).1 f args = some r) : FnA P f args (· = r) :=
  ((tabX_ok hP hS L n).1 f args r h).2
theorem itA_run {P : Program} {tbl : FuncId → Option FE} (hP : ∀ f N M ci rs, tbl f = some (N, M, ci, rs) → FnOk P f N M ci rs ∧ bodied P f = true) {sp : FTab} (hS : ∀ f args r, sp f args = some r → bodied P f = true ∧ FnA P f args (· = r)) (L n : Nat) {f : FuncId} {cap : List AV} {ys : List (List AV)} (h : (tabX tbl sp L n).2 f cap = some ys) : ItA P f cap ys :=
  ((tabX_ok hP hS L n).2 f cap ys h).2


/-! ### A function whose result holds rows that are the caller's from then on -/
mutual
/-- the rows that a value holds openly -/
def AV.rws (sg : List Res) : AV → List (Nat × Res)
  | .row i => match sg.getD i .fresh with
    | .row false el sz es => [(i, .row false el sz es)]
    | _ => []
  | .agg cs => AV.rwsL sg cs
  | .tup cs => AV.rwsL sg cs
  | _ => []
def AV.rwsL (sg : List Res) : List AV → List (Nat × Res)
  | [] => []
  | a :: as => a.rws sg ++ AV.rwsL sg as
end
def nodupF : List Nat → Bool
  | [] => true
  | i :: l => !memN l i && nodupF l
def deadR : List (Nat × Res) → List (Nat × Res)
  | [] => []
  | (i, _) :: l => (i, .dead) :: deadR l
def AV.frzo (sg : List Res) (ns : List Nat) : Nat → AV → Option AV
  | 0, _ => none
  | n + 1, v => match v with
    | .row i => match memN ns i with
      | true => some (.row i)
      | false => AV.frz sg 8 (.row i)
    | .agg cs => match mapO (AV.frzo sg ns n) cs with
      | some ds => some (.agg ds)
      | none => none
    | .tup cs => match mapO (AV.frzo sg ns n) cs with
      | some ds => some (.tup ds)
      | none => none
    | v => AV.frz sg 8 v
def oneV : List AV → AV
  | [v] => v
  | l => .tup l
def retO1 (sg : List Res) (R : AV → List (Nat × Res) → Prop) (v : AV) (rows : List (Nat × Res)) : Prop :=
  match nodupF (fstN rows) with
  | true => match AV.frzo (setL sg (deadR rows)) (fstN rows) 8 v with
    | some r => match r.oOk (fstN rows) with
      | true => R r rows
      | false => False
    | none => False
  | false => False
def retO (rs : List RIO) (R : AV → List (Nat × Res) → Prop) (tm : Tm) (sg : List Res) : Prop :=
  resLK tm sg rs fun vs => retO1 sg R (oneV vs) ((oneV vs).rws sg)
def finO (rs : List RIO) (R : AV → List (Nat × Res) → Prop) (e : Ex) (tm : Tm) (sg : List Res) (gh : Gh) : Prop :=
  match e with
  | .exit _ => False
  | .normal => retO rs R tm sg
  | .ret => retO rs R tm sg

mutual
theorem rws_ok {sg : List Res} : ∀ (v : AV), ∀ p ∈ v.rws sg, sg.getD p.1 .fresh = p.2 ∧ ∃ el sz es, p.2 = .row false el sz es
  | .row i, p, hp => by
    simp only [AV.rws] at hp
    split at hp
    · rename_i el sz es h
      simp only [List.mem_singleton] at hp; subst hp
      exact ⟨h, _, _, _, rfl⟩
    · cases hp
  | .agg cs, p, hp => by simp only [AV.rws] at hp; exact rwsL_ok cs p hp
  | .tup cs, p, hp => by simp only [AV.rws] at hp; exact rwsL_ok cs p hp
  | .bool _, p, hp => by simp [AV.rws] at hp
  | .int _ _, p, hp => by simp [AV.rws] at hp
  | .str _, p, hp => by simp [AV.rws] at hp
  | .lit _, p, hp => by simp [AV.rws] at hp
  | .isl _, p, hp => by simp [AV.rws] at hp
  | .nils, p, hp => by simp [AV.rws] at hp
  | .ipt _, p, hp => by simp [AV.rws] at hp
  | .fn _ _, p, hp => by simp [AV.rws] at hp
  | .own _ _, p, hp => by simp [AV.rws] at hp
  | .elt _ _ _ _, p, hp => by simp [AV.rws] at hp
  | .yld, p, hp => by simp [AV.rws] at hp
  | .gone, p, hp => by simp [AV.rws] at hp
theorem rwsL_ok {sg : List Res} : ∀ (vs : List AV), ∀ p ∈ AV.rwsL sg vs, sg.getD p.1 .fresh = p.2 ∧ ∃ el sz es, p.2 = .row false el sz es
  | [], p, hp => by simp [AV.rwsL] at hp
  | a :: as, p, hp => by
    simp only [AV.rwsL, List.mem_append] at hp
    rcases hp with hp | hp
    · exact rws_ok a p hp
    · exact rwsL_ok as p hp
end

theorem fstN_mem {l : List (Nat × Res)} {i : Nat} : i ∈ fstN l ↔ ∃ p ∈ l, p.1 = i := by
  induction l with
  | nil => simp [fstN]
  | cons p l ih => obtain ⟨j, r⟩ := p; simp only [fstN, List.mem_cons, ih]; constructor
                   · rintro (rfl | ⟨p, h1, h2⟩)
                     · exact ⟨(i, r), .inl rfl, rfl⟩
                     · exact ⟨p, .inr h1, h2⟩
                   · rintro ⟨p, rfl | h1, h2⟩
                     · exact .inl h2.symm
                     · exact .inr ⟨p, h1, h2⟩

theorem Rel.kills {X : Sess} {C : Ctx} {a : Act} : ∀ (rows : List (Nat × Res)) {s : St}, Rel X C s a → (∀ p ∈ rows, s.sg.getD p.1 .fresh = p.2 ∧ ∃ el sz es, p.2 = .row false el sz es) → nodupF (fstN rows) = true →
    Rel X C { s with sg := setL s.sg (deadR rows) } a ∧ ∀ j, ((setL s.sg (deadR rows)).getD j .fresh).blk (C.rho j) = if j ∈ fstN rows then none else (s.sg.getD j .fresh).blk (C.rho j)
  | [], s, h, _, _ => ⟨h, fun j => by simp [fstN, deadR, setL]⟩
  | (i, r) :: l, s, h, hr, hn => by
    obtain ⟨h1, el, sz, es, h2⟩ := hr (i, r) (by simp)
    simp only at h1 h2
    subst h2
    simp only [fstN, nodupF, Bool.and_eq_true, Bool.not_eq_true'] at hn
    obtain ⟨k1, k2⟩ := h.kill h1
    have hi : i < s.sg.length := getD_lt (by rw [h1]; simp)
    have hne : ∀ p ∈ l, p.1 ≠ i := fun p hp e => by
      have : i ∈ fstN l := fstN_mem.2 ⟨p, hp, e⟩
      rw [← memN_iff] at this; rw [this] at hn; simp at hn
    obtain ⟨m1, m2⟩ := Rel.kills l k1 (fun p hp => by
      obtain ⟨q1, q2⟩ := hr p (by simp [hp])
      refine ⟨?_, q2⟩
      simp only
      rw [getD_set _ _ _ _ _ hi, if_neg (hne p hp)]
      exact q1) hn.2
    refine ⟨m1, fun j => ?_⟩
    have := m2 j
    simp only [deadR, setL]
    rw [this, k2 j]
    by_cases hj : j = i
    · subst hj; simp [fstN]
    · simp [fstN, hj]

theorem frzo_ok {X : Sess} {C C1 : Ctx} {s : St} {a : Act} (h : Rel X C s a) (hi : C1.imm = immAll C s) (hw : C1.w = C.w) (hr : C1.rho = C.rho) {ns : List Nat} : ∀ (n : Nat) (v : AV) (x : Value) (v' : AV), AV.frzo s.sg ns n v = some v' → RV C v x → RV C1 v' x := by
  have leaf : ∀ (v : AV) (x : Value) (v' : AV), AV.frz s.sg 8 v = some v' → RV C v x → RV C1 v' x := fun v x v' h1 h2 => by
    have := frz_ok h 8 v x v' h1 h2
    rw [← hi, ← hw] at this
    exact RV0.rv v' x this
  have lst : ∀ {f : AV → Option AV}, (∀ v x v', f v = some v' → RV C v x → RV C1 v' x) → ∀ (as : List AV) (vs : List Value) (as' : List AV), mapO f as = some as' → RVs C as vs → RVs C1 as' vs := by
    intro f hf as
    induction as with
    | nil => intro vs as' hm hv; simp only [mapO, Option.some.injEq] at hm; subst hm; simpa [RVs] using hv
    | cons a as ih =>
      intro vs as' hm hv
      simp only [mapO] at hm
      split at hm
      · rename_i d ds h1 h2
        cases hm
        simp only [RVs] at hv ⊢; obtain ⟨v, vs', rfl, h3, h4⟩ := hv
        exact ⟨v, vs', rfl, hf _ _ _ h1 h3, ih vs' ds h2 h4⟩
      · cases hm
  intro n
  induction n with
  | zero => intro v x v' hv; simp [AV.frzo] at hv
  | succ n ih =>
    intro v x v' hv hx
    cases v with
    | row i =>
      simp only [AV.frzo] at hv
      split at hv
      · cases hv
        simp only [RV] at hx ⊢
        rw [hr]; exact hx
      · exact leaf _ _ _ hv hx
    | agg cs =>
      simp only [AV.frzo] at hv
      split at hv <;> cases hv
      rename_i ds hm
      simp only [RV] at hx ⊢
      obtain ⟨vs, rfl, hx⟩ := hx
      exact ⟨vs, rfl, lst ih cs vs ds hm hx⟩
    | tup cs =>
      simp only [AV.frzo] at hv
      split at hv <;> cases hv
      rename_i ds hm
      simp only [RV] at hx ⊢
      obtain ⟨vs, rfl, hx⟩ := hx
      exact ⟨vs, rfl, lst ih cs vs ds hm hx⟩
    | _ => simp only [AV.frzo] at hv; exact leaf _ _ _ hv hx

theorem oneV_rv {C : Ctx} : ∀ {vs : List AV} {xs : List Value}, RVs C vs xs → RV C (oneV vs) (if h : xs.toArray.size = 1 then xs.toArray[0] else .tuple xs.toArray)
  | [], xs, h => by simp only [RVs] at h; subst h; simp [oneV, RV, RVs]
  | [v], xs, h => by
    simp only [RVs] at h
    obtain ⟨x, _, rfl, h1, rfl⟩ := h
    simpa [oneV] using h1
  | v :: u :: vs, xs, h => by
    have h0 := h
    simp only [RVs] at h
    obtain ⟨x, _, rfl, h1, y, ys, rfl, h2, h3⟩ := h
    rw [dif_neg (by simp)]
    simp only [oneV, RV]
    exact ⟨_, rfl, h0⟩

theorem own_rows {X : Sess} {C : Ctx} {s s' : St} {a : Act} (hr : Rel X C s a) {w' : World} {B : Nat} (hB : ∀ b, C.T b → B ≤ b) (hsz : w'.heap.size = C.w.heap.size) (hcells : ∀ (k : Nat) (o : Obj), C.w.heap[k]? = some o → isMem o = true → w'.heap[k]? = some o) {ns : List Nat}
    (hblk : ∀ j, (s'.sg.getD j .fresh).blk (C.rho j) = if j ∈ ns then none else (s.sg.getD j .fresh).blk (C.rho j)) : ∀ (rows : List (Nat × Res)), (∀ p ∈ rows, s.sg.getD p.1 .fresh = p.2 ∧ ∃ el sz es, p.2 = .row false el sz es) → (∀ i ∈ fstN rows, i ∈ ns) → nodupF (fstN rows) = true → OwnRows B (immAll C s') w' C.rho rows
  | [], _, _, _ => trivial
  | (i, r) :: l, h, hs, hn => by
    obtain ⟨h1, el, sz, es, h2⟩ := h (i, r) (by simp)
    simp only at h1 h2
    subst h2
    simp only [fstN, nodupF, Bool.and_eq_true, Bool.not_eq_true'] at hn
    have hsi := hr.sg i
    rw [h1] at hsi
    obtain ⟨b, v, xs, k1, k2, k3, k4, k5⟩ := hsi
    have hbi : ∀ b', v.ownBlock = some b' → (s.sg.getD i .fresh).blk (C.rho i) = some b' := fun b' e => by rw [h1, k1]; exact e
    refine ⟨⟨el, sz, es, ⟨b, v⟩, xs, rfl, k1, ?_, ?_, k4, fun b' e => ?_, fun p hp o' ho' b' e1 e2 => ?_⟩, own_rows hr hB hsz hcells hblk l (fun p hp => h p (by simp [hp])) (fun j hj => hs j (by simp [fstN, hj])) hn.2⟩
    · refine ⟨k2.1, ?_⟩
      rcases k2.2 with k2 | ⟨g, cap, cur, e, k6, k7, k8⟩
      · exact .inl k2
      · exact .inr ⟨g, cap, cur, e, k6, hcells _ _ k7 rfl, k8⟩
    · refine RV0s.mono (fun b' hb' => ⟨.inl hb', ?_⟩) _ _ k3
      obtain ⟨o, hh, ho⟩ := (hr.imm b' hb').2
      rw [hh]; exact hcells _ _ hh ho
    · obtain ⟨eb, m1, _, m2⟩ := k5 b' e
      subst eb
      refine ⟨hB b' m1, by rw [hsz]; exact hr.T b' m1, ?_⟩
      rintro (hi | ⟨j, hj⟩)
      · exact m2 rfl hi
      · rw [hblk] at hj
        split at hj
        · cases hj
        · rename_i hnj
          exact hnj (hr.dis j i b' hj (hbi b' e) ▸ hs i (by simp [fstN]))
    · obtain ⟨q1, el', sz', es', q2⟩ := h p (by simp [hp])
      have : (s.sg.getD p.1 .fresh).blk (C.rho p.1) = some b' := by rw [q1, q2, ho']; exact e2
      have e3 := hr.dis i p.1 b' (hbi b' e1) this
      have : i ∈ fstN l := fstN_mem.2 ⟨p, hp, e3.symm⟩
      rw [← memN_iff] at this
      rw [this] at hn; simp at hn

theorem fnO {P : Program} {f : FuncId} {N M : Nat} {ci : CI} {rs : List RIO} {args : List AV} {R : AV → List (Nat × Res) → Prop} (m : Nat) (hok : FnOk P f N M ci rs) (hN : args.length ≤ N) (h0 : goP ⟨P, N, []⟩ ci (finO rs R) (argsTm 0 args) (freshL m) ⟨[], 0, false⟩) : FnO P f args R := by
  rw [freshL_eq] at h0
  have h := goP_ok h0
  unfold GoC at h
  obtain ⟨fn, c, h1, h2, h3, h4, h5⟩ := hok.ok
  intro imm w vs himm hargs
  let X : Sess := { P := P, F := Fence.wide, n := 5, N := N, imm0 := imm, lo := w.heap.size, pin := fun _ => none, l := 0, Keep := fun T S k st w' => (k = 0 ∧ st = false ∧ ∀ b, ¬ S b) ∧ Below w.heap.size w w' ∧ ∀ b, T b → w.heap.size ≤ b }
  have hX : SessOk X ⟨P, N, []⟩ := ⟨fun f => trivial, .inl rfl,
    fun T S k st w1 w2 hk hg => ⟨hk.1, hk.2.1.trans (hg.mono hk.2.1.size), fun b hb => hb.elim (hk.2.2 b) fun hb => Nat.le_trans hk.2.1.size hb.1⟩,
    fun T S k st w1 w2 b hk hT _ hg => ⟨hk.1, ⟨hg.os.trans hk.2.1.os, hg.tape.trans hk.2.1.tape, hg.output.trans hk.2.1.output, by rw [hg.size]; exact hk.2.1.size, fun k hkb => (hg.other k (fun e => by have := hk.2.2 b hT; omega)).trans (hk.2.1.block k hkb)⟩, hk.2.2⟩,
    fun T S k st w1 b r r' hk hT hlo _ => ⟨hk.1, ⟨hk.2.1.os, hk.2.1.tape, hk.2.1.output, by simp only [World.putObj, Array.size_setIfInBounds]; exact hk.2.1.size, fun j hj => (World.putObj_heap_other (fun e => by have := hk.2.2 b hT; omega)).trans (hk.2.1.block j hj)⟩, hk.2.2⟩,
    fun T S k st w1 w2 hk _ hr => ⟨hk.1, ⟨hr.os.trans hk.2.1.os, hr.tape.trans hk.2.1.tape, hr.output.trans hk.2.1.output, Nat.le_trans hk.2.1.size hr.size, fun j hj => (hr.same j (Nat.lt_of_lt_of_le hj hk.2.1.size) (.inl hj)).trans (hk.2.1.block j hj)⟩, hk.2.2⟩,
    fun T S k st w1 hk => hk.2.1.size, fun T S k st w1 hk b hb => absurd hb (hk.1.2.2 b), fun T S k w1 us xs _ _ hys _ => by simp at hys, rfl, rfl⟩
  have hvl : vs.length = args.length := hargs.length
  have hrel : Rel X ⟨imm, fun _ => False, fun _ => none, w, ⟨0, fun _ => False⟩⟩ (start m args) { tmps := vs.toArray ++ Array.replicate (fn.ntmps - vs.toArray.size) undef, defers := [] } := by
    refine ⟨?_, fun d v hv => ?_, fun i => ?_, fun i j b hi => ?_, fun b hb => ⟨.inl hb, himm b hb⟩, fun b hb => hb, fun b hb => hb.elim, ⟨⟨rfl, rfl, fun _ hb => hb⟩, Below.refl _ _, fun b hb => hb.elim⟩, ⟨[], rfl, List.nodup_nil, fun D hD => by cases hD⟩, (fun l hl => by cases hl), fun i o hi => (by simp [start] at hi), rfl⟩
    · show (vs.toArray ++ Array.replicate (fn.ntmps - vs.toArray.size) undef).size = N
      simp only [Array.size_append, List.size_toArray, Array.size_replicate]
      omega
    · obtain ⟨_, hd⟩ := argsTm_look hv
      simp only [Nat.sub_zero] at hd
      have hrvs : RVs ⟨imm, fun _ => False, fun _ => none, w, ⟨0, fun _ => False⟩⟩ args vs := RV0s.rv args vs hargs
      obtain ⟨x, hx, hvx⟩ := hrvs.get hd
      have hlt := (List.getElem?_eq_some_iff.1 hx).1
      have : (vs.toArray ++ Array.replicate (fn.ntmps - vs.toArray.size) undef).getD d undef = x := by
        rw [Array.getD_eq_getD_getElem?, Array.getElem?_append_left (by simpa using hlt)]
        simp [hx]
      rw [this]; exact hvx
    · have : (start m args).sg.getD i .fresh = .fresh := by
        simp only [start, List.getD_eq_getElem?_getD, List.getElem?_replicate]
        split <;> rfl
      rw [this]; rfl
    · have : (start m args).sg.getD i .fresh = .fresh := by
        simp only [start, List.getD_eq_getElem?_getD, List.getElem?_replicate]
        split <;> rfl
      rw [this] at hi; cases hi
  refine (callsIn_wide (n := 5)).1 (callsIn_of_wp_marks h1 h2 trivial (wpIn_mono (h X hX c 0 M h4 _ _ hrel) fun e a w1 hq => ?_))
  have fin : ∀ (C : Ctx) (s : St), C.w = w1 → Rel X C s a → retO rs R s.tm s.sg → LeavesInM Fence.wide 5 P fn a.tmps (fun e w' => ∃ v r rows imm' os, e = .returned v ∧ R r rows ∧ RV ⟨imm', fun _ => False, os, w', ⟨0, fun _ => False⟩⟩ r v ∧ r.oOk (fstN rows) = true ∧ OwnRows w.heap.size imm' w' os rows ∧ Below w.heap.size w w' ∧ (∀ b, imm b → imm' b) ∧
      (∀ b, imm' b → imm b ∨ (w.heap.size ≤ b ∧ Mem w' b))) a.defers .returning w1 := fun C s hCw hr hret => by
    subst hCw
    obtain ⟨ds, hd1, hd2, hd3⟩ := hr.marks
    rw [hd1]
    refine leave_marks (B := C.T) ds C.w hd2 hd3 fun w' hw' => ?_
    simp only [LeavesInM, LeavesIn]
    unfold retO at hret
    obtain ⟨us, hus, hret⟩ := resLK_ok (gh := s.gh) hret
    obtain ⟨xs, k1, k2⟩ := resL_run hr hw' fn.results.toList rs us h5 hus
    have hrun : (results fn a.tmps).run P w' = .ok (if h : xs.toArray.size = 1 then xs.toArray[0] else .tuple xs.toArray) w' := by
      rw [results_eq, Array.mapM_eq_mapM_toList]
      have k1' : (fn.results.toList.mapM (resF a.tmps)).run P w' = .ok xs w' := k1
      simp only [Sem.run_bind, Sem.run_map, k1', Result.andThen_ok, Sem.run_pure]
    refine ⟨_, hrun, ?_⟩
    have k3 := oneV_rv k2
    generalize hrows : (oneV us).rws s.sg = rows at hret
    have hrw := rws_ok (sg := s.sg) (oneV us)
    rw [hrows] at hrw
    unfold retO1 at hret
    split at hret
    · rename_i hnd
      split at hret
      · rename_i r hfz
        split at hret
        · rename_i hoo
          obtain ⟨hk, hblk⟩ := hr.kills rows hrw hnd
          have k4 := frzo_ok (C1 := ⟨immAll C { s with sg := setL s.sg (deadR rows) }, fun _ => False, C.rho, C.w, ⟨0, fun _ => False⟩⟩) hk rfl rfl rfl 8 _ _ _ hfz k3
          have hpers : Pers (immAll C { s with sg := setL s.sg (deadR rows) }) (immAll C { s with sg := setL s.sg (deadR rows) }) C.w w' := fun b hb => by
            obtain ⟨o', hh, ho'⟩ := immAll_cells hk b hb
            exact ⟨hb, (hw'.mem b _ hh ho').trans hh.symm⟩
          have hl : Later (fun _ => true) ⟨immAll C { s with sg := setL s.sg (deadR rows) }, fun _ => False, C.rho, C.w, ⟨0, fun _ => False⟩⟩ ⟨immAll C { s with sg := setL s.sg (deadR rows) }, fun _ => False, C.rho, w', ⟨0, fun _ => False⟩⟩ := ⟨hpers, fun _ _ => rfl, rfl⟩
          have hb : Below w.heap.size w w' := hr.keep.2.1.trans ⟨hw'.os, hw'.tape, hw'.output, by rw [hw'.size]; exact Nat.le_refl _, fun k hk => hw'.other k (fun hT => by have := hr.keep.2.2 k hT; omega)⟩
          refine ⟨_, r, rows, immAll C { s with sg := setL s.sg (deadR rows) }, C.rho, rfl, hret, RV.later hl _ _ (AV.refsIn_all (fun _ => rfl) _) k4, hoo, own_rows hr (fun b hb => hr.keep.2.2 b hb) hw'.size hw'.mem hblk rows hrw (fun _ h => h) hnd, hb, fun b hb => .inl (hr.imm0 b hb), fun b hb => ?_⟩
          obtain ⟨o', hh, ho'⟩ := immAll_cells hk b hb
          have hh' : Mem w' b := ⟨_, hw'.mem b _ hh ho', ho'⟩
          rcases hb with hb | ⟨i, hb⟩
          · rcases (hk.imm b hb).1 with h6 | h6
            · exact .inl h6
            · exact .inr ⟨hr.keep.2.2 b h6, hh'⟩
          · exact .inr ⟨hr.keep.2.2 b (Res.blk_lt (hk.sg i) hb).1, hh'⟩
        · exact hret.elim
      · exact hret.elim
    · exact hret.elim
  cases e with
  | normal => obtain ⟨C, s, e1, hr, hret⟩ := hq; exact fin C s e1 hr hret
  | ret => obtain ⟨C, s, e1, hr, hret⟩ := hq; exact fin C s e1 hr hret
  | exit id => obtain ⟨C, s, e1, hr, hret⟩ := hq; exact hret.elim
  | goto l => exact hq.elim
  | panic ch => exact hq.elim
  | outgrown => exact hq.elim

/-- **A LOOP OVER A FUNCTION, INSIDE AN ITERATOR**: what its body yields counts. -/
theorem rng_y {E : Env} {T : Ex → St → Prop} {tm0 : Tm} {sg0 : List Res} {gh : Gh} {pf : Opd} {ps : List Nat} {x y : CI} {f : FuncId} {cap cap' : List AV} {α : Type} (ys : List (List AV)) (p : List Nat) (tm1 : Tm) (sg : α → List Res) (gk : α → Nat) (gst : α → Bool) (inv : Nat → α → Prop) (x0 : α)
    (hf : ev tm0 pf = some (.fn f cap)) (hpu : AV.puL cap = true) (hfz : AV.frzL sg0 8 cap = some cap') (hb : bodied E.P f = true) (hit : ItA E.P f cap' ys) (hp : subN gh.p p = true)
    (hm : MeetsE ⟨tm0, sg0, gh⟩ ⟨tm1, sg x0, gh⟩) (hlt : refsLt p tm1 = true) (hg0 : gk x0 = gh.k ∧ gst x0 = gh.st) (h0 : inv 0 x0) (hl : ∀ v ∈ ys, ps.length = v.length)
    (hr : ∀ k v z, ys[k]? = some v → inv k z → goP E x (fun e tm' sg' gh' => match e with
      | .normal => goP E y (fun e tm' sg' gh' => match e with
        | .normal => ∃ u, MeetsE ⟨tm', sg', gh'⟩ ⟨[], sg u, ⟨p, gk u, gst u⟩⟩ ∧ inv (k + 1) u
        | .ret => ∃ sg'' g s, MeetsE ⟨tm', sg', gh'⟩ ⟨[], sg'', ⟨p, g, s⟩⟩ ∧ T .ret ⟨tm1, sg'', ⟨gh.p, g, s⟩⟩
        | .exit i => ∃ sg'' g s, MeetsE ⟨tm', sg', gh'⟩ ⟨[], sg'', ⟨p, g, s⟩⟩ ∧ T (.exit i) ⟨tm1, sg'', ⟨gh.p, g, s⟩⟩) tm' sg' gh'
      | .ret => False
      | .exit _ => False) (bindT tm1 ps v) (sg z) ⟨p, gk z, gst z⟩)
    (hend : ∀ z, inv ys.length z → T .normal ⟨tm1, sg z, ⟨gh.p, gk z, gst z⟩⟩) : RngQ E pf ps x y T ⟨tm0, sg0, gh⟩ := by
  have hev : (St.mk tm0 sg0 gh).ev pf = some (.fn f cap) := by cases pf <;> exact hf
  refine RngQ.mk (go_rng (f := f) (cap := cap) ys hev hpu hfz hb hit p hp tm1 (sg x0) hm.r hlt (fun k s g t => ∃ z, s = sg z ∧ g = gk z ∧ t = gst z ∧ inv k z) (fun e s g t => T e ⟨tm1, s, ⟨gh.p, g, t⟩⟩) ⟨x0, rfl, hg0.1.symm, hg0.2.symm, h0⟩ ?_ ?_ ?_)
  · rintro k v s g t hv ⟨z, rfl, rfl, rfl, hz⟩
    refine ⟨hl v (List.mem_of_getElem? hv), (goP_ok (hr k v z hv hz)).mono fun e s' hs => ?_⟩
    cases e with
    | normal =>
      refine (goP_ok (c := y) hs).mono fun e s'' hs' => ?_
      cases e with
      | normal => obtain ⟨u, h1, h2⟩ := hs'; exact ⟨_, _, _, h1, u, rfl, rfl, rfl, h2⟩
      | ret => obtain ⟨s2, g2, t2, h1, h2⟩ := hs'; exact ⟨_, _, _, h1, h2⟩
      | exit i => obtain ⟨s2, g2, t2, h1, h2⟩ := hs'; exact ⟨_, _, _, h1, h2⟩
    | ret => exact hs.elim
    | exit i => exact hs.elim
  · rintro s g t ⟨z, rfl, rfl, rfl, hz⟩; exact hend z hz
  · rintro e s g t _ ht; exact ht


/-- what a cell of an argument may hold -/
inductive Sh where
  | int (k : IntKind)
  | bool
  | str
  | sl (es : List Sh)
  | agg (ss : List Sh)

mutual
/-- an abstract value of the shape -/
def Sh.fits : Sh → AV → Prop
  | .int k, v => ∃ n, v = .int k n ∧ (Lit.int k n).wf = true
  | .bool, v => ∃ b, v = .bool b
  | .str, v => ∃ s, v = .str s ∧ s.length ≤ maxLen
  | .sl es, v => ∃ rows : List (List AV), v = .isl rows ∧ rows.length ≤ maxLen ∧ ∀ r ∈ rows, Sh.fitsL es r
  | .agg ss, v => ∃ l, v = .agg l ∧ Sh.fitsL ss l
def Sh.fitsL : List Sh → List AV → Prop
  | [], l => l = []
  | s :: ss, l => ∃ v vs, l = v :: vs ∧ Sh.fits s v ∧ Sh.fitsL ss vs
end

theorem Sh.fitsL_append : ∀ {a b : List Sh} {x y : List AV}, Sh.fitsL a x → Sh.fitsL b y → Sh.fitsL (a ++ b) (x ++ y)
  | [], _, _, _, hx, hy => by simp only [Sh.fitsL] at hx; subst hx; simpa using hy
  | s :: ss, b, x, y, hx, hy => by
    simp only [Sh.fitsL] at hx
    obtain ⟨v, vs, rfl, h1, h2⟩ := hx
    simp only [List.cons_append, Sh.fitsL]
    exact ⟨v, vs ++ y, rfl, h1, Sh.fitsL_append h2 hy⟩
theorem Sh.fitsL_len : ∀ {a : List Sh} {x : List AV}, Sh.fitsL a x → x.length = a.length
  | [], _, hx => by simp only [Sh.fitsL] at hx; subst hx; rfl
  | s :: ss, x, hx => by
    simp only [Sh.fitsL] at hx
    obtain ⟨v, vs, rfl, h1, h2⟩ := hx
    simp [Sh.fitsL_len h2]

theorem RV0s_append {imm : Nat → Prop} {w : World} : ∀ {a b : List AV} {x y : List Value}, RV0s imm w a x → RV0s imm w b y → RV0s imm w (a ++ b) (x ++ y)
  | [], _, _, _, hx, hy => by simp only [RV0s] at hx; subst hx; simpa using hy
  | s :: ss, b, x, y, hx, hy => by
    simp only [RV0s] at hx
    obtain ⟨v, vs, rfl, h1, h2⟩ := hx
    simp only [List.cons_append, RV0s]
    exact ⟨v, vs ++ y, rfl, h1, RV0s_append h2 hy⟩

/-- the block holds cells -/
def Has (w : World) (b : Nat) : Prop := ∃ c el fz, w.heap[b]? = some (.cells c el fz)

theorem Has.of_cell {w : World} {a : Addr} {v : Value} (h : w.cell? a = some v) : Has w a.block ∧ a.spot = none := by
  unfold World.cell? at h
  unfold Has
  split at h
  · rename_i c x y hh
    split at h
    · cases h
    · rename_i hs
      exact ⟨⟨_, _, _, hh⟩, by simpa using hs⟩
  · cases h

theorem RV0c_of {imm : Nat → Prop} {w : World} {b : Nat} : ∀ {as : List AV} {vs : List Value} {off : Nat}, RV0s imm w as vs → (∀ k v, vs[k]? = some v → w.cell? ⟨b, off + k, none⟩ = some v) → RV0c imm w b off as
  | [], _, _, _, _ => by simp [RV0c]
  | a :: as, vs, off, hx, h => by
    simp only [RV0s] at hx
    obtain ⟨v, vs, rfl, h1, h2⟩ := hx
    simp only [RV0c]
    refine ⟨⟨v, by simpa using h 0 v rfl, h1⟩, RV0c_of h2 fun k u hu => ?_⟩
    have := h (k + 1) u (by simpa using hu)
    rwa [show off + (k + 1) = off + 1 + k from by omega] at this

theorem RV0r_of {imm : Nat → Prop} {w : World} {b sz : Nat} : ∀ {rows : List (List AV)} {off : Nat}, (∀ i r, rows[i]? = some r → r.length = sz ∧ RV0c imm w b (off + i * sz) r) → RV0r imm w b sz off rows
  | [], _, _ => by simp [RV0r]
  | r :: rows, off, h => by
    simp only [RV0r]
    have h0 := h 0 r rfl
    refine ⟨h0.1, by simpa using h0.2, RV0r_of fun i q hq => ?_⟩
    have := h (i + 1) q (by simpa using hq)
    rwa [show off + (i + 1) * sz = off + sz + i * sz from by rw [Nat.add_mul]; omega] at this

theorem list_of {α : Type} {Q : Nat → α → Prop} : ∀ (n : Nat), (∀ i, i < n → ∃ r, Q i r) → ∃ rows : List α, rows.length = n ∧ ∀ i r, rows[i]? = some r → Q i r
  | 0, _ => ⟨[], rfl, fun i r h => by simp at h⟩
  | n + 1, h => by
    obtain ⟨rows, h1, h2⟩ := list_of n fun i hi => h i (by omega)
    obtain ⟨r, hr⟩ := h n (by omega)
    refine ⟨rows ++ [r], by simp [h1], fun i q hq => ?_⟩
    by_cases hi : i < n
    · rw [List.getElem?_append_left (by omega)] at hq; exact h2 i q hq
    · rw [List.getElem?_append_right (by omega)] at hq
      by_cases he : i = n
      · subst he; simp [h1] at hq; subst hq; exact hr
      · have : i - rows.length ≠ 0 := by omega
        cases hh : i - rows.length with
        | zero => omega
        | succ k => rw [hh] at hq; simp at hq

/-! ### The shape of a type -/
mutual
def shape (P : Program) : Nat → TypeId → Option (List Sh)
  | 0, _ => none
  | n + 1, t => match P.underlying t with
    | some .bool => some [.bool]
    | some (.int k) => some [.int k]
    | some .string => some [.str]
    | some (.slice e) => match shape P n e with
      | some (s :: ss) => if P.cellsOf e = (s :: ss).length then some [.sl (s :: ss)] else none
      | _ => none
    | some (.struct fs) => match shapeF P n 0 fs.toList with
      | some ss => if P.cellsOf t = ss.length then some ss else none
      | none => none
    | _ => none
def shapeF (P : Program) : Nat → Nat → List Field → Option (List Sh)
  | _, _, [] => some []
  | 0, _, _ => none
  | n + 1, off, f :: fs => match shape P n f.type with
    | some ss => if f.offset = off ∧ P.cellsOf f.type = ss.length then match shapeF P n (off + ss.length) fs with
        | some tt => some (ss ++ tt)
        | none => none
      else none
    | none => none
end

section
variable {H : Type} {enc : TypeId × Value → H} {P : Program} {w : World}

theorem take_drop {cs : List Value} {off m : Nat} {n : Nat} (h : (cs.drop off).length = n + m) : cs.drop off = (cs.drop off).take n ++ cs.drop (off + n) ∧ (cs.drop (off + n)).length = m := by
  refine ⟨by rw [← List.drop_drop, List.take_append_drop], by simp at h ⊢; omega⟩

theorem opened : ∀ (n : Nat),
    (∀ (t : TypeId) (ss : List Sh) (fuel : Nat) (cs : List Value) (x : DataW H × List MemPlace), shape P n t = some ss → DataW.trod enc P w 0 (fun _ => true) true fuel t cs = some x → cs.length = ss.length ∧ ∃ avs, Sh.fitsL ss avs ∧ RV0s (Has w) w avs cs) ∧
    (∀ (fs : List Field) (off : Nat) (ss : List Sh) (fuel : Nat) (cs : List Value), shapeF P n off fs = some ss → (cs.drop off).length = ss.length → (∀ (i : Nat) (f : Field), fs[i]? = some f → ∃ x, DataW.trod enc P w 0 (fun _ => true) true fuel f.type ((cs.drop f.offset).take (P.cellsOf f.type)) = some x) →
      ∃ avs, Sh.fitsL ss avs ∧ RV0s (Has w) w avs (cs.drop off))
  | 0 => ⟨fun t ss fuel cs x h => by simp [shape] at h, fun fs off ss fuel cs h hl _ => by
      cases fs with
      | nil =>
        simp only [shapeF, Option.some.injEq] at h; subst h
        refine ⟨[], by simp [Sh.fitsL], ?_⟩
        have : cs.drop off = [] := List.eq_nil_of_length_eq_zero (by simpa using hl)
        rw [this]; simp [RV0s]
      | cons f fs => simp [shapeF] at h⟩
  | n + 1 => by
    have ih := opened n
    refine ⟨fun t ss fuel cs x h hx => ?_, fun fs off ss fuel cs h hl hf => ?_⟩
    · simp only [shape] at h
      split at h
      · rename_i ht
        cases h
        obtain ⟨b, rfl, _⟩ := DataW.trod_bool ht hx
        exact ⟨rfl, [.bool b], by simp [Sh.fitsL, Sh.fits], by simp [RV0s, RV0]⟩
      · rename_i k ht
        cases h
        obtain ⟨b, rfl, _, hw⟩ := DataW.trod_int ht hx
        exact ⟨rfl, [.int k b], by simp [Sh.fitsL, Sh.fits, hw], by simp [RV0s, RV0]⟩
      · rename_i ht
        cases h
        obtain ⟨s, rfl, _, hw⟩ := DataW.trod_string ht hx
        exact ⟨rfl, [.str s.data.toList], by simp [Sh.fitsL, Sh.fits]; exact hw, by simp [RV0s, RV0]⟩
      · rename_i e ht
        split at h
        · rename_i s0 s1 hs
          split at h <;> cases h
          rename_i hc
          rcases DataW.trod_slice ht hx with ⟨rfl, _⟩ | ⟨a, len, cap, elems, rest, m, _, rfl, _, _, h1, h2, h3, h4, h5, _⟩
          · exact ⟨rfl, [.isl []], by simp [Sh.fitsL, Sh.fits], by simp [RV0s, RV0]⟩
          · refine ⟨rfl, ?_⟩
            by_cases h0 : cap = 0
            · subst h0
              have : len = 0 := by omega
              subst this
              exact ⟨[.isl []], by simp [Sh.fitsL, Sh.fits], by simp [RV0s, RV0]⟩
            · obtain ⟨h5, h6⟩ := h5 rfl
              have hcell : ∀ j, j < cap → ∃ cs', w.cells? 0 (a.add (j * P.cellsOf e)) (P.cellsOf e) = some cs' ∧ ∃ y, DataW.trod enc P w 0 (fun _ => true) true m e cs' = some y := by
                intro j hj
                have : ∃ y, (w.cells? 0 (a.add (j * P.cellsOf e)) (P.cellsOf e)).bind (DataW.trod enc P w 0 (fun _ => true) true m e) = some y := by
                  by_cases hjl : j < len
                  · rw [h4 j hjl]; exact ⟨elems[j]'(by omega), by simp [List.getElem?_eq_getElem, h3, hjl]⟩
                  · have := h6 (j - len) (by omega)
                    rw [show len + (j - len) = j from by omega] at this
                    rw [this]; exact ⟨rest[j - len]'(by omega), by rw [List.getElem?_eq_getElem]⟩
                obtain ⟨y, hy⟩ := this
                obtain ⟨cs', h7, h8⟩ := Option.bind_eq_some_iff.1 hy
                exact ⟨cs', h7, y, h8⟩
              have hpos : 0 < P.cellsOf e := by rw [hc]; simp
              obtain ⟨cs0, hc0, _⟩ := hcell 0 (by omega)
              obtain ⟨_, hl0, hg0⟩ := World.cells?_some hc0
              have hg := hg0 0 hpos
              rw [List.getElem?_eq_getElem (by omega)] at hg
              have hA : ((a.add (0 * P.cellsOf e)).add 0) = a := by simp [Addr.add]
              rw [hA] at hg
              obtain ⟨hb, hsp⟩ := Has.of_cell hg
              obtain ⟨b, off, sp⟩ := a
              simp only at hsp hb; subst hsp
              obtain ⟨rows, hr1, hr2⟩ := list_of (Q := fun i r => Sh.fitsL (s0 :: s1) r ∧ RV0c (Has w) w b (off + i * P.cellsOf e) r) len (fun i hi => by
                obtain ⟨cs', h7, y, h8⟩ := hcell i (by omega)
                obtain ⟨_, avs, h9, h10⟩ := ih.1 _ _ _ _ _ hs h8
                obtain ⟨_, hl', hg'⟩ := World.cells?_some h7
                refine ⟨avs, h9, RV0c.of_list h10 fun j u hu => ?_⟩
                have hj : j < P.cellsOf e := by
                  have := (List.getElem?_eq_some_iff.1 hu).1; omega
                have := hg' j hj
                rw [hu] at this
                simpa [add_off] using this)
              refine ⟨[.isl rows], ?_, ?_⟩
              · simp only [Sh.fitsL, Sh.fits]
                exact ⟨_, _, rfl, ⟨rows, rfl, by omega, fun r hr => by
                  obtain ⟨i, hi, rfl⟩ := List.getElem_of_mem hr
                  exact (hr2 i _ (List.getElem?_eq_getElem hi)).1⟩, rfl⟩
              · simp only [RV0s, RV0]
                refine ⟨_, _, rfl, .inr ⟨P.cellsOf e, b, off, cap, by rw [hr1], by omega, hb, RV0r_of fun i r hr => ?_⟩, rfl⟩
                have := hr2 i r hr
                exact ⟨by rw [Sh.fitsL_len this.1, hc], this.2⟩
        · cases h
      · rename_i fs ht
        split at h
        · rename_i ss' hs
          split at h <;> cases h
          rename_i hc
          obtain ⟨xs, m, rfl, _, h1, h2, h3⟩ := DataW.trod_struct ht hx
          refine ⟨by omega, ?_⟩
          have := ih.2 fs.toList 0 _ m cs hs (by simp; omega) (fun i f hf => by
            have hf' : fs[i]? = some f := by simpa using hf
            have := h3 i f hf'
            rw [this]
            have hi : i < fs.size := (Array.getElem?_eq_some_iff.1 hf').1
            exact ⟨xs[i]'(by omega), List.getElem?_eq_getElem _⟩)
          simpa using this
        · cases h
      · cases h
    · cases fs with
      | nil =>
        simp only [shapeF, Option.some.injEq] at h; subst h
        refine ⟨[], by simp [Sh.fitsL], ?_⟩
        have : cs.drop off = [] := List.eq_nil_of_length_eq_zero (by simpa using hl)
        rw [this]; simp [RV0s]
      | cons f fs =>
        simp only [shapeF] at h
        split at h
        · rename_i sa hsa
          split at h
          · rename_i hoff
            split at h <;> cases h
            rename_i st hst
            obtain ⟨x, hx⟩ := hf 0 f rfl
            rw [hoff.1] at hx
            obtain ⟨h1, avs, h2, h3⟩ := ih.1 _ _ _ _ _ hsa hx
            obtain ⟨e1, e2⟩ := take_drop (n := sa.length) (m := st.length) (by simpa using hl)
            obtain ⟨bvs, h4, h5⟩ := ih.2 fs _ _ fuel cs hst e2 (fun i g hg => hf (i + 1) g (by simpa using hg))
            refine ⟨avs ++ bvs, Sh.fitsL_append h2 h4, ?_⟩
            rw [e1]
            rw [hoff.2] at h3
            exact RV0s_append h3 h5
          · cases h
        · cases h
end

open Go.WideShapes Go.ChangeShapes

def argSh (P : Program) (t : TypeId) : Option Sh :=
  match P.underlying t with
  | some (.struct _) => (shape P 40 t).map .agg
  | some (.array _ _) => none
  | _ => match shape P 40 t with
    | some [s] => some s
    | _ => none
def argsSh (P : Program) : List TypeId → Option (List Sh)
  | [] => some []
  | t :: ts => match argSh P t, argsSh P ts with
    | some s, some ss => some (s :: ss)
    | _, _ => none

section
variable {H : Type} {enc : TypeId × Value → H} {P : Program} {w : World}

theorem open_arg {b0 : Nat} {t : TypeId} {v : Value} {d : DataW H} {ps : List MemPlace} {s : Sh} (hs : argSh P t = some s) (hv : Value.okWide P w .any b0 t v) (h : DataW.Trod enc P w 0 (fun _ => true) true t v d ps) :
    ∃ av, Sh.fits s av ∧ RV0 (Has w) w av v := by
  obtain ⟨fuel, hf⟩ := h
  have one : ∀ ss, shape P 40 t = some ss → (∀ cs, v ≠ .agg cs) → ss = [s] → ∃ av, Sh.fits s av ∧ RV0 (Has w) w av v := by
    intro ss h1 h2 h3
    subst h3
    obtain ⟨_, avs, h4, h5⟩ := (opened (enc := enc) (P := P) (w := w) 40).1 _ _ _ _ _ h1 hf
    have : v.cells.toList = [v] := by cases v <;> first | rfl | exact absurd rfl (h2 _)
    rw [this] at h5
    simp only [Sh.fitsL] at h4
    obtain ⟨av, _, rfl, h6, rfl⟩ := h4
    simp only [RV0s] at h5
    obtain ⟨_, _, h7, h8, h9⟩ := h5
    cases h7
    exact ⟨av, h6, h8⟩
  unfold argSh at hs
  split at hs
  · rename_i fs ht
    obtain ⟨cs, rfl, _⟩ := okWide_struct ht hv
    obtain ⟨ss, h1, rfl⟩ := Option.map_eq_some_iff.1 hs
    obtain ⟨_, avs, h2, h3⟩ := (opened (enc := enc) (P := P) (w := w) 40).1 _ _ _ _ _ h1 hf
    exact ⟨.agg avs, by simp only [Sh.fits]; exact ⟨_, rfl, h2⟩, by simp only [RV0]; exact ⟨_, rfl, h3⟩⟩
  · cases hs
  · rename_i h1 h2
    split at hs
    · rename_i s' h3
      cases hs
      refine one _ h3 (fun cs e => ?_) rfl
      subst e
      have hv2 : Cell.okWide P w .any b0 t (.agg cs) := by
        unfold Value.okWide at hv
        split at hv
        · rename_i h4; exact absurd h4 (h1 _)
        · rename_i h4; exact absurd h4 (h2 _ _)
        · exact hv
      unfold Cell.okWide at hv2
      split at hv2 <;> first | (rename_i h5; cases h5) | skip
      unfold Cell.ok at hv2
      split at hv2 <;> first | (rename_i h5; cases h5) | exact hv2
    · cases hs

theorem open_args {b0 : Nat} : ∀ {ts : List TypeId} {vs : List Value} {ds : List (DataW H)} {ps : List MemPlace} {ss : List Sh}, argsSh P ts = some ss → (∀ (j : Nat) t v, ts[j]? = some t → vs[j]? = some v → Value.okWide P w .any b0 t v) → DataW.TrodAll enc P w 0 (fun _ => true) true ts vs ds ps →
    ∃ avs, Sh.fitsL ss avs ∧ RV0s (Has w) w avs vs
  | [], vs, ds, ps, ss, hs, _, h => by
    simp only [argsSh, Option.some.injEq] at hs; subst hs
    obtain ⟨rfl, _, _⟩ := trodAll_nil h
    exact ⟨[], by simp [Sh.fitsL], by simp [RV0s]⟩
  | t :: ts, vs, ds, ps, ss, hs, hv, h => by
    simp only [argsSh] at hs
    split at hs <;> cases hs
    rename_i s0 s1 h1 h2
    obtain ⟨v, vs, d, ds, p, q, rfl, rfl, rfl, h3, h4⟩ := trodAll_cons h
    obtain ⟨av, h5, h6⟩ := open_arg h1 (hv 0 t v rfl rfl) h3
    obtain ⟨avs, h7, h8⟩ := open_args h2 (fun j t v ht hv' => hv (j + 1) t v (by simpa using ht) (by simpa using hv')) h4
    exact ⟨av :: avs, by simp only [Sh.fitsL]; exact ⟨_, _, rfl, h5, h7⟩, by simp only [RV0s]; exact ⟨_, _, rfl, h6, h8⟩⟩

theorem shut_args (hl : laidOutB P = true) {W W' : World} (hb : Below W.heap.size W W') : ∀ {ts : List TypeId} {vs : List Value} {ds : List (DataW H)} {ps : List MemPlace}, (∀ t ∈ ts, P.readableRec t = true ∧ t < P.types.size) → DataW.TrodAll enc P W 0 (fun _ => true) true ts vs ds ps → (∀ x ∈ ps, x.block < W.heap.size) →
    DataW.TrodAll enc P W' 0 (fun b => decide (b < W.heap.size)) true ts vs ds ps
  | [], vs, ds, ps, _, h, _ => by
    obtain ⟨rfl, rfl, rfl⟩ := trodAll_nil h; exact rfl
  | t :: ts, vs, ds, ps, hr, h, hlt => by
    obtain ⟨v, vs, d, ds, p, q, rfl, rfl, rfl, h3, h4⟩ := trodAll_cons h
    refine ⟨p, q, Below.trod hl (hr t (by simp)).1 (hr t (by simp)).2 h3 hb (fun x hx => hlt x (by simp [hx])), shut_args hl hb (fun t ht => hr t (by simp [ht])) h4 (fun x hx => hlt x (by simp [hx])), rfl⟩
end

/-- what a statement 'it answers true, the arguments read as they did' asks, from the contract of the law's function -/
theorem lift_true {H : Type} {enc : TypeId × Value → H} {C : Checked} {fn : Func} {f : FuncId} {s : ChangeSpec} {fresh handsOn : Bool} {ss : List Sh} {tb : TypeId}
    (hl : laidOutB C.prog = true) (hvars : s.vars = []) (hrt : fn.resultTypes = #[tb]) (htb : C.prog.underlying tb = some .bool) (hps : argsSh C.prog fn.params.toList = some ss)
    (hrd : fn.params.toList.all (fun t => C.prog.readableRec t && decide (t < C.prog.types.size)) = true)
    (hspec : ∀ ds : List (DataW H), ds.length = fn.params.toList.length → (s.fn H ds).results = [.lit (.bool true)] ∧ (s.fn H ds).args = ds ∧ (s.fn H ds).vars = [])
    (hmain : ∀ avs, Sh.fitsL ss avs → FnA C.prog f avs (· = .bool true)) :
    ∀ (W : World) (base : Nat) (args : Array Value) (ds gs : List (DataW H)) (before : List MemPlace),
      (∀ (j : Nat) t v, fn.params[j]? = some t → args[j]? = some v → Value.okWide C.prog W .any base t v) →
      DataW.Whole enc C.prog fn.params.toList s.vars false W args.toList ds gs before →
      Calls C.prog f args W fun e W' => ∃ v, e = .returned v ∧ s.post enc C.prog fn false fresh handsOn false W args v W' := by
  intro W base args ds gs before hval hW
  have hW' := hW
  obtain ⟨p, q, hA, hV, rfl, hfz, hnd⟩ := hW
  rw [hvars] at hV
  obtain ⟨rfl, rfl⟩ := trodVars_none hV
  obtain ⟨avs, h1, h2⟩ := open_args hps (fun j t v ht hv => hval j t v (by simpa using ht) (by simpa using hv)) hA
  have hlen : ds.length = fn.params.toList.length := by
    have : ∀ {ts : List TypeId} {vs : List Value} {ds : List (DataW H)} {ps : List MemPlace}, DataW.TrodAll enc C.prog W 0 (fun _ => true) true ts vs ds ps → ds.length = ts.length := by
      intro ts
      induction ts with
      | nil => intro vs ds ps h; obtain ⟨_, rfl, _⟩ := trodAll_nil h; rfl
      | cons t ts ih => intro vs ds ps h; obtain ⟨v, vs, d, ds, p, q, rfl, rfl, rfl, _, h4⟩ := trodAll_cons h; simp [ih h4]
    exact this hA
  have hm := hmain avs h1
  unfold FnA at hm
  have hm := hm (Has W) W args.toList (fun _ ⟨_, _, _, h⟩ => .of_cells h) h2
  rw [show args.toList.toArray = args from by simp] at hm
  refine hm.mono fun e W' h => ?_
  obtain ⟨v, x, imm', rfl, rfl, hv, hB, _⟩ := h
  simp only [RV0] at hv
  subst hv
  obtain ⟨g1, g2, g3⟩ := hspec ds hlen
  refine ⟨_, rfl, ds, [], _, [], p, [], hW', ?_, ?_, ?_, hB.frame _, fun h => by cases h⟩
  · rw [List.append_nil, g1, hrt]
    exact trodAll_mk1 ⟨1, by simp [DataW.trod, Value.cells, htb]⟩
  · rw [List.append_nil, g2]
    refine shut_args hl hB (fun t ht => ?_) hA (fun x hx => hW'.lt x (by simpa using hx))
    have := List.all_eq_true.1 hrd t ht
    simpa using this
  · rw [List.append_nil, g3, hvars]; exact rfl

end Go.Eng
