/- The engine of these proofs, part 4 of 4: abstract values and states, the walk of a function's body as a program on them, and why that walk is sound for the model. It speaks of any program. -/
import Derived.Test.YtipjmcaehgajeaaEng3
set_option linter.unusedSimpArgs false
set_option linter.unusedVariables false
set_option linter.unusedSectionVars false
namespace Go.Eng
open Go.RowKit
open Go.WideShapes Go.ChangeShapes

def argSh (P : Program) (t : TypeId) : Option Sh :=
  match P.underlying t with
  | some (.struct _) => (shape P 40 t).map .agg
  | some (.array _ _) => none
  | _ => match shape P 40 t with
    | some [s] => some s
    | _ => none
def argsSh (P : Program) : List TypeId → Option (List Sh)
  | [] => some []
  | t :: ts => match argSh P t, argsSh P ts with
    | some s, some ss => some (s :: ss)
    | _, _ => none

section
variable {H : Type} {enc : TypeId × Value → H} {P : Program} {w : World}

theorem open_arg {b0 : Nat} {t : TypeId} {v : Value} {d : DataW H} {ps : List MemPlace} {s : Sh} (hs : argSh P t = some s) (hv : Value.okWide P w .any b0 t v) (h : DataW.Trod enc P w 0 (fun _ => true) true t v d ps) :
    ∃ av, Sh.fits s av ∧ RV0 (Has w) w av v := by
  obtain ⟨fuel, hf⟩ := h
  have one : ∀ ss, shape P 40 t = some ss → (∀ cs, v ≠ .agg cs) → ss = [s] → ∃ av, Sh.fits s av ∧ RV0 (Has w) w av v := by
    intro ss h1 h2 h3
    subst h3
    obtain ⟨_, avs, h4, h5⟩ := (opened (enc := enc) (P := P) (w := w) 40).1 _ _ _ _ _ h1 hf
    have : v.cells.toList = [v] := by cases v <;> first | rfl | exact absurd rfl (h2 _)
    rw [this] at h5
    simp only [Sh.fitsL] at h4
    obtain ⟨av, _, rfl, h6, rfl⟩ := h4
    simp only [RV0s] at h5
    obtain ⟨_, _, h7, h8, h9⟩ := h5
    cases h7
    exact ⟨av, h6, h8⟩
  unfold argSh at hs
  split at hs
  · rename_i fs ht
    obtain ⟨cs, rfl, _⟩ := okWide_struct ht hv
    obtain ⟨ss, h1, rfl⟩ := Option.map_eq_some_iff.1 hs
    obtain ⟨_, avs, h2, h3⟩ := (opened (enc := enc) (P := P) (w := w) 40).1 _ _ _ _ _ h1 hf
    exact ⟨.agg avs, by simp only [Sh.fits]; exact ⟨_, rfl, h2⟩, by simp only [RV0]; exact ⟨_, rfl, h3⟩⟩
  · cases hs
  · rename_i h1 h2
    split at hs
    · rename_i s' h3
      cases hs
      refine one _ h3 (fun cs e => ?_) rfl
      subst e
      have hv2 : Cell.okWide P w .any b0 t (.agg cs) := by
        unfold Value.okWide at hv
        split at hv
        · rename_i h4; exact absurd h4 (h1 _)
        · rename_i h4; exact absurd h4 (h2 _ _)
        · exact hv
      unfold Cell.okWide at hv2
      split at hv2 <;> first | (rename_i h5; cases h5) | skip
      unfold Cell.ok at hv2
      split at hv2 <;> first | (rename_i h5; cases h5) | exact hv2
    · cases hs

theorem open_args {b0 : Nat} : ∀ {ts : List TypeId} {vs : List Value} {ds : List (DataW H)} {ps : List MemPlace} {ss : List Sh}, argsSh P ts = some ss → (∀ (j : Nat) t v, ts[j]? = some t → vs[j]? = some v → Value.okWide P w .any b0 t v) → DataW.TrodAll enc P w 0 (fun _ => true) true ts vs ds ps →
    ∃ avs, Sh.fitsL ss avs ∧ RV0s (Has w) w avs vs
  | [], vs, ds, ps, ss, hs, _, h => by
    simp only [argsSh, Option.some.injEq] at hs; subst hs
    obtain ⟨rfl, _, _⟩ := trodAll_nil h
    exact ⟨[], by simp [Sh.fitsL], by simp [RV0s]⟩
  | t :: ts, vs, ds, ps, ss, hs, hv, h => by
    simp only [argsSh] at hs
    split at hs <;> cases hs
    rename_i s0 s1 h1 h2
    obtain ⟨v, vs, d, ds, p, q, rfl, rfl, rfl, h3, h4⟩ := trodAll_cons h
    obtain ⟨av, h5, h6⟩ := open_arg h1 (hv 0 t v rfl rfl) h3
    obtain ⟨avs, h7, h8⟩ := open_args h2 (fun j t v ht hv' => hv (j + 1) t v (by simpa using ht) (by simpa using hv')) h4
    exact ⟨av :: avs, by simp only [Sh.fitsL]; exact ⟨_, _, rfl, h5, h7⟩, by simp only [RV0s]; exact ⟨_, _, rfl, h6, h8⟩⟩

theorem shut_args (hl : laidOutB P = true) {W W' : World} (hb : Below W.heap.size W W') : ∀ {ts : List TypeId} {vs : List Value} {ds : List (DataW H)} {ps : List MemPlace}, (∀ t ∈ ts, P.readableRec t = true ∧ t < P.types.size) → DataW.TrodAll enc P W 0 (fun _ => true) true ts vs ds ps → (∀ x ∈ ps, x.block < W.heap.size) →
    DataW.TrodAll enc P W' 0 (fun b => decide (b < W.heap.size)) true ts vs ds ps
  | [], vs, ds, ps, _, h, _ => by
    obtain ⟨rfl, rfl, rfl⟩ := trodAll_nil h; exact rfl
  | t :: ts, vs, ds, ps, hr, h, hlt => by
    obtain ⟨v, vs, d, ds, p, q, rfl, rfl, rfl, h3, h4⟩ := trodAll_cons h
    refine ⟨p, q, Below.trod hl (hr t (by simp)).1 (hr t (by simp)).2 h3 hb (fun x hx => hlt x (by simp [hx])), shut_args hl hb (fun t ht => hr t (by simp [ht])) h4 (fun x hx => hlt x (by simp [hx])), rfl⟩
end

/-- what a statement 'it answers true, the arguments read as they did' asks, from the contract of the law's function -/
theorem lift_true {H : Type} {enc : TypeId × Value → H} {C : Checked} {fn : Func} {f : FuncId} {s : ChangeSpec} {fresh handsOn : Bool} {ss : List Sh} {tb : TypeId}
    (hl : laidOutB C.prog = true) (hvars : s.vars = []) (hrt : fn.resultTypes = #[tb]) (htb : C.prog.underlying tb = some .bool) (hps : argsSh C.prog fn.params.toList = some ss)
    (hrd : fn.params.toList.all (fun t => C.prog.readableRec t && decide (t < C.prog.types.size)) = true)
    (hspec : ∀ ds : List (DataW H), ds.length = fn.params.toList.length → (s.fn H ds).results = [.lit (.bool true)] ∧ (s.fn H ds).args = ds ∧ (s.fn H ds).vars = [])
    (hmain : ∀ avs, Sh.fitsL ss avs → FnA C.prog f avs (· = .bool true)) :
    ∀ (W : World) (base : Nat) (args : Array Value) (ds gs : List (DataW H)) (before : List MemPlace),
      (∀ (j : Nat) t v, fn.params[j]? = some t → args[j]? = some v → Value.okWide C.prog W .any base t v) →
      DataW.Whole enc C.prog fn.params.toList s.vars false W args.toList ds gs before →
      Calls C.prog f args W fun e W' => ∃ v, e = .returned v ∧ s.post enc C.prog fn false fresh handsOn false W args v W' := by
  intro W base args ds gs before hval hW
  have hW' := hW
  obtain ⟨p, q, hA, hV, rfl, hfz, hnd⟩ := hW
  rw [hvars] at hV
  obtain ⟨rfl, rfl⟩ := trodVars_none hV
  obtain ⟨avs, h1, h2⟩ := open_args hps (fun j t v ht hv => hval j t v (by simpa using ht) (by simpa using hv)) hA
  have hlen : ds.length = fn.params.toList.length := by
    have : ∀ {ts : List TypeId} {vs : List Value} {ds : List (DataW H)} {ps : List MemPlace}, DataW.TrodAll enc C.prog W 0 (fun _ => true) true ts vs ds ps → ds.length = ts.length := by
      intro ts
      induction ts with
      | nil => intro vs ds ps h; obtain ⟨_, rfl, _⟩ := trodAll_nil h; rfl
      | cons t ts ih => intro vs ds ps h; obtain ⟨v, vs, d, ds, p, q, rfl, rfl, rfl, _, h4⟩ := trodAll_cons h; simp [ih h4]
    exact this hA
  have hm := hmain avs h1
  unfold FnA at hm
  have hm := hm (Has W) W args.toList (fun _ h => h) h2
  rw [show args.toList.toArray = args from by simp] at hm
  refine hm.mono fun e W' h => ?_
  obtain ⟨v, x, imm', rfl, rfl, hv, hB, _⟩ := h
  simp only [RV0] at hv
  subst hv
  obtain ⟨g1, g2, g3⟩ := hspec ds hlen
  refine ⟨_, rfl, ds, [], _, [], p, [], hW', ?_, ?_, ?_, hB.frame _, fun h => by cases h⟩
  · rw [List.append_nil, g1, hrt]
    exact trodAll_mk1 ⟨1, by simp [DataW.trod, Value.cells, htb]⟩
  · rw [List.append_nil, g2]
    refine shut_args hl hB (fun t ht => ?_) hA (fun x hx => hW'.lt x (by simpa using hx))
    have := List.all_eq_true.1 hrd t ht
    simpa using this
  · rw [List.append_nil, g3, hvars]; exact rfl

end Go.Eng
