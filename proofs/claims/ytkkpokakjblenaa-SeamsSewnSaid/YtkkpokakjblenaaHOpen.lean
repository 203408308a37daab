/- What is read as an argument of the laws of this program is one of the values that the contracts speak of. -/
import Derived.Test.YtkkpokakjblenaaHFns2
import Derived.Test.YtkkpokakjblenaaRows
import Derived.ProofKit
set_option linter.unusedSimpArgs false
set_option linter.unusedVariables false
set_option linter.unusedSectionVars false
namespace Go.Proofs.Ytkkpokakjblenaa
open Go.ChangeShapes Go.WideShapes Go.ChangeAt Go.RowKit Go.Eng Go.Joins
attribute [local irreducible] Go.Eng.brB Go.Eng.need Go.Eng.wrE Go.Eng.iaE Go.Eng.slE Go.Eng.apE Go.Eng.CallZ Go.Eng.CallE Go.Eng.VCallE Go.Eng.YldE Go.Eng.GoC Go.Eng.MeetsE Go.Eng.FnA Go.Eng.FnV Go.Eng.ItA

theorem Try.own : ownKnob Try.prog.godebug = none := by kernel_rfl
theorem Try.laidOut : laidOutB Try.prog = true := by kernel_rfl
def i3 : List Sh := [.int .i64, .int .i64, .int .i64]
def i2 : List Sh := [.int .i64, .int .i64]
def i1 : List Sh := [.int .i64]
def boltSh : List Sh := [.int .i64, .int .i64, .sl i3, .int .i64]
theorem rows_fits {α : Type} (f : α → List AV) {es : List Sh} (hf : ∀ l, Sh.fitsL es l → ∃ s, l = f s) : ∀ {rows : List (List AV)}, (∀ r ∈ rows, Sh.fitsL es r) → ∃ ss : List α, rows = ss.map f
  | [], _ => ⟨[], rfl⟩
  | r :: rows, h => by
    obtain ⟨s, rfl⟩ := hf r (h r (by simp))
    obtain ⟨ss, rfl⟩ := rows_fits f hf (rows := rows) fun r hr => h r (by simp [hr])
    exact ⟨s :: ss, rfl⟩
theorem strip_fits (l : List AV) (h : Sh.fitsL i3 l) : ∃ s : Strip, l = s.av := by
  simp only [i3, Sh.fitsL, Sh.fits] at h
  obtain ⟨_, _, rfl, ⟨a, rfl, _⟩, _, _, rfl, ⟨b, rfl, _⟩, _, _, rfl, ⟨c, rfl, _⟩, rfl⟩ := h
  exact ⟨⟨a, b, c⟩, rfl⟩
theorem pair_fits (l : List AV) (h : Sh.fitsL i2 l) : ∃ s : Int × Int, l = pairAV s := by
  simp only [i2, Sh.fitsL, Sh.fits] at h
  obtain ⟨_, _, rfl, ⟨a, rfl, _⟩, _, _, rfl, ⟨b, rfl, _⟩, rfl⟩ := h
  exact ⟨(a, b), rfl⟩
theorem one_fits (l : List AV) (h : Sh.fitsL i1 l) : ∃ s : Int, l = iAV s := by
  simp only [i1, Sh.fitsL, Sh.fits] at h
  obtain ⟨_, _, rfl, ⟨a, rfl, _⟩, rfl⟩ := h
  exact ⟨a, rfl⟩
theorem bolt_fits (l : List AV) (h : Sh.fitsL boltSh l) : ∃ s : Bolt, l = s.av := by
  simp only [boltSh, Sh.fitsL, Sh.fits] at h
  obtain ⟨_, _, rfl, ⟨a, rfl, _⟩, _, _, rfl, ⟨b, rfl, _⟩, _, _, rfl, ⟨rows, rfl, _, hr⟩, _, _, rfl, ⟨c, rfl, _⟩, rfl⟩ := h
  obtain ⟨ss, rfl⟩ := rows_fits Strip.av strip_fits hr
  exact ⟨⟨a, b, ss, c⟩, rfl⟩
def figSh : Sh := .agg [.sl boltSh, .sl i1, .int .i64, .sl i2, .sl i1, .int .i64, .int .i64, .int .i64, .int .i64, .sl i1, .sl i1]
theorem fig_fits {v : AV} (h : Sh.fits figSh v) : ∃ f : Fig, v = .agg f.cells := by
  simp only [figSh, Sh.fitsL, Sh.fits] at h
  obtain ⟨_, rfl, _, _, rfl, ⟨r1, rfl, _, h1⟩, _, _, rfl, ⟨r2, rfl, _, h2⟩, _, _, rfl, ⟨a, rfl, _⟩, _, _, rfl, ⟨r3, rfl, _, h3⟩, _, _, rfl, ⟨r4, rfl, _, h4⟩, _, _, rfl, ⟨b, rfl, _⟩, _, _, rfl, ⟨c, rfl, _⟩, _, _, rfl, ⟨d, rfl, _⟩, _, _, rfl, ⟨e, rfl, _⟩, _, _, rfl, ⟨r5, rfl, _, h5⟩, _, _, rfl, ⟨r6, rfl, _, h6⟩, rfl⟩ := h
  obtain ⟨bs, rfl⟩ := rows_fits Bolt.av bolt_fits h1
  obtain ⟨gs, rfl⟩ := rows_fits iAV one_fits h2
  obtain ⟨rs, rfl⟩ := rows_fits pairAV pair_fits h3
  obtain ⟨ws, rfl⟩ := rows_fits iAV one_fits h4
  obtain ⟨st, rfl⟩ := rows_fits iAV one_fits h5
  obtain ⟨ti, rfl⟩ := rows_fits iAV one_fits h6
  exact ⟨⟨⟨bs, gs, a, rs, ws, b⟩, c, d, e, st, ti⟩, rfl⟩
theorem list_fits {v : AV} (h : Sh.fits (.sl i1) v) : ∃ l : List Int, v = .isl (l.map iAV) := by
  simp only [Sh.fits] at h
  obtain ⟨rows, rfl, hl, hr⟩ := h
  obtain ⟨ts, rfl⟩ := rows_fits iAV one_fits hr
  exact ⟨ts, rfl⟩
theorem int_fits {k : IntKind} {v : AV} (h : Sh.fits (.int k) v) : ∃ a : Int, v = .int k a ∧ (Lit.int k a).wf = true := by
  simpa only [Sh.fits] using h

end Go.Proofs.Ytkkpokakjblenaa
