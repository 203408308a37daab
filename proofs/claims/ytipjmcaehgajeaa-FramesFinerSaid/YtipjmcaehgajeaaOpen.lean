/- What is read as an argument of the laws of this program is one of the values that the contracts speak of. -/
import Derived.Test.YtipjmcaehgajeaaWorks
import Derived.Test.YtipjmcaehgajeaaRows
import Derived.ProofKit
set_option linter.unusedSimpArgs false
set_option linter.unusedVariables false
set_option linter.unusedSectionVars false
namespace Go.Proofs.Ytipjmcaehgajeaa
open Go.ChangeShapes Go.WideShapes Go.ChangeAt Go.RowKit Go.Eng Go.Joins
attribute [local irreducible] Go.Eng.brB Go.Eng.need Go.Eng.wrE Go.Eng.iaE Go.Eng.slE Go.Eng.apE Go.Eng.CallZ Go.Eng.CallE Go.Eng.VCallE Go.Eng.YldE Go.Eng.GoC Go.Eng.MeetsE Go.Eng.FnA Go.Eng.FnV Go.Eng.ItA

theorem Try.own : ownKnob Try.prog.godebug = none := by kernel_rfl
theorem Try.laidOut : laidOutB Try.prog = true := by kernel_rfl
def i7 : List Sh := [.int .i64, .int .i64, .int .i64, .int .i64, .int .i64, .int .i64, .int .i64]
def frmSh : Sh := .agg [.sl i7, .int .i64, .int .i64, .int .i64, .int .i64, .int .i64, .int .i64]
def i2Sh : Sh := .agg [.int .i64, .int .i64]
theorem i7_fits {l : List AV} (h : Sh.fitsL i7 l) : ∃ s : Sec, l = s.av := by
  simp only [i7, Sh.fitsL, Sh.fits] at h
  obtain ⟨_, _, rfl, ⟨a, rfl, _⟩, _, _, rfl, ⟨b, rfl, _⟩, _, _, rfl, ⟨c, rfl, _⟩, _, _, rfl, ⟨d, rfl, _⟩, _, _, rfl, ⟨e, rfl, _⟩, _, _, rfl, ⟨f, rfl, _⟩, _, _, rfl, ⟨g, rfl, _⟩, rfl⟩ := h
  exact ⟨⟨a, b, c, d, e, f, g⟩, rfl⟩
theorem rows_fits : ∀ {rows : List (List AV)}, (∀ r ∈ rows, Sh.fitsL i7 r) → ∃ ss : List Sec, rows = ss.map Sec.av
  | [], _ => ⟨[], rfl⟩
  | r :: rows, h => by
    obtain ⟨s, rfl⟩ := i7_fits (h r (by simp))
    obtain ⟨ss, rfl⟩ := rows_fits (rows := rows) fun r hr => h r (by simp [hr])
    exact ⟨s :: ss, rfl⟩
theorem frm_fits {v : AV} (h : Sh.fits frmSh v) : ∃ f : Frm, v = .agg f.cells ∧ f.ss.length ≤ maxLen := by
  simp only [frmSh, Sh.fitsL, Sh.fits] at h
  obtain ⟨_, rfl, _, _, rfl, ⟨rows, rfl, hl, hr⟩, _, _, rfl, ⟨b, rfl, _⟩, _, _, rfl, ⟨c, rfl, _⟩, _, _, rfl, ⟨d, rfl, _⟩, _, _, rfl, ⟨e, rfl, _⟩, _, _, rfl, ⟨f, rfl, _⟩, _, _, rfl, ⟨g, rfl, _⟩, rfl⟩ := h
  obtain ⟨ss, rfl⟩ := rows_fits hr
  exact ⟨⟨ss, b, c, d, e, f, g⟩, rfl, by simpa using hl⟩
theorem i2_fits {v : AV} (h : Sh.fits i2Sh v) : ∃ a b : Int, v = .agg [.int .i64 a, .int .i64 b] := by
  simp only [i2Sh, Sh.fitsL, Sh.fits] at h
  obtain ⟨_, rfl, _, _, rfl, ⟨a, rfl, _⟩, _, _, rfl, ⟨b, rfl, _⟩, rfl⟩ := h
  exact ⟨a, b, rfl⟩
theorem int_fits {k : IntKind} {v : AV} (h : Sh.fits (.int k) v) : ∃ a : Int, v = .int k a ∧ (Lit.int k a).wf = true := by
  simpa only [Sh.fits] using h

end Go.Proofs.Ytipjmcaehgajeaa
