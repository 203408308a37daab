/- What is read as an argument of the laws of this program is one of the values that the contracts speak of. -/
import Derived.Test.YtkpdkhidlhaaiaaGreatFns3
import Derived.Test.YtkpdkhidlhaaiaaGreatRows
import Derived.ProofKit
set_option linter.unusedSimpArgs false
set_option linter.unusedVariables false
set_option linter.unusedSectionVars false
namespace Go.Proofs.YtkpdkhidlhaaiaaGreat
open Go.ChangeShapes Go.WideShapes Go.ChangeAt Go.RowKit Go.Eng Go.Joins
attribute [local irreducible] Go.Eng.brB Go.Eng.need Go.Eng.wrE Go.Eng.iaE Go.Eng.slE Go.Eng.apE Go.Eng.CallZ Go.Eng.CallE Go.Eng.VCallE Go.Eng.YldE Go.Eng.GoC Go.Eng.MeetsE Go.Eng.FnA Go.Eng.FnV Go.Eng.ItA

theorem Tryz.own : ownKnob Tryz.prog.godebug = none := by kernel_rfl
theorem Tryz.laidOut : laidOutB Tryz.prog = true := by kernel_rfl
def i7 : List Sh := [.int .i64, .int .i64, .int .i64, .int .i64, .int .i64, .int .i64, .int .i64]
def i2 : List Sh := [.int .i64, .int .i64]
def i1S : List Sh := [.int .i64]
def canSh : Sh := .agg [.sl i7, .int .i64, .int .i64, .int .i64, .int .i64, .int .i64, .int .i64, .sl i2, .sl i1S]
theorem rows_fits {α : Type} (f : α → List AV) {es : List Sh} (hf : ∀ l, Sh.fitsL es l → ∃ s, l = f s) : ∀ {rows : List (List AV)}, (∀ r ∈ rows, Sh.fitsL es r) → ∃ ss : List α, rows = ss.map f
  | [], _ => ⟨[], rfl⟩
  | r :: rows, h => by
    obtain ⟨s, rfl⟩ := hf r (h r (by simp))
    obtain ⟨ss, rfl⟩ := rows_fits f hf (rows := rows) fun r hr => h r (by simp [hr])
    exact ⟨s :: ss, rfl⟩
theorem sec_fits (l : List AV) (h : Sh.fitsL i7 l) : ∃ s : Sec, l = s.av := by
  simp only [i7, Sh.fitsL, Sh.fits] at h
  obtain ⟨_, _, rfl, ⟨a, rfl, _⟩, _, _, rfl, ⟨b, rfl, _⟩, _, _, rfl, ⟨c, rfl, _⟩, _, _, rfl, ⟨d, rfl, _⟩, _, _, rfl, ⟨e, rfl, _⟩, _, _, rfl, ⟨f, rfl, _⟩, _, _, rfl, ⟨g, rfl, _⟩, rfl⟩ := h
  exact ⟨⟨a, b, c, d, e, f, g⟩, rfl⟩
theorem pair_fits (l : List AV) (h : Sh.fitsL i2 l) : ∃ s : Int × Int, l = s2 s := by
  simp only [i2, Sh.fitsL, Sh.fits] at h
  obtain ⟨_, _, rfl, ⟨a, rfl, _⟩, _, _, rfl, ⟨b, rfl, _⟩, rfl⟩ := h
  exact ⟨(a, b), rfl⟩
theorem gust_fits (l : List AV) (h : Sh.fitsL i2 l) : ∃ g : Gu, l = g.av := by
  simp only [i2, Sh.fitsL, Sh.fits] at h
  obtain ⟨_, _, rfl, ⟨a, rfl, _⟩, _, _, rfl, ⟨b, rfl, _⟩, rfl⟩ := h
  exact ⟨⟨a, b⟩, rfl⟩
theorem one_fits (l : List AV) (h : Sh.fitsL i1S l) : ∃ s : Int, l = Go.Proofs.i1 s := by
  simp only [i1S, Sh.fitsL, Sh.fits] at h
  obtain ⟨_, _, rfl, ⟨a, rfl, _⟩, rfl⟩ := h
  exact ⟨a, rfl⟩
theorem can_fits {v : AV} (h : Sh.fits canSh v) : ∃ d : Dm, v = .agg d.cells := by
  simp only [canSh, Sh.fitsL, Sh.fits] at h
  obtain ⟨_, rfl, _, _, rfl, ⟨r1, rfl, _, h1⟩, _, _, rfl, ⟨a, rfl, _⟩, _, _, rfl, ⟨b, rfl, _⟩, _, _, rfl, ⟨c, rfl, _⟩, _, _, rfl, ⟨e, rfl, _⟩, _, _, rfl, ⟨f, rfl, _⟩, _, _, rfl, ⟨g, rfl, _⟩, _, _, rfl, ⟨r2, rfl, _, h2⟩, _, _, rfl, ⟨r3, rfl, _, h3⟩, rfl⟩ := h
  obtain ⟨ss, rfl⟩ := rows_fits Sec.av sec_fits h1
  obtain ⟨rs, rfl⟩ := rows_fits s2 pair_fits h2
  obtain ⟨sh, rfl⟩ := rows_fits Go.Proofs.i1 one_fits h3
  exact ⟨⟨⟨ss, a, b, c, e, f, g⟩, rs, sh⟩, rfl⟩
theorem class_fits {v : AV} (h : Sh.fits (.sl i2) v) : ∃ l : List Gu, v = .isl (l.map Gu.av) ∧ l.length ≤ maxLen := by
  simp only [Sh.fits] at h
  obtain ⟨rows, rfl, hl, hr⟩ := h
  obtain ⟨ss, rfl⟩ := rows_fits Gu.av gust_fits hr
  exact ⟨ss, rfl, by simpa using hl⟩
theorem gu_fits {v : AV} (h : Sh.fits (.agg i2) v) : ∃ g : Gu, v = .agg g.av := by
  simp only [Sh.fits] at h
  obtain ⟨l, rfl, h⟩ := h
  obtain ⟨g, rfl⟩ := gust_fits l h
  exact ⟨g, rfl⟩
theorem int_fits {k : IntKind} {v : AV} (h : Sh.fits (.int k) v) : ∃ a : Int, v = .int k a ∧ (Lit.int k a).wf = true := by
  simpa only [Sh.fits] using h

end Go.Proofs.YtkpdkhidlhaaiaaGreat
