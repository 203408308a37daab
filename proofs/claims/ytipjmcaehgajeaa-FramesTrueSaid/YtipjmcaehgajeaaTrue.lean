/- FramesTrue answers true and leaves its arguments as they were, for every frame, every list of arms and stretchers and every section and position, with no condition. -/
import Derived.Test.YtipjmcaehgajeaaOpen
import Derived.Test.YtipjmcaehgajeaaFns3
namespace Go.Proofs.Ytipjmcaehgajeaa
open Go.ChangeShapes Go.WideShapes Go.ChangeAt Go.RowKit Go.Eng Go.Joins
theorem pairs_fits : ∀ {rows : List (List AV)}, (∀ r ∈ rows, Sh.fitsL [.int .i64, .int .i64] r) → ∃ ts : List (Int × Int), rows = ts.map pairAV
  | [], _ => ⟨[], rfl⟩
  | r :: rows, h => by
    have h0 := h r (by simp)
    simp only [Sh.fitsL, Sh.fits] at h0
    obtain ⟨_, _, rfl, ⟨a, rfl, _⟩, _, _, rfl, ⟨b, rfl, _⟩, rfl⟩ := h0
    obtain ⟨ts, rfl⟩ := pairs_fits (rows := rows) fun r hr => h r (by simp [hr])
    exact ⟨(a, b) :: ts, rfl⟩
theorem true_main (avs : List AV) (h : Sh.fitsL [frmSh, .sl [.int .i64, .int .i64], i2Sh] avs) : FnA Try.prog 5 avs (· = .bool true) := by
  simp only [Sh.fitsL] at h
  obtain ⟨v, _, rfl, h1, u, _, rfl, h2, x, _, rfl, h3, rfl⟩ := h
  obtain ⟨f, rfl, _⟩ := frm_fits h1
  simp only [Sh.fits] at h2
  obtain ⟨rows, rfl, hl, hr⟩ := h2
  obtain ⟨ts, rfl⟩ := pairs_fits hr
  obtain ⟨a, b, rfl⟩ := i2_fits h3
  exact k5 f ts a b (by simpa using hl) k12

set_option maxRecDepth 100000 in
theorem framesTrue_lifted (os : Os) (started : os.Started) (H : Type) (enc : TypeId × Value → H) :
    ReturnsInHanded {} Try.checked os 5 .any (Rows.framesTrueSpec.pre6 enc Try.prog Try.f5 Rows.framesTrueRow.domain false) (Rows.framesTrueSpec.post enc Try.prog Try.f5 false true false false) :=
  returnsInHanded_of_change (C := Try.checked) Try.own started (by kernel_rfl) Try.func5
    (ChangeSpec.witness6 (enc := enc) (C := Try.checked) false ⟨#[], #[.agg #[.slice none 0 0, .int .i64 0, .int .i64 0, .int .i64 0, .int .i64 0, .int .i64 0, .int .i64 0], .slice none 0 0, .agg #[.int .i64 0, .int .i64 0]], []⟩ 12 (by kernel_rfl) (by kernel_rfl) (by kernel_rfl) (by kernel_rfl))
    (fun W base args ds gs before hval hW _ _ => lift_true (C := Try.checked) (s := Rows.framesTrueSpec) (ss := [frmSh, .sl [.int .i64, .int .i64], i2Sh]) Try.laidOut rfl rfl (by kernel_rfl) (by kernel_rfl) (by kernel_rfl)
        (fun ds hds => by
          match ds, hds with
          | [d1, d2, d3], _ => exact ⟨rfl, rfl, rfl⟩) true_main W base args ds gs before hval hW)

set_option maxRecDepth 100000 in
theorem framesTrue_holds : Rows.FramesTrueSaid :=
  OpenClaim.holds_of_wide 5 Try.f5 rfl rfl rfl rfl rfl rfl rfl ⟨rfl, rfl, rfl, rfl, rfl⟩ rfl rfl rfl rfl rfl (by kernel_rfl) Try.func5 (by kernel_rfl)
    (of_decide_eq_true (by kernel_rfl)) (by unfold Func.isWrapper; first | (rw [if_pos (by decide +kernel)]; kernel_rfl) | (rw [if_neg (by decide +kernel)]; exact ⟨rfl, rfl⟩))
    (fun os started H enc _ => framesTrue_lifted os started H enc)
#print axioms framesTrue_holds
end Go.Proofs.Ytipjmcaehgajeaa
