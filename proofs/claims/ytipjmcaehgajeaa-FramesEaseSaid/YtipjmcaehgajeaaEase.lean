/- FramesEase answers true and leaves its arguments as they were, for every frame, every greater ease and every section and position, with no condition. -/
import Derived.Test.YtipjmcaehgajeaaOpen
namespace Go.Proofs.Ytipjmcaehgajeaa
open Go.ChangeShapes Go.WideShapes Go.ChangeAt Go.RowKit Go.Eng Go.Joins
theorem ease_main (avs : List AV) (h : Sh.fitsL [frmSh, i2Sh, i2Sh] avs) : FnA Try.prog 8 avs (· = .bool true) := by
  simp only [Sh.fitsL] at h
  obtain ⟨v, _, rfl, h1, u, _, rfl, h2, x, _, rfl, h3, rfl⟩ := h
  obtain ⟨f, rfl, _⟩ := frm_fits h1
  obtain ⟨a, b, rfl⟩ := i2_fits h2
  obtain ⟨c, d, rfl⟩ := i2_fits h3
  exact k8 f a b c d k12

set_option maxRecDepth 100000 in
theorem framesEase_lifted (os : Os) (started : os.Started) (H : Type) (enc : TypeId × Value → H) :
    ReturnsInHanded {} Try.checked os 8 .any (Rows.framesEaseSpec.pre6 enc Try.prog Try.f8 Rows.framesEaseRow.domain false) (Rows.framesEaseSpec.post enc Try.prog Try.f8 false true false false) :=
  returnsInHanded_of_change (C := Try.checked) Try.own started (by kernel_rfl) Try.func8
    (ChangeSpec.witness6 (enc := enc) (C := Try.checked) false ⟨#[], #[.agg #[.slice none 0 0, .int .i64 0, .int .i64 0, .int .i64 0, .int .i64 0, .int .i64 0, .int .i64 0], .agg #[.int .i64 0, .int .i64 0], .agg #[.int .i64 0, .int .i64 0]], []⟩ 12 (by kernel_rfl) (by kernel_rfl) (by kernel_rfl) (by kernel_rfl))
    (fun W base args ds gs before hval hW _ _ => lift_true (C := Try.checked) (s := Rows.framesEaseSpec) (ss := [frmSh, i2Sh, i2Sh]) Try.laidOut rfl rfl (by kernel_rfl) (by kernel_rfl) (by kernel_rfl)
        (fun ds hds => by
          match ds, hds with
          | [d1, d2, d3], _ => exact ⟨rfl, rfl, rfl⟩) ease_main W base args ds gs before hval hW)

set_option maxRecDepth 100000 in
theorem framesEase_holds : Rows.FramesEaseSaid :=
  OpenClaim.holds_of_wide 8 Try.f8 rfl rfl rfl rfl rfl rfl rfl ⟨rfl, rfl, rfl, rfl, rfl⟩ rfl rfl rfl rfl rfl (by kernel_rfl) Try.func8 (by kernel_rfl)
    (of_decide_eq_true (by kernel_rfl)) (by unfold Func.isWrapper; first | (rw [if_pos (by decide +kernel)]; kernel_rfl) | (rw [if_neg (by decide +kernel)]; exact ⟨rfl, rfl⟩))
    (fun os started H enc _ => framesEase_lifted os started H enc)
#print axioms framesEase_holds
end Go.Proofs.Ytipjmcaehgajeaa
