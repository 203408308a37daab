/- ClothCurve answers true and leaves its arguments as they were, for every dome, with no condition. -/
import Derived.Test.YtpiofeaafnldfaaOpen
import Derived.Test.YtpiofeaafnldfaaFns4
namespace Go.Proofs.Ytpiofeaafnldfaa
open Go.ChangeShapes Go.WideShapes Go.ChangeAt Go.RowKit Go.Eng Go.Joins
theorem curve_main (avs : List AV) (h : Sh.fitsL [domeSh] avs) : FnA Try.prog 14 avs (· = .bool true) := by
  simp only [Sh.fitsL] at h
  obtain ⟨v, _, rfl, h1, rfl⟩ := h
  obtain ⟨d, rfl⟩ := dome_fits h1
  exact k14 d

set_option maxRecDepth 100000 in
theorem clothCurve_lifted (os : Os) (started : os.Started) (H : Type) (enc : TypeId × Value → H) :
    ReturnsInHanded {} Try.checked os 14 .any (Rows.clothCurveSpec.pre6 enc Try.prog Try.f14 Rows.clothCurveRow.domain false) (Rows.clothCurveSpec.post enc Try.prog Try.f14 false true false false) :=
  returnsInHanded_of_change (C := Try.checked) Try.own started (by kernel_rfl) Try.func14
    (ChangeSpec.witness6 (enc := enc) (C := Try.checked) false ⟨#[], #[.agg #[.slice none 0 0, .slice none 0 0, .int .i64 0, .slice none 0 0, .slice none 0 0, .int .i64 0]], []⟩ 12 (by kernel_rfl) (by kernel_rfl) (by kernel_rfl) (by kernel_rfl))
    (fun W base args ds gs before hval hW _ _ => lift_true (C := Try.checked) (s := Rows.clothCurveSpec) (ss := [domeSh]) Try.laidOut rfl rfl (by kernel_rfl) (by kernel_rfl) (by kernel_rfl)
        (fun ds hds => by
          match ds, hds with
          | [d1], _ => exact ⟨rfl, rfl, rfl⟩) curve_main W base args ds gs before hval hW)

set_option maxRecDepth 100000 in
theorem clothCurve_holds : Rows.ClothCurveSaid :=
  OpenClaim.holds_of_wide 14 Try.f14 rfl rfl rfl rfl rfl rfl rfl ⟨rfl, rfl, rfl, rfl, rfl⟩ rfl rfl rfl rfl rfl (by kernel_rfl) Try.func14 (by kernel_rfl)
    (of_decide_eq_true (by kernel_rfl)) (by unfold Func.isWrapper; first | (rw [if_pos (by decide +kernel)]; kernel_rfl) | (rw [if_neg (by decide +kernel)]; exact ⟨rfl, rfl⟩))
    (fun os started H enc _ => clothCurve_lifted os started H enc)
#print axioms clothCurve_holds
end Go.Proofs.Ytpiofeaafnldfaa
