/- TopCurve answers true and leaves its argument as it was, for every figure, with no condition. -/
import Derived.Test.YtkkpokakjblenaaDOpen
import Derived.Test.YtkkpokakjblenaaDFns3
namespace Go.Proofs.Ytkkpokakjblenaa
open Go.ChangeShapes Go.WideShapes Go.ChangeAt Go.RowKit Go.Eng Go.Joins
theorem tcurve_main (avs : List AV) (h : Sh.fitsL [figSh] avs) : FnA Try.prog 16 avs (· = .bool true) := by
  simp only [Sh.fitsL] at h
  obtain ⟨v, _, rfl, h1, rfl⟩ := h
  obtain ⟨f, rfl⟩ := fig_fits h1
  exact l16 f

set_option maxRecDepth 100000 in
theorem topCurve_lifted (os : Os) (started : os.Started) (H : Type) (enc : TypeId × Value → H) :
    ReturnsInHanded {} Try.checked os 16 .any (Rows.topCurveSpec.pre6 enc Try.prog Try.f16 Rows.topCurveRow.domain false) (Rows.topCurveSpec.post enc Try.prog Try.f16 false true false false) :=
  returnsInHanded_of_change (C := Try.checked) Try.own started (by kernel_rfl) Try.func16
    (ChangeSpec.witness6 (enc := enc) (C := Try.checked) false ⟨#[], #[.agg #[.slice none 0 0, .slice none 0 0, .int .i64 0, .slice none 0 0, .slice none 0 0, .int .i64 0, .int .i64 0, .int .i64 0, .int .i64 0, .slice none 0 0, .slice none 0 0]], []⟩ 12 (by kernel_rfl) (by kernel_rfl) (by kernel_rfl) (by kernel_rfl))
    (fun W base args ds gs before hval hW _ _ => lift_true (C := Try.checked) (s := Rows.topCurveSpec) (ss := [figSh]) Try.laidOut rfl rfl (by kernel_rfl) (by kernel_rfl) (by kernel_rfl)
        (fun ds hds => by
          match ds, hds with
          | [d1], _ => exact ⟨rfl, rfl, rfl⟩) tcurve_main W base args ds gs before hval hW)

set_option maxRecDepth 100000 in
theorem topCurve_holds : Rows.TopCurveSaid :=
  OpenClaim.holds_of_wide 16 Try.f16 rfl rfl rfl rfl rfl rfl rfl ⟨rfl, rfl, rfl, rfl, rfl⟩ rfl rfl rfl rfl rfl (by kernel_rfl) Try.func16 (by kernel_rfl)
    (of_decide_eq_true (by kernel_rfl)) (by unfold Func.isWrapper; first | (rw [if_pos (by decide +kernel)]; kernel_rfl) | (rw [if_neg (by decide +kernel)]; exact ⟨rfl, rfl⟩))
    (fun os started H enc _ => topCurve_lifted os started H enc)
#print axioms topCurve_holds
end Go.Proofs.Ytkkpokakjblenaa
