/- FramesLarger answers true and leaves its arguments as they were, for every pair, every radius and every multiple, with no condition. -/
import Derived.Test.YtipjmcaehgajeaaOpen
namespace Go.Proofs.Ytipjmcaehgajeaa
open Go.ChangeShapes Go.WideShapes Go.ChangeAt Go.RowKit Go.Eng Go.Joins
theorem larger_main (avs : List AV) (h : Sh.fitsL [i2Sh, .int .i64, .int .i64] avs) : FnA Try.prog 9 avs (· = .bool true) := by
  simp only [Sh.fitsL] at h
  obtain ⟨v, _, rfl, h1, u, _, rfl, h2, x, _, rfl, h3, rfl⟩ := h
  obtain ⟨a, b, rfl⟩ := i2_fits h1
  obtain ⟨c, rfl, _⟩ := int_fits h2
  obtain ⟨d, rfl, _⟩ := int_fits h3
  exact k9 a b c d k12

set_option maxRecDepth 100000 in
theorem framesLarger_lifted (os : Os) (started : os.Started) (H : Type) (enc : TypeId × Value → H) :
    ReturnsInHanded {} Try.checked os 9 .any (Rows.framesLargerSpec.pre6 enc Try.prog Try.f9 Rows.framesLargerRow.domain false) (Rows.framesLargerSpec.post enc Try.prog Try.f9 false true false false) :=
  returnsInHanded_of_change (C := Try.checked) Try.own started (by kernel_rfl) Try.func9
    (ChangeSpec.witness6 (enc := enc) (C := Try.checked) false ⟨#[], #[.agg #[.int .i64 0, .int .i64 0], .int .i64 0, .int .i64 0], []⟩ 12 (by kernel_rfl) (by kernel_rfl) (by kernel_rfl) (by kernel_rfl))
    (fun W base args ds gs before hval hW _ _ => lift_true (C := Try.checked) (s := Rows.framesLargerSpec) (ss := [i2Sh, .int .i64, .int .i64]) Try.laidOut rfl rfl (by kernel_rfl) (by kernel_rfl) (by kernel_rfl)
        (fun ds hds => by
          match ds, hds with
          | [d1, d2, d3], _ => exact ⟨rfl, rfl, rfl⟩) larger_main W base args ds gs before hval hW)

set_option maxRecDepth 100000 in
theorem framesLarger_holds : Rows.FramesLargerSaid :=
  OpenClaim.holds_of_wide 9 Try.f9 rfl rfl rfl rfl rfl rfl rfl ⟨rfl, rfl, rfl, rfl, rfl⟩ rfl rfl rfl rfl rfl (by kernel_rfl) Try.func9 (by kernel_rfl)
    (of_decide_eq_true (by kernel_rfl)) (by unfold Func.isWrapper; first | (rw [if_pos (by decide +kernel)]; kernel_rfl) | (rw [if_neg (by decide +kernel)]; exact ⟨rfl, rfl⟩))
    (fun os started H enc _ => framesLarger_lifted os started H enc)
#print axioms framesLarger_holds
end Go.Proofs.Ytipjmcaehgajeaa
