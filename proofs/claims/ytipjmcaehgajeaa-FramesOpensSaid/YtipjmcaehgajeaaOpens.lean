/- FramesOpens answers true and leaves its arguments as they were, for every frame and every section, with no condition. -/
import Derived.Test.YtipjmcaehgajeaaOpen
namespace Go.Proofs.Ytipjmcaehgajeaa
open Go.ChangeShapes Go.WideShapes Go.ChangeAt Go.RowKit Go.Eng Go.Joins
theorem opens_main (avs : List AV) (h : Sh.fitsL [frmSh, .int .i64] avs) : FnA Try.prog 4 avs (· = .bool true) := by
  simp only [Sh.fitsL] at h
  obtain ⟨v, _, rfl, h1, u, _, rfl, h2, rfl⟩ := h
  obtain ⟨f, rfl, _⟩ := frm_fits h1
  obtain ⟨a, rfl, _⟩ := int_fits h2
  exact k4 f a k12

set_option maxRecDepth 100000 in
theorem framesOpens_lifted (os : Os) (started : os.Started) (H : Type) (enc : TypeId × Value → H) :
    ReturnsInHanded {} Try.checked os 4 .any (Rows.framesOpensSpec.pre6 enc Try.prog Try.f4 Rows.framesOpensRow.domain false) (Rows.framesOpensSpec.post enc Try.prog Try.f4 false true false false) :=
  returnsInHanded_of_change (C := Try.checked) Try.own started (by kernel_rfl) Try.func4
    (ChangeSpec.witness6 (enc := enc) (C := Try.checked) false ⟨#[], #[.agg #[.slice none 0 0, .int .i64 0, .int .i64 0, .int .i64 0, .int .i64 0, .int .i64 0, .int .i64 0], .int .i64 0], []⟩ 12 (by kernel_rfl) (by kernel_rfl) (by kernel_rfl) (by kernel_rfl))
    (fun W base args ds gs before hval hW _ _ => lift_true (C := Try.checked) (s := Rows.framesOpensSpec) (ss := [frmSh, .int .i64]) Try.laidOut rfl rfl (by kernel_rfl) (by kernel_rfl) (by kernel_rfl)
        (fun ds hds => by
          match ds, hds with
          | [d1, d2], _ => exact ⟨rfl, rfl, rfl⟩) opens_main W base args ds gs before hval hW)

set_option maxRecDepth 100000 in
theorem framesOpens_holds : Rows.FramesOpensSaid :=
  OpenClaim.holds_of_wide 4 Try.f4 rfl rfl rfl rfl rfl rfl rfl ⟨rfl, rfl, rfl, rfl, rfl⟩ rfl rfl rfl rfl rfl (by kernel_rfl) Try.func4 (by kernel_rfl)
    (of_decide_eq_true (by kernel_rfl)) (by unfold Func.isWrapper; first | (rw [if_pos (by decide +kernel)]; kernel_rfl) | (rw [if_neg (by decide +kernel)]; exact ⟨rfl, rfl⟩))
    (fun os started H enc _ => framesOpens_lifted os started H enc)
#print axioms framesOpens_holds
end Go.Proofs.Ytipjmcaehgajeaa
