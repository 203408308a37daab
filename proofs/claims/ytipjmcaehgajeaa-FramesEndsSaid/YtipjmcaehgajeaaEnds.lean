/- FramesEnds answers true and leaves its arguments as they were, for every frame and every section and position, with no condition. -/
import Derived.Test.YtipjmcaehgajeaaOpen
import Derived.Test.YtipjmcaehgajeaaFns3
namespace Go.Proofs.Ytipjmcaehgajeaa
open Go.ChangeShapes Go.WideShapes Go.ChangeAt Go.RowKit Go.Eng Go.Joins
theorem ends_main (avs : List AV) (h : Sh.fitsL [frmSh, i2Sh] avs) : FnA Try.prog 6 avs (· = .bool true) := by
  simp only [Sh.fitsL] at h
  obtain ⟨v, _, rfl, h1, u, _, rfl, h2, rfl⟩ := h
  obtain ⟨f, rfl, _⟩ := frm_fits h1
  obtain ⟨a, b, rfl⟩ := i2_fits h2
  exact k6 f a b k12

set_option maxRecDepth 100000 in
theorem framesEnds_lifted (os : Os) (started : os.Started) (H : Type) (enc : TypeId × Value → H) :
    ReturnsInHanded {} Try.checked os 6 .any (Rows.framesEndsSpec.pre6 enc Try.prog Try.f6 Rows.framesEndsRow.domain false) (Rows.framesEndsSpec.post enc Try.prog Try.f6 false true false false) :=
  returnsInHanded_of_change (C := Try.checked) Try.own started (by kernel_rfl) Try.func6
    (ChangeSpec.witness6 (enc := enc) (C := Try.checked) false ⟨#[], #[.agg #[.slice none 0 0, .int .i64 0, .int .i64 0, .int .i64 0, .int .i64 0, .int .i64 0, .int .i64 0], .agg #[.int .i64 0, .int .i64 0]], []⟩ 12 (by kernel_rfl) (by kernel_rfl) (by kernel_rfl) (by kernel_rfl))
    (fun W base args ds gs before hval hW _ _ => lift_true (C := Try.checked) (s := Rows.framesEndsSpec) (ss := [frmSh, i2Sh]) Try.laidOut rfl rfl (by kernel_rfl) (by kernel_rfl) (by kernel_rfl)
        (fun ds hds => by
          match ds, hds with
          | [d1, d2], _ => exact ⟨rfl, rfl, rfl⟩) ends_main W base args ds gs before hval hW)

set_option maxRecDepth 100000 in
theorem framesEnds_holds : Rows.FramesEndsSaid :=
  OpenClaim.holds_of_wide 6 Try.f6 rfl rfl rfl rfl rfl rfl rfl ⟨rfl, rfl, rfl, rfl, rfl⟩ rfl rfl rfl rfl rfl (by kernel_rfl) Try.func6 (by kernel_rfl)
    (of_decide_eq_true (by kernel_rfl)) (by unfold Func.isWrapper; first | (rw [if_pos (by decide +kernel)]; kernel_rfl) | (rw [if_neg (by decide +kernel)]; exact ⟨rfl, rfl⟩))
    (fun os started H enc _ => framesEnds_lifted os started H enc)
#print axioms framesEnds_holds
end Go.Proofs.Ytipjmcaehgajeaa
