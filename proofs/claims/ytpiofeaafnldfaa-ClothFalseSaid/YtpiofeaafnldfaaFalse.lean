/- ClothFalse answers true and leaves its arguments as they were, for every dome, every pair of a bolt and a round and every number of a strip, with no condition. -/
import Derived.Test.YtpiofeaafnldfaaOpen
import Derived.Test.YtpiofeaafnldfaaFns5
namespace Go.Proofs.Ytpiofeaafnldfaa
open Go.ChangeShapes Go.WideShapes Go.ChangeAt Go.RowKit Go.Eng Go.Joins
theorem false_main (avs : List AV) (h : Sh.fitsL [domeSh, .agg i2, .int .i64] avs) : FnA Try.prog 10 avs (· = .bool true) := by
  simp only [Sh.fitsL] at h
  obtain ⟨v, _, rfl, h1, u, _, rfl, h2, x, _, rfl, h3, rfl⟩ := h
  obtain ⟨d, rfl⟩ := dome_fits h1
  simp only [i2, Sh.fitsL, Sh.fits] at h2
  obtain ⟨_, rfl, _, _, rfl, ⟨a, rfl, _⟩, _, _, rfl, ⟨b, rfl, _⟩, rfl⟩ := h2
  obtain ⟨c, rfl, _⟩ := int_fits h3
  exact k10 d a b c

set_option maxRecDepth 100000 in
theorem clothFalse_lifted (os : Os) (started : os.Started) (H : Type) (enc : TypeId × Value → H) :
    ReturnsInHanded {} Try.checked os 10 .any (Rows.clothFalseSpec.pre6 enc Try.prog Try.f10 Rows.clothFalseRow.domain false) (Rows.clothFalseSpec.post enc Try.prog Try.f10 false true false false) :=
  returnsInHanded_of_change (C := Try.checked) Try.own started (by kernel_rfl) Try.func10
    (ChangeSpec.witness6 (enc := enc) (C := Try.checked) false ⟨#[], #[.agg #[.slice none 0 0, .slice none 0 0, .int .i64 0, .slice none 0 0, .slice none 0 0, .int .i64 0], .agg #[.int .i64 0, .int .i64 0], .int .i64 0], []⟩ 12 (by kernel_rfl) (by kernel_rfl) (by kernel_rfl) (by kernel_rfl))
    (fun W base args ds gs before hval hW _ _ => lift_true (C := Try.checked) (s := Rows.clothFalseSpec) (ss := [domeSh, .agg i2, .int .i64]) Try.laidOut rfl rfl (by kernel_rfl) (by kernel_rfl) (by kernel_rfl)
        (fun ds hds => by
          match ds, hds with
          | [d1, d2, d3], _ => exact ⟨rfl, rfl, rfl⟩) false_main W base args ds gs before hval hW)

set_option maxRecDepth 100000 in
theorem clothFalse_holds : Rows.ClothFalseSaid :=
  OpenClaim.holds_of_wide 10 Try.f10 rfl rfl rfl rfl rfl rfl rfl ⟨rfl, rfl, rfl, rfl, rfl⟩ rfl rfl rfl rfl rfl (by kernel_rfl) Try.func10 (by kernel_rfl)
    (of_decide_eq_true (by kernel_rfl)) (by unfold Func.isWrapper; first | (rw [if_pos (by decide +kernel)]; kernel_rfl) | (rw [if_neg (by decide +kernel)]; exact ⟨rfl, rfl⟩))
    (fun os started H enc _ => clothFalse_lifted os started H enc)
#print axioms clothFalse_holds
end Go.Proofs.Ytpiofeaafnldfaa
