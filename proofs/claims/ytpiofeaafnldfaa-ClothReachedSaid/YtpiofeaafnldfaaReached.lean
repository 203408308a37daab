/- ClothReached answers true and leaves its arguments as they were, for every dome, every list of numbers and every number of a round, with no condition. -/
import Derived.Test.YtpiofeaafnldfaaOpen
import Derived.Test.YtpiofeaafnldfaaFns3
namespace Go.Proofs.Ytpiofeaafnldfaa
open Go.ChangeShapes Go.WideShapes Go.ChangeAt Go.RowKit Go.Eng Go.Joins
theorem reached_main (avs : List AV) (h : Sh.fitsL [domeSh, .sl i1, .int .i64] avs) : FnA Try.prog 4 avs (· = .bool true) := by
  simp only [Sh.fitsL] at h
  obtain ⟨v, _, rfl, h1, u, _, rfl, h2, x, _, rfl, h3, rfl⟩ := h
  obtain ⟨d, rfl⟩ := dome_fits h1
  simp only [Sh.fits] at h2
  obtain ⟨rows, rfl, hl, hr⟩ := h2
  obtain ⟨ts, rfl⟩ := rows_fits iAV one_fits hr
  obtain ⟨a, rfl, _⟩ := int_fits h3
  exact k4 d ts a

set_option maxRecDepth 100000 in
theorem clothReached_lifted (os : Os) (started : os.Started) (H : Type) (enc : TypeId × Value → H) :
    ReturnsInHanded {} Try.checked os 4 .any (Rows.clothReachedSpec.pre6 enc Try.prog Try.f4 Rows.clothReachedRow.domain false) (Rows.clothReachedSpec.post enc Try.prog Try.f4 false true false false) :=
  returnsInHanded_of_change (C := Try.checked) Try.own started (by kernel_rfl) Try.func4
    (ChangeSpec.witness6 (enc := enc) (C := Try.checked) false ⟨#[], #[.agg #[.slice none 0 0, .slice none 0 0, .int .i64 0, .slice none 0 0, .slice none 0 0, .int .i64 0], .slice none 0 0, .int .i64 0], []⟩ 12 (by kernel_rfl) (by kernel_rfl) (by kernel_rfl) (by kernel_rfl))
    (fun W base args ds gs before hval hW _ _ => lift_true (C := Try.checked) (s := Rows.clothReachedSpec) (ss := [domeSh, .sl i1, .int .i64]) Try.laidOut rfl rfl (by kernel_rfl) (by kernel_rfl) (by kernel_rfl)
        (fun ds hds => by
          match ds, hds with
          | [d1, d2, d3], _ => exact ⟨rfl, rfl, rfl⟩) reached_main W base args ds gs before hval hW)

set_option maxRecDepth 100000 in
theorem clothReached_holds : Rows.ClothReachedSaid :=
  OpenClaim.holds_of_wide 4 Try.f4 rfl rfl rfl rfl rfl rfl rfl ⟨rfl, rfl, rfl, rfl, rfl⟩ rfl rfl rfl rfl rfl (by kernel_rfl) Try.func4 (by kernel_rfl)
    (of_decide_eq_true (by kernel_rfl)) (by unfold Func.isWrapper; first | (rw [if_pos (by decide +kernel)]; kernel_rfl) | (rw [if_neg (by decide +kernel)]; exact ⟨rfl, rfl⟩))
    (fun os started H enc _ => clothReached_lifted os started H enc)
#print axioms clothReached_holds
end Go.Proofs.Ytpiofeaafnldfaa
