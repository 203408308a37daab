/- ClothCuts answers true and leaves its arguments as they were, for every dome and every number of a round, with no condition. -/
import Derived.Test.YtpiofeaafnldfaaOpen
import Derived.Test.YtpiofeaafnldfaaFns4
namespace Go.Proofs.Ytpiofeaafnldfaa
open Go.ChangeShapes Go.WideShapes Go.ChangeAt Go.RowKit Go.Eng Go.Joins
theorem cuts_main (avs : List AV) (h : Sh.fitsL [domeSh, .int .i64] avs) : FnA Try.prog 13 avs (· = .bool true) := by
  simp only [Sh.fitsL] at h
  obtain ⟨v, _, rfl, h1, u, _, rfl, h2, rfl⟩ := h
  obtain ⟨d, rfl⟩ := dome_fits h1
  obtain ⟨a, rfl, _⟩ := int_fits h2
  exact k13 d a

set_option maxRecDepth 100000 in
theorem clothCuts_lifted (os : Os) (started : os.Started) (H : Type) (enc : TypeId × Value → H) :
    ReturnsInHanded {} Try.checked os 13 .any (Rows.clothCutsSpec.pre6 enc Try.prog Try.f13 Rows.clothCutsRow.domain false) (Rows.clothCutsSpec.post enc Try.prog Try.f13 false true false false) :=
  returnsInHanded_of_change (C := Try.checked) Try.own started (by kernel_rfl) Try.func13
    (ChangeSpec.witness6 (enc := enc) (C := Try.checked) false ⟨#[], #[.agg #[.slice none 0 0, .slice none 0 0, .int .i64 0, .slice none 0 0, .slice none 0 0, .int .i64 0], .int .i64 0], []⟩ 12 (by kernel_rfl) (by kernel_rfl) (by kernel_rfl) (by kernel_rfl))
    (fun W base args ds gs before hval hW _ _ => lift_true (C := Try.checked) (s := Rows.clothCutsSpec) (ss := [domeSh, .int .i64]) Try.laidOut rfl rfl (by kernel_rfl) (by kernel_rfl) (by kernel_rfl)
        (fun ds hds => by
          match ds, hds with
          | [d1, d2], _ => exact ⟨rfl, rfl, rfl⟩) cuts_main W base args ds gs before hval hW)

set_option maxRecDepth 100000 in
theorem clothCuts_holds : Rows.ClothCutsSaid :=
  OpenClaim.holds_of_wide 13 Try.f13 rfl rfl rfl rfl rfl rfl rfl ⟨rfl, rfl, rfl, rfl, rfl⟩ rfl rfl rfl rfl rfl (by kernel_rfl) Try.func13 (by kernel_rfl)
    (of_decide_eq_true (by kernel_rfl)) (by unfold Func.isWrapper; first | (rw [if_pos (by decide +kernel)]; kernel_rfl) | (rw [if_neg (by decide +kernel)]; exact ⟨rfl, rfl⟩))
    (fun os started H enc _ => clothCuts_lifted os started H enc)
#print axioms clothCuts_holds
end Go.Proofs.Ytpiofeaafnldfaa
