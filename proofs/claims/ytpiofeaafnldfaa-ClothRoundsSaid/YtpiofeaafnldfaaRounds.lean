/- ClothRounds answers true and leaves its arguments as they were, for every dome and every number of a round, with no condition. -/
import Derived.Test.YtpiofeaafnldfaaOpen
namespace Go.Proofs.Ytpiofeaafnldfaa
open Go.ChangeShapes Go.WideShapes Go.ChangeAt Go.RowKit Go.Eng Go.Joins
theorem rounds_main (avs : List AV) (h : Sh.fitsL [domeSh, .int .i64] avs) : FnA Try.prog 12 avs (· = .bool true) := by
  simp only [Sh.fitsL] at h
  obtain ⟨v, _, rfl, h1, u, _, rfl, h2, rfl⟩ := h
  obtain ⟨d, rfl⟩ := dome_fits h1
  obtain ⟨a, rfl, _⟩ := int_fits h2
  exact k12 d a

set_option maxRecDepth 100000 in
theorem clothRounds_lifted (os : Os) (started : os.Started) (H : Type) (enc : TypeId × Value → H) :
    ReturnsInHanded {} Try.checked os 12 .any (Rows.clothRoundsSpec.pre6 enc Try.prog Try.f12 Rows.clothRoundsRow.domain false) (Rows.clothRoundsSpec.post enc Try.prog Try.f12 false true false false) :=
  returnsInHanded_of_change (C := Try.checked) Try.own started (by kernel_rfl) Try.func12
    (ChangeSpec.witness6 (enc := enc) (C := Try.checked) false ⟨#[], #[.agg #[.slice none 0 0, .slice none 0 0, .int .i64 0, .slice none 0 0, .slice none 0 0, .int .i64 0], .int .i64 0], []⟩ 12 (by kernel_rfl) (by kernel_rfl) (by kernel_rfl) (by kernel_rfl))
    (fun W base args ds gs before hval hW _ _ => lift_true (C := Try.checked) (s := Rows.clothRoundsSpec) (ss := [domeSh, .int .i64]) Try.laidOut rfl rfl (by kernel_rfl) (by kernel_rfl) (by kernel_rfl)
        (fun ds hds => by
          match ds, hds with
          | [d1, d2], _ => exact ⟨rfl, rfl, rfl⟩) rounds_main W base args ds gs before hval hW)

set_option maxRecDepth 100000 in
theorem clothRounds_holds : Rows.ClothRoundsSaid :=
  OpenClaim.holds_of_wide 12 Try.f12 rfl rfl rfl rfl rfl rfl rfl ⟨rfl, rfl, rfl, rfl, rfl⟩ rfl rfl rfl rfl rfl (by kernel_rfl) Try.func12 (by kernel_rfl)
    (of_decide_eq_true (by kernel_rfl)) (by unfold Func.isWrapper; first | (rw [if_pos (by decide +kernel)]; kernel_rfl) | (rw [if_neg (by decide +kernel)]; exact ⟨rfl, rfl⟩))
    (fun os started H enc _ => clothRounds_lifted os started H enc)
#print axioms clothRounds_holds
end Go.Proofs.Ytpiofeaafnldfaa
