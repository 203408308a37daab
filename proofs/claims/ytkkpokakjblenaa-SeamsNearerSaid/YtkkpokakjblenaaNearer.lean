/- SeamsNearer answers true and leaves its arguments as they were, for every figure and every number, with no condition. -/
import Derived.Test.YtkkpokakjblenaaOpen
import Derived.Test.YtkkpokakjblenaaFns5
namespace Go.Proofs.Ytkkpokakjblenaa
open Go.ChangeShapes Go.WideShapes Go.ChangeAt Go.RowKit Go.Eng Go.Joins
theorem snearer_main (avs : List AV) (h : Sh.fitsL [figSh, .int .i64] avs) : FnA Try.prog 5 avs (· = .bool true) := by
  simp only [Sh.fitsL] at h
  obtain ⟨v, _, rfl, h1, u, _, rfl, h2, rfl⟩ := h
  obtain ⟨f, rfl⟩ := fig_fits h1
  obtain ⟨a1, rfl, _⟩ := int_fits h2
  exact l5 f a1

set_option maxRecDepth 100000 in
theorem seamsNearer_lifted (os : Os) (started : os.Started) (H : Type) (enc : TypeId × Value → H) :
    ReturnsInHanded {} Try.checked os 5 .any (Rows.seamsNearerSpec.pre6 enc Try.prog Try.f5 Rows.seamsNearerRow.domain false) (Rows.seamsNearerSpec.post enc Try.prog Try.f5 false true false false) :=
  returnsInHanded_of_change (C := Try.checked) Try.own started (by kernel_rfl) Try.func5
    (ChangeSpec.witness6 (enc := enc) (C := Try.checked) false ⟨#[], #[.agg #[.slice none 0 0, .slice none 0 0, .int .i64 0, .slice none 0 0, .slice none 0 0, .int .i64 0, .int .i64 0, .int .i64 0, .int .i64 0, .slice none 0 0, .slice none 0 0], .int .i64 0], []⟩ 12 (by kernel_rfl) (by kernel_rfl) (by kernel_rfl) (by kernel_rfl))
    (fun W base args ds gs before hval hW _ _ => lift_true (C := Try.checked) (s := Rows.seamsNearerSpec) (ss := [figSh, .int .i64]) Try.laidOut rfl rfl (by kernel_rfl) (by kernel_rfl) (by kernel_rfl)
        (fun ds hds => by
          match ds, hds with
          | [d1, d2], _ => exact ⟨rfl, rfl, rfl⟩) snearer_main W base args ds gs before hval hW)

set_option maxRecDepth 100000 in
theorem seamsNearer_holds : Rows.SeamsNearerSaid :=
  OpenClaim.holds_of_wide 5 Try.f5 rfl rfl rfl rfl rfl rfl rfl ⟨rfl, rfl, rfl, rfl, rfl⟩ rfl rfl rfl rfl rfl (by kernel_rfl) Try.func5 (by kernel_rfl)
    (of_decide_eq_true (by kernel_rfl)) (by unfold Func.isWrapper; first | (rw [if_pos (by decide +kernel)]; kernel_rfl) | (rw [if_neg (by decide +kernel)]; exact ⟨rfl, rfl⟩))
    (fun os started H enc _ => seamsNearer_lifted os started H enc)
#print axioms seamsNearer_holds
end Go.Proofs.Ytkkpokakjblenaa
