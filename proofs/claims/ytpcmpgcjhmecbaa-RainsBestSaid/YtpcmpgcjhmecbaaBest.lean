/- RainsBest answers true and leaves its argument as it was, for every tour, with no condition. -/
import Derived.Test.YtpcmpgcjhmecbaaOpen
namespace Go.Proofs.Ytpcmpgcjhmecbaa
open Go.ChangeShapes Go.WideShapes Go.ChangeAt Go.RowKit Go.Eng Go.Joins
theorem best_main (avs : List AV) (h : Sh.fitsL [tourSh] avs) : FnA Try.prog 5 avs (· = .bool true) := by
  simp only [Sh.fitsL] at h
  obtain ⟨v, _, rfl, h1, rfl⟩ := h
  obtain ⟨t, rfl⟩ := tour_fits h1
  exact k5 prg t

set_option maxRecDepth 100000 in
theorem rainsBest_lifted (os : Os) (started : os.Started) (H : Type) (enc : TypeId × Value → H) :
    ReturnsInHanded {} Try.checked os 5 .any (Rows.rainsBestSpec.pre6 enc Try.prog Try.f5 Rows.rainsBestRow.domain false) (Rows.rainsBestSpec.post enc Try.prog Try.f5 false true false false) :=
  returnsInHanded_of_change (C := Try.checked) Try.own started (by kernel_rfl) Try.func5
    (ChangeSpec.witness6 (enc := enc) (C := Try.checked) false ⟨#[], #[.agg #[.int .i64 0, .int .i64 0, .slice none 0 0, .int .i64 0, .slice none 0 0, .int .i64 0, .int .i64 0]], []⟩ 12 (by kernel_rfl) (by kernel_rfl) (by kernel_rfl) (by kernel_rfl))
    (fun W base args ds gs before hval hW _ _ => lift_true (C := Try.checked) (s := Rows.rainsBestSpec) (ss := [tourSh]) Try.laidOut rfl rfl (by kernel_rfl) (by kernel_rfl) (by kernel_rfl)
        (fun ds hds => by
          match ds, hds with
          | [d1], _ => exact ⟨rfl, rfl, rfl⟩) best_main W base args ds gs before hval hW)

set_option maxRecDepth 100000 in
theorem rainsBest_holds : Rows.RainsBestSaid :=
  OpenClaim.holds_of_wide 5 Try.f5 rfl rfl rfl rfl rfl rfl rfl ⟨rfl, rfl, rfl, rfl, rfl⟩ rfl rfl rfl rfl rfl (by kernel_rfl) Try.func5 (by kernel_rfl)
    (of_decide_eq_true (by kernel_rfl)) (by unfold Func.isWrapper; first | (rw [if_pos (by decide +kernel)]; kernel_rfl) | (rw [if_neg (by decide +kernel)]; exact ⟨rfl, rfl⟩))
    (fun os started H enc _ => rainsBest_lifted os started H enc)
#print axioms rainsBest_holds
end Go.Proofs.Ytpcmpgcjhmecbaa
