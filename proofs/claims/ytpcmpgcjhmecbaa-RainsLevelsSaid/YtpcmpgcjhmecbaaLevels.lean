/- RainsLevels answers true and leaves its arguments as they were, for every tour, every day and every forecast, with no condition. -/
import Derived.Test.YtpcmpgcjhmecbaaOpen
namespace Go.Proofs.Ytpcmpgcjhmecbaa
open Go.ChangeShapes Go.WideShapes Go.ChangeAt Go.RowKit Go.Eng Go.Joins
theorem levels_main (avs : List AV) (h : Sh.fitsL [tourSh, pairSh] avs) : FnA Try.prog 3 avs (· = .bool true) := by
  simp only [Sh.fitsL] at h
  obtain ⟨v, _, rfl, h1, u, _, rfl, h2, rfl⟩ := h
  obtain ⟨t, rfl⟩ := tour_fits h1
  obtain ⟨a, b, rfl⟩ := pair_fits h2
  exact k3 prg t a b

set_option maxRecDepth 100000 in
theorem rainsLevels_lifted (os : Os) (started : os.Started) (H : Type) (enc : TypeId × Value → H) :
    ReturnsInHanded {} Try.checked os 3 .any (Rows.rainsLevelsSpec.pre6 enc Try.prog Try.f3 Rows.rainsLevelsRow.domain false) (Rows.rainsLevelsSpec.post enc Try.prog Try.f3 false true false false) :=
  returnsInHanded_of_change (C := Try.checked) Try.own started (by kernel_rfl) Try.func3
    (ChangeSpec.witness6 (enc := enc) (C := Try.checked) false ⟨#[], #[.agg #[.int .i64 0, .int .i64 0, .slice none 0 0, .int .i64 0, .slice none 0 0, .int .i64 0, .int .i64 0], .agg #[.int .i64 0, .int .i64 0]], []⟩ 12 (by kernel_rfl) (by kernel_rfl) (by kernel_rfl) (by kernel_rfl))
    (fun W base args ds gs before hval hW _ _ => lift_true (C := Try.checked) (s := Rows.rainsLevelsSpec) (ss := [tourSh, pairSh]) Try.laidOut rfl rfl (by kernel_rfl) (by kernel_rfl) (by kernel_rfl)
        (fun ds hds => by
          match ds, hds with
          | [d1, d2], _ => exact ⟨rfl, rfl, rfl⟩) levels_main W base args ds gs before hval hW)

set_option maxRecDepth 100000 in
theorem rainsLevels_holds : Rows.RainsLevelsSaid :=
  OpenClaim.holds_of_wide 3 Try.f3 rfl rfl rfl rfl rfl rfl rfl ⟨rfl, rfl, rfl, rfl, rfl⟩ rfl rfl rfl rfl rfl (by kernel_rfl) Try.func3 (by kernel_rfl)
    (of_decide_eq_true (by kernel_rfl)) (by unfold Func.isWrapper; first | (rw [if_pos (by decide +kernel)]; kernel_rfl) | (rw [if_neg (by decide +kernel)]; exact ⟨rfl, rfl⟩))
    (fun os started H enc _ => rainsLevels_lifted os started H enc)
#print axioms rainsLevels_holds
end Go.Proofs.Ytpcmpgcjhmecbaa
