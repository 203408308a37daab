/- RainsLiars answers true and leaves its arguments as they were, for every tour and every number, with no condition. -/
import Derived.Test.YtpcmpgcjhmecbaaOpen
namespace Go.Proofs.Ytpcmpgcjhmecbaa
open Go.ChangeShapes Go.WideShapes Go.ChangeAt Go.RowKit Go.Eng Go.Joins
theorem liars_main (avs : List AV) (h : Sh.fitsL [tourSh, .int .i64] avs) : FnA Try.prog 11 avs (· = .bool true) := by
  simp only [Sh.fitsL] at h
  obtain ⟨v, _, rfl, h1, u, _, rfl, h2, rfl⟩ := h
  obtain ⟨t, rfl⟩ := tour_fits h1
  simp only [Sh.fits] at h2
  obtain ⟨b, rfl, _⟩ := h2
  exact kLiars prg t b

set_option maxRecDepth 100000 in
theorem rainsLiars_lifted (os : Os) (started : os.Started) (H : Type) (enc : TypeId × Value → H) :
    ReturnsInHanded {} Try.checked os 11 .any (Rows.rainsLiarsSpec.pre6 enc Try.prog Try.f11 Rows.rainsLiarsRow.domain false) (Rows.rainsLiarsSpec.post enc Try.prog Try.f11 false true false false) :=
  returnsInHanded_of_change (C := Try.checked) Try.own started (by kernel_rfl) Try.func11
    (ChangeSpec.witness6 (enc := enc) (C := Try.checked) false ⟨#[], #[.agg #[.int .i64 0, .int .i64 0, .slice none 0 0, .int .i64 0, .slice none 0 0, .int .i64 0, .int .i64 0], .int .i64 0], []⟩ 12 (by kernel_rfl) (by kernel_rfl) (by kernel_rfl) (by kernel_rfl))
    (fun W base args ds gs before hval hW _ _ => lift_true (C := Try.checked) (s := Rows.rainsLiarsSpec) (ss := [tourSh, .int .i64]) Try.laidOut rfl rfl (by kernel_rfl) (by kernel_rfl) (by kernel_rfl)
        (fun ds hds => by
          match ds, hds with
          | [d1, d2], _ => exact ⟨rfl, rfl, rfl⟩) liars_main W base args ds gs before hval hW)

set_option maxRecDepth 100000 in
theorem rainsLiars_holds : Rows.RainsLiarsSaid :=
  OpenClaim.holds_of_wide 11 Try.f11 rfl rfl rfl rfl rfl rfl rfl ⟨rfl, rfl, rfl, rfl, rfl⟩ rfl rfl rfl rfl rfl (by kernel_rfl) Try.func11 (by kernel_rfl)
    (of_decide_eq_true (by kernel_rfl)) (by unfold Func.isWrapper; first | (rw [if_pos (by decide +kernel)]; kernel_rfl) | (rw [if_neg (by decide +kernel)]; exact ⟨rfl, rfl⟩))
    (fun os started H enc _ => rainsLiars_lifted os started H enc)
#print axioms rainsLiars_holds
end Go.Proofs.Ytpcmpgcjhmecbaa
