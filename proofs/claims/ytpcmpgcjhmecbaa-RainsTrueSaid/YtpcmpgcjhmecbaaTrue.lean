/- RainsTrue answers true and leaves its arguments as they were, for every tour, every two lists of numbers, every day and every forecast, with no condition. -/
import Derived.Test.YtpcmpgcjhmecbaaOpen
namespace Go.Proofs.Ytpcmpgcjhmecbaa
open Go.ChangeShapes Go.WideShapes Go.ChangeAt Go.RowKit Go.Eng Go.Joins
theorem true_main (avs : List AV) (h : Sh.fitsL [tourSh, .agg [.sl i1, .sl i1], pairSh] avs) : FnA Try.prog 6 avs (· = .bool true) := by
  simp only [Sh.fitsL] at h
  obtain ⟨v, _, rfl, h1, u, _, rfl, h2, x, _, rfl, h3, rfl⟩ := h
  obtain ⟨t, rfl⟩ := tour_fits h1
  rw [Sh.fits] at h2
  obtain ⟨l, rfl, h2⟩ := h2
  simp only [Sh.fitsL] at h2
  obtain ⟨_, _, rfl, h4, _, _, rfl, h5, rfl⟩ := h2
  obtain ⟨r, rfl, hr⟩ := list_fits h4
  obtain ⟨l, rfl, hl⟩ := list_fits h5
  obtain ⟨a, b, rfl⟩ := pair_fits h3
  exact k6 prg t r l a b hr hl

set_option maxRecDepth 100000 in
theorem rainsTrue_lifted (os : Os) (started : os.Started) (H : Type) (enc : TypeId × Value → H) :
    ReturnsInHanded {} Try.checked os 6 .any (Rows.rainsTrueSpec.pre6 enc Try.prog Try.f6 Rows.rainsTrueRow.domain false) (Rows.rainsTrueSpec.post enc Try.prog Try.f6 false true false false) :=
  returnsInHanded_of_change (C := Try.checked) Try.own started (by kernel_rfl) Try.func6
    (ChangeSpec.witness6 (enc := enc) (C := Try.checked) false ⟨#[], #[.agg #[.int .i64 0, .int .i64 0, .slice none 0 0, .int .i64 0, .slice none 0 0, .int .i64 0, .int .i64 0], .agg #[.slice none 0 0, .slice none 0 0], .agg #[.int .i64 0, .int .i64 0]], []⟩ 12 (by kernel_rfl) (by kernel_rfl) (by kernel_rfl) (by kernel_rfl))
    (fun W base args ds gs before hval hW _ _ => lift_true (C := Try.checked) (s := Rows.rainsTrueSpec) (ss := [tourSh, .agg [.sl i1, .sl i1], pairSh]) Try.laidOut rfl rfl (by kernel_rfl) (by kernel_rfl) (by kernel_rfl)
        (fun ds hds => by
          match ds, hds with
          | [d1, d2, d3], _ => exact ⟨rfl, rfl, rfl⟩) true_main W base args ds gs before hval hW)

set_option maxRecDepth 100000 in
theorem rainsTrue_holds : Rows.RainsTrueSaid :=
  OpenClaim.holds_of_wide 6 Try.f6 rfl rfl rfl rfl rfl rfl rfl ⟨rfl, rfl, rfl, rfl, rfl⟩ rfl rfl rfl rfl rfl (by kernel_rfl) Try.func6 (by kernel_rfl)
    (of_decide_eq_true (by kernel_rfl)) (by unfold Func.isWrapper; first | (rw [if_pos (by decide +kernel)]; kernel_rfl) | (rw [if_neg (by decide +kernel)]; exact ⟨rfl, rfl⟩))
    (fun os started H enc _ => rainsTrue_lifted os started H enc)
#print axioms rainsTrue_holds
end Go.Proofs.Ytpcmpgcjhmecbaa
