/- RainsMore answers true and leaves its arguments as they were, for every tour, every forecast and every list of numbers, with no condition. -/
import Derived.Test.YtpcmpgcjhmecbaaOpen
namespace Go.Proofs.Ytpcmpgcjhmecbaa
open Go.ChangeShapes Go.WideShapes Go.ChangeAt Go.RowKit Go.Eng Go.Joins
theorem more_main (avs : List AV) (h : Sh.fitsL [tourSh, .agg rainSh, .sl i1] avs) : FnA Try.prog 8 avs (· = .bool true) := by
  simp only [Sh.fitsL] at h
  obtain ⟨v, _, rfl, h1, u, _, rfl, h2, x, _, rfl, h3, rfl⟩ := h
  obtain ⟨t, rfl⟩ := tour_fits h1
  rw [Sh.fits] at h2
  obtain ⟨l, rfl, h2⟩ := h2
  obtain ⟨z, rfl⟩ := rain_fits l h2
  obtain ⟨r, rfl, _⟩ := list_fits h3
  exact k8 prg t z r

set_option maxRecDepth 100000 in
theorem rainsMore_lifted (os : Os) (started : os.Started) (H : Type) (enc : TypeId × Value → H) :
    ReturnsInHanded {} Try.checked os 8 .any (Rows.rainsMoreSpec.pre6 enc Try.prog Try.f8 Rows.rainsMoreRow.domain false) (Rows.rainsMoreSpec.post enc Try.prog Try.f8 false true false false) :=
  returnsInHanded_of_change (C := Try.checked) Try.own started (by kernel_rfl) Try.func8
    (ChangeSpec.witness6 (enc := enc) (C := Try.checked) false ⟨#[], #[.agg #[.int .i64 0, .int .i64 0, .slice none 0 0, .int .i64 0, .slice none 0 0, .int .i64 0, .int .i64 0], .agg #[.int .i64 0, .int .i64 0, .int .i64 0], .slice none 0 0], []⟩ 12 (by kernel_rfl) (by kernel_rfl) (by kernel_rfl) (by kernel_rfl))
    (fun W base args ds gs before hval hW _ _ => lift_true (C := Try.checked) (s := Rows.rainsMoreSpec) (ss := [tourSh, .agg rainSh, .sl i1]) Try.laidOut rfl rfl (by kernel_rfl) (by kernel_rfl) (by kernel_rfl)
        (fun ds hds => by
          match ds, hds with
          | [d1, d2, d3], _ => exact ⟨rfl, rfl, rfl⟩) more_main W base args ds gs before hval hW)

set_option maxRecDepth 100000 in
theorem rainsMore_holds : Rows.RainsMoreSaid :=
  OpenClaim.holds_of_wide 8 Try.f8 rfl rfl rfl rfl rfl rfl rfl ⟨rfl, rfl, rfl, rfl, rfl⟩ rfl rfl rfl rfl rfl (by kernel_rfl) Try.func8 (by kernel_rfl)
    (of_decide_eq_true (by kernel_rfl)) (by unfold Func.isWrapper; first | (rw [if_pos (by decide +kernel)]; kernel_rfl) | (rw [if_neg (by decide +kernel)]; exact ⟨rfl, rfl⟩))
    (fun os started H enc _ => rainsMore_lifted os started H enc)
#print axioms rainsMore_holds
end Go.Proofs.Ytpcmpgcjhmecbaa
