/- StandsNumbers answers true and leaves its arguments as they were, for every stand, every list of numbers and every guest, with no condition. -/
import Derived.Test.YtjdklkkmmlephaaOpen
namespace Go.Proofs.Ytjdklkkmmlephaa
open Go.ChangeShapes Go.WideShapes Go.ChangeAt Go.RowKit Go.Eng Go.Joins
theorem numbers_main (avs : List AV) (h : Sh.fitsL [standSh, .sl i1, .int .i64] avs) : FnA Try.prog 9 avs (· = .bool true) := by
  simp only [Sh.fitsL] at h
  obtain ⟨v, _, rfl, h1, u, _, rfl, h2, x, _, rfl, h3, rfl⟩ := h
  obtain ⟨s, rfl⟩ := stand_fits h1
  obtain ⟨t, rfl⟩ := list_fits h2
  simp only [Sh.fits] at h3
  obtain ⟨g, rfl, _⟩ := h3
  exact l9 s t g

set_option maxRecDepth 100000 in
theorem standsNumbers_lifted (os : Os) (started : os.Started) (H : Type) (enc : TypeId × Value → H) :
    ReturnsInHanded {} Try.checked os 9 .any (Rows.standsNumbersSpec.pre6 enc Try.prog Try.f9 Rows.standsNumbersRow.domain false) (Rows.standsNumbersSpec.post enc Try.prog Try.f9 false true false false) :=
  returnsInHanded_of_change (C := Try.checked) Try.own started (by kernel_rfl) Try.func9
    (ChangeSpec.witness6 (enc := enc) (C := Try.checked) false ⟨#[], #[.agg #[.int .i64 0, .slice none 0 0, .int .i64 0], .slice none 0 0, .int .i64 0], []⟩ 12 (by kernel_rfl) (by kernel_rfl) (by kernel_rfl) (by kernel_rfl))
    (fun W base args ds gs before hval hW _ _ => lift_true (C := Try.checked) (s := Rows.standsNumbersSpec) (ss := [standSh, .sl i1, .int .i64]) Try.laidOut rfl rfl (by kernel_rfl) (by kernel_rfl) (by kernel_rfl)
        (fun ds hds => by
          match ds, hds with
          | [d1, d2, d3], _ => exact ⟨rfl, rfl, rfl⟩) numbers_main W base args ds gs before hval hW)

set_option maxRecDepth 100000 in
theorem standsNumbers_holds : Rows.StandsNumbersSaid :=
  OpenClaim.holds_of_wide 9 Try.f9 rfl rfl rfl rfl rfl rfl rfl ⟨rfl, rfl, rfl, rfl, rfl⟩ rfl rfl rfl rfl rfl (by kernel_rfl) Try.func9 (by kernel_rfl)
    (of_decide_eq_true (by kernel_rfl)) (by unfold Func.isWrapper; first | (rw [if_pos (by decide +kernel)]; kernel_rfl) | (rw [if_neg (by decide +kernel)]; exact ⟨rfl, rfl⟩))
    (fun os started H enc _ => standsNumbers_lifted os started H enc)
#print axioms standsNumbers_holds
end Go.Proofs.Ytjdklkkmmlephaa
