/- StandsLiars answers true and leaves its arguments as they were, for every stand and every guest, with no condition. -/
import Derived.Test.YtjdklkkmmlephaaOpen
namespace Go.Proofs.Ytjdklkkmmlephaa
open Go.ChangeShapes Go.WideShapes Go.ChangeAt Go.RowKit Go.Eng Go.Joins
theorem liars_main (avs : List AV) (h : Sh.fitsL [standSh, .int .i64] avs) : FnA Try.prog 10 avs (· = .bool true) := by
  simp only [Sh.fitsL] at h
  obtain ⟨v, _, rfl, h1, u, _, rfl, h2, rfl⟩ := h
  obtain ⟨s, rfl⟩ := stand_fits h1
  simp only [Sh.fits] at h2
  obtain ⟨g, rfl, _⟩ := h2
  exact l10 s g

set_option maxRecDepth 100000 in
theorem standsLiars_lifted (os : Os) (started : os.Started) (H : Type) (enc : TypeId × Value → H) :
    ReturnsInHanded {} Try.checked os 10 .any (Rows.standsLiarsSpec.pre6 enc Try.prog Try.f10 Rows.standsLiarsRow.domain false) (Rows.standsLiarsSpec.post enc Try.prog Try.f10 false true false false) :=
  returnsInHanded_of_change (C := Try.checked) Try.own started (by kernel_rfl) Try.func10
    (ChangeSpec.witness6 (enc := enc) (C := Try.checked) false ⟨#[], #[.agg #[.int .i64 0, .slice none 0 0, .int .i64 0], .int .i64 0], []⟩ 12 (by kernel_rfl) (by kernel_rfl) (by kernel_rfl) (by kernel_rfl))
    (fun W base args ds gs before hval hW _ _ => lift_true (C := Try.checked) (s := Rows.standsLiarsSpec) (ss := [standSh, .int .i64]) Try.laidOut rfl rfl (by kernel_rfl) (by kernel_rfl) (by kernel_rfl)
        (fun ds hds => by
          match ds, hds with
          | [d1, d2], _ => exact ⟨rfl, rfl, rfl⟩) liars_main W base args ds gs before hval hW)

set_option maxRecDepth 100000 in
theorem standsLiars_holds : Rows.StandsLiarsSaid :=
  OpenClaim.holds_of_wide 10 Try.f10 rfl rfl rfl rfl rfl rfl rfl ⟨rfl, rfl, rfl, rfl, rfl⟩ rfl rfl rfl rfl rfl (by kernel_rfl) Try.func10 (by kernel_rfl)
    (of_decide_eq_true (by kernel_rfl)) (by unfold Func.isWrapper; first | (rw [if_pos (by decide +kernel)]; kernel_rfl) | (rw [if_neg (by decide +kernel)]; exact ⟨rfl, rfl⟩))
    (fun os started H enc _ => standsLiars_lifted os started H enc)
#print axioms standsLiars_holds
end Go.Proofs.Ytjdklkkmmlephaa
