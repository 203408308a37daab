/- StandsMore answers true and leaves its arguments as they were, for every stand, every word and every guest, with no condition. -/
import Derived.Test.YtjdklkkmmlephaaOpen
namespace Go.Proofs.Ytjdklkkmmlephaa
open Go.ChangeShapes Go.WideShapes Go.ChangeAt Go.RowKit Go.Eng Go.Joins
theorem more_main (avs : List AV) (h : Sh.fitsL [standSh, .agg wordSh, .int .i64] avs) : FnA Try.prog 4 avs (· = .bool true) := by
  simp only [Sh.fitsL] at h
  obtain ⟨v, _, rfl, h1, u, _, rfl, h2, x, _, rfl, h3, rfl⟩ := h
  obtain ⟨s, rfl⟩ := stand_fits h1
  simp only [Sh.fits] at h2 h3
  obtain ⟨l, rfl, h2⟩ := h2
  obtain ⟨w, rfl⟩ := word_fits l h2
  obtain ⟨g, rfl, _⟩ := h3
  exact l4 s w g

set_option maxRecDepth 100000 in
theorem standsMore_lifted (os : Os) (started : os.Started) (H : Type) (enc : TypeId × Value → H) :
    ReturnsInHanded {} Try.checked os 4 .any (Rows.standsMoreSpec.pre6 enc Try.prog Try.f4 Rows.standsMoreRow.domain false) (Rows.standsMoreSpec.post enc Try.prog Try.f4 false true false false) :=
  returnsInHanded_of_change (C := Try.checked) Try.own started (by kernel_rfl) Try.func4
    (ChangeSpec.witness6 (enc := enc) (C := Try.checked) false ⟨#[], #[.agg #[.int .i64 0, .slice none 0 0, .int .i64 0], .agg #[.int .i64 0, .int .i64 0, .int .i64 0, .slice none 0 0], .int .i64 0], []⟩ 12 (by kernel_rfl) (by kernel_rfl) (by kernel_rfl) (by kernel_rfl))
    (fun W base args ds gs before hval hW _ _ => lift_true (C := Try.checked) (s := Rows.standsMoreSpec) (ss := [standSh, .agg wordSh, .int .i64]) Try.laidOut rfl rfl (by kernel_rfl) (by kernel_rfl) (by kernel_rfl)
        (fun ds hds => by
          match ds, hds with
          | [d1, d2, d3], _ => exact ⟨rfl, rfl, rfl⟩) more_main W base args ds gs before hval hW)

set_option maxRecDepth 100000 in
theorem standsMore_holds : Rows.StandsMoreSaid :=
  OpenClaim.holds_of_wide 4 Try.f4 rfl rfl rfl rfl rfl rfl rfl ⟨rfl, rfl, rfl, rfl, rfl⟩ rfl rfl rfl rfl rfl (by kernel_rfl) Try.func4 (by kernel_rfl)
    (of_decide_eq_true (by kernel_rfl)) (by unfold Func.isWrapper; first | (rw [if_pos (by decide +kernel)]; kernel_rfl) | (rw [if_neg (by decide +kernel)]; exact ⟨rfl, rfl⟩))
    (fun os started H enc _ => standsMore_lifted os started H enc)
#print axioms standsMore_holds
end Go.Proofs.Ytjdklkkmmlephaa
