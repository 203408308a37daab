/- GustsRounds answers true and leaves its arguments as they were, for every dome and every gust, with no condition. -/
import Derived.Test.YtkpdkhidlhaaiaaOpen
import Derived.Test.YtkpdkhidlhaaiaaFns3
namespace Go.Proofs.Ytkpdkhidlhaaiaa
open Go.ChangeShapes Go.WideShapes Go.ChangeAt Go.RowKit Go.Eng Go.Joins
theorem rounds_main (avs : List AV) (h : Sh.fitsL [canSh, .agg i2] avs) : FnA Try.prog 8 avs (· = .bool true) := by
  simp only [Sh.fitsL] at h
  obtain ⟨v, _, rfl, h1, u, _, rfl, h2, rfl⟩ := h
  obtain ⟨d, rfl⟩ := can_fits h1
  obtain ⟨g, rfl⟩ := gu_fits h2
  exact k8 d g

set_option maxRecDepth 100000 in
theorem gustsRounds_lifted (os : Os) (started : os.Started) (H : Type) (enc : TypeId × Value → H) :
    ReturnsInHanded {} Try.checked os 8 .any (Rows.gustsRoundsSpec.pre6 enc Try.prog Try.f8 Rows.gustsRoundsRow.domain false) (Rows.gustsRoundsSpec.post enc Try.prog Try.f8 false true false false) :=
  returnsInHanded_of_change (C := Try.checked) Try.own started (by kernel_rfl) Try.func8
    (ChangeSpec.witness6 (enc := enc) (C := Try.checked) false ⟨#[], #[.agg #[.slice none 0 0, .int .i64 0, .int .i64 0, .int .i64 0, .int .i64 0, .int .i64 0, .int .i64 0, .slice none 0 0, .slice none 0 0], .agg #[.int .i64 0, .int .i64 0]], []⟩ 12 (by kernel_rfl) (by kernel_rfl) (by kernel_rfl) (by kernel_rfl))
    (fun W base args ds gs before hval hW _ _ => lift_true (C := Try.checked) (s := Rows.gustsRoundsSpec) (ss := [canSh, .agg i2]) Try.laidOut rfl rfl (by kernel_rfl) (by kernel_rfl) (by kernel_rfl)
        (fun ds hds => by
          match ds, hds with
          | [d1, d2], _ => exact ⟨rfl, rfl, rfl⟩) rounds_main W base args ds gs before hval hW)

set_option maxRecDepth 100000 in
theorem gustsRounds_holds : Rows.GustsRoundsSaid :=
  OpenClaim.holds_of_wide 8 Try.f8 rfl rfl rfl rfl rfl rfl rfl ⟨rfl, rfl, rfl, rfl, rfl⟩ rfl rfl rfl rfl rfl (by kernel_rfl) Try.func8 (by kernel_rfl)
    (of_decide_eq_true (by kernel_rfl)) (by unfold Func.isWrapper; first | (rw [if_pos (by decide +kernel)]; kernel_rfl) | (rw [if_neg (by decide +kernel)]; exact ⟨rfl, rfl⟩))
    (fun os started H enc _ => gustsRounds_lifted os started H enc)
#print axioms gustsRounds_holds
end Go.Proofs.Ytkpdkhidlhaaiaa
