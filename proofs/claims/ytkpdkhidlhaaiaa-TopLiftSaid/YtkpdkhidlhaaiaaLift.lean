/- TopLift answers true and leaves its arguments as they were, for every dome and every number of a rib, with no condition. -/
import Derived.Test.YtkpdkhidlhaaiaaOpen
import Derived.Test.YtkpdkhidlhaaiaaFns4
namespace Go.Proofs.Ytkpdkhidlhaaiaa
open Go.ChangeShapes Go.WideShapes Go.ChangeAt Go.RowKit Go.Eng Go.Joins
theorem toplift_main (avs : List AV) (h : Sh.fitsL [canSh, .int .i64] avs) : FnA Try.prog 9 avs (· = .bool true) := by
  simp only [Sh.fitsL] at h
  obtain ⟨v, _, rfl, h1, u, _, rfl, h2, rfl⟩ := h
  obtain ⟨d, rfl⟩ := can_fits h1
  obtain ⟨a, rfl, _⟩ := int_fits h2
  exact k9 d a

set_option maxRecDepth 100000 in
theorem topLift_lifted (os : Os) (started : os.Started) (H : Type) (enc : TypeId × Value → H) :
    ReturnsInHanded {} Try.checked os 9 .any (Rows.topLiftSpec.pre6 enc Try.prog Try.f9 Rows.topLiftRow.domain false) (Rows.topLiftSpec.post enc Try.prog Try.f9 false true false false) :=
  returnsInHanded_of_change (C := Try.checked) Try.own started (by kernel_rfl) Try.func9
    (ChangeSpec.witness6 (enc := enc) (C := Try.checked) false ⟨#[], #[.agg #[.slice none 0 0, .int .i64 0, .int .i64 0, .int .i64 0, .int .i64 0, .int .i64 0, .int .i64 0, .slice none 0 0, .slice none 0 0], .int .i64 0], []⟩ 12 (by kernel_rfl) (by kernel_rfl) (by kernel_rfl) (by kernel_rfl))
    (fun W base args ds gs before hval hW _ _ => lift_true (C := Try.checked) (s := Rows.topLiftSpec) (ss := [canSh, .int .i64]) Try.laidOut rfl rfl (by kernel_rfl) (by kernel_rfl) (by kernel_rfl)
        (fun ds hds => by
          match ds, hds with
          | [d1, d2], _ => exact ⟨rfl, rfl, rfl⟩) toplift_main W base args ds gs before hval hW)

set_option maxRecDepth 100000 in
theorem topLift_holds : Rows.TopLiftSaid :=
  OpenClaim.holds_of_wide 9 Try.f9 rfl rfl rfl rfl rfl rfl rfl ⟨rfl, rfl, rfl, rfl, rfl⟩ rfl rfl rfl rfl rfl (by kernel_rfl) Try.func9 (by kernel_rfl)
    (of_decide_eq_true (by kernel_rfl)) (by unfold Func.isWrapper; first | (rw [if_pos (by decide +kernel)]; kernel_rfl) | (rw [if_neg (by decide +kernel)]; exact ⟨rfl, rfl⟩))
    (fun os started H enc _ => topLift_lifted os started H enc)
#print axioms topLift_holds
end Go.Proofs.Ytkpdkhidlhaaiaa
