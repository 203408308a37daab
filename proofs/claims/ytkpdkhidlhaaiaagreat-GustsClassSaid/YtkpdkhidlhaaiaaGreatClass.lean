/- GustsClass answers true and leaves its arguments as they were, for every dome, every class and every number of a rib, with no condition. -/
import Derived.Test.YtkpdkhidlhaaiaaGreatOpen
import Derived.Test.YtkpdkhidlhaaiaaGreatFns4
namespace Go.Proofs.YtkpdkhidlhaaiaaGreat
open Go.ChangeShapes Go.WideShapes Go.ChangeAt Go.RowKit Go.Eng Go.Joins
theorem class_main (avs : List AV) (h : Sh.fitsL [canSh, .sl i2, .int .i64] avs) : FnA Tryz.prog 4 avs (· = .bool true) := by
  simp only [Sh.fitsL] at h
  obtain ⟨v, _, rfl, h1, u, _, rfl, h2, x, _, rfl, h3, rfl⟩ := h
  obtain ⟨d, rfl⟩ := can_fits h1
  obtain ⟨l, rfl, hl⟩ := class_fits h2
  obtain ⟨a, rfl, _⟩ := int_fits h3
  exact k4z d l a (by unfold maxLen at hl; omega)

set_option maxRecDepth 100000 in
theorem gustsClass_lifted (os : Os) (started : os.Started) (H : Type) (enc : TypeId × Value → H) :
    ReturnsInHanded {} Tryz.checked os 4 .any (Rows.gustsClassSpec.pre6 enc Tryz.prog Tryz.f4 Rows.gustsClassRow.domain false) (Rows.gustsClassSpec.post enc Tryz.prog Tryz.f4 false true false false) :=
  returnsInHanded_of_change (C := Tryz.checked) Tryz.own started (by kernel_rfl) Tryz.func4
    (ChangeSpec.witness6 (enc := enc) (C := Tryz.checked) false ⟨#[], #[.agg #[.slice none 0 0, .int .i64 0, .int .i64 0, .int .i64 0, .int .i64 0, .int .i64 0, .int .i64 0, .slice none 0 0, .slice none 0 0], .slice none 0 0, .int .i64 0], []⟩ 12 (by kernel_rfl) (by kernel_rfl) (by kernel_rfl) (by kernel_rfl))
    (fun W base args ds gs before hval hW _ _ => lift_true (C := Tryz.checked) (s := Rows.gustsClassSpec) (ss := [canSh, .sl i2, .int .i64]) Tryz.laidOut rfl rfl (by kernel_rfl) (by kernel_rfl) (by kernel_rfl)
        (fun ds hds => by
          match ds, hds with
          | [d1, d2, d3], _ => exact ⟨rfl, rfl, rfl⟩) class_main W base args ds gs before hval hW)

set_option maxRecDepth 100000 in
theorem gustsClass_holds : Rows.GustsClassSaid :=
  OpenClaim.holds_of_wide 4 Tryz.f4 rfl rfl rfl rfl rfl rfl rfl ⟨rfl, rfl, rfl, rfl, rfl⟩ rfl rfl rfl rfl rfl (by kernel_rfl) Tryz.func4 (by kernel_rfl)
    (of_decide_eq_true (by kernel_rfl)) (by unfold Func.isWrapper; first | (rw [if_pos (by decide +kernel)]; kernel_rfl) | (rw [if_neg (by decide +kernel)]; exact ⟨rfl, rfl⟩))
    (fun os started H enc _ => gustsClass_lifted os started H enc)
#print axioms gustsClass_holds
end Go.Proofs.YtkpdkhidlhaaiaaGreat
