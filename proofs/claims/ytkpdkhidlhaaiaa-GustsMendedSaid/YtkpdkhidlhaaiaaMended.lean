/- GustsMended answers true and leaves its arguments as they were, for every dome, every class and every place and rib, with no condition. -/
import Derived.Test.YtkpdkhidlhaaiaaOpen
import Derived.Test.YtkpdkhidlhaaiaaFns7
namespace Go.Proofs.Ytkpdkhidlhaaiaa
open Go.ChangeShapes Go.WideShapes Go.ChangeAt Go.RowKit Go.Eng Go.Joins
theorem mended_main (avs : List AV) (h : Sh.fitsL [canSh, .sl i2, .agg [.int .i64, .int .i64]] avs) : FnA Try.prog 6 avs (· = .bool true) := by
  simp only [Sh.fitsL] at h
  obtain ⟨v, _, rfl, h1, u, _, rfl, h2, x, _, rfl, h3, rfl⟩ := h
  obtain ⟨d, rfl⟩ := can_fits h1
  obtain ⟨l, rfl, hl⟩ := class_fits h2
  simp only [Sh.fitsL, Sh.fits] at h3
  obtain ⟨_, rfl, _, _, rfl, ⟨a, rfl, _⟩, _, _, rfl, ⟨b, rfl, _⟩, rfl⟩ := h3
  exact k6 d l a b (by unfold maxLen at hl; omega)

set_option maxRecDepth 100000 in
theorem gustsMended_lifted (os : Os) (started : os.Started) (H : Type) (enc : TypeId × Value → H) :
    ReturnsInHanded {} Try.checked os 6 .any (Rows.gustsMendedSpec.pre6 enc Try.prog Try.f6 Rows.gustsMendedRow.domain false) (Rows.gustsMendedSpec.post enc Try.prog Try.f6 false true false false) :=
  returnsInHanded_of_change (C := Try.checked) Try.own started (by kernel_rfl) Try.func6
    (ChangeSpec.witness6 (enc := enc) (C := Try.checked) false ⟨#[], #[.agg #[.slice none 0 0, .int .i64 0, .int .i64 0, .int .i64 0, .int .i64 0, .int .i64 0, .int .i64 0, .slice none 0 0, .slice none 0 0], .slice none 0 0, .agg #[.int .i64 0, .int .i64 0]], []⟩ 12 (by kernel_rfl) (by kernel_rfl) (by kernel_rfl) (by kernel_rfl))
    (fun W base args ds gs before hval hW _ _ => lift_true (C := Try.checked) (s := Rows.gustsMendedSpec) (ss := [canSh, .sl i2, .agg [.int .i64, .int .i64]]) Try.laidOut rfl rfl (by kernel_rfl) (by kernel_rfl) (by kernel_rfl)
        (fun ds hds => by
          match ds, hds with
          | [d1, d2, d3], _ => exact ⟨rfl, rfl, rfl⟩) mended_main W base args ds gs before hval hW)

set_option maxRecDepth 100000 in
theorem gustsMended_holds : Rows.GustsMendedSaid :=
  OpenClaim.holds_of_wide 6 Try.f6 rfl rfl rfl rfl rfl rfl rfl ⟨rfl, rfl, rfl, rfl, rfl⟩ rfl rfl rfl rfl rfl (by kernel_rfl) Try.func6 (by kernel_rfl)
    (of_decide_eq_true (by kernel_rfl)) (by unfold Func.isWrapper; first | (rw [if_pos (by decide +kernel)]; kernel_rfl) | (rw [if_neg (by decide +kernel)]; exact ⟨rfl, rfl⟩))
    (fun os started H enc _ => gustsMended_lifted os started H enc)
#print axioms gustsMended_holds
end Go.Proofs.Ytkpdkhidlhaaiaa
