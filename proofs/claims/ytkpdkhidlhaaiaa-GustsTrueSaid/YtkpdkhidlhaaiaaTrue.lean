/- GustsTrue answers true and leaves its arguments as they were, for every dome, every class and every truth, with no condition. -/
import Derived.Test.YtkpdkhidlhaaiaaOpen
import Derived.Test.YtkpdkhidlhaaiaaFns10
namespace Go.Proofs.Ytkpdkhidlhaaiaa
open Go.ChangeShapes Go.WideShapes Go.ChangeAt Go.RowKit Go.Eng Go.Joins
theorem true_main (avs : List AV) (h : Sh.fitsL [canSh, .sl i2, .agg [.int .i64, .int .i64, .sl i1S, .int .i64]] avs) : FnA Try.prog 3 avs (· = .bool true) := by
  simp only [Sh.fitsL] at h
  obtain ⟨v, _, rfl, h1, u, _, rfl, h2, x, _, rfl, h3, rfl⟩ := h
  obtain ⟨d, rfl⟩ := can_fits h1
  obtain ⟨l, rfl, hl⟩ := class_fits h2
  simp only [Sh.fitsL, Sh.fits] at h3
  obtain ⟨_, rfl, _, _, rfl, ⟨a, rfl, _⟩, _, _, rfl, ⟨b, rfl, _⟩, _, _, rfl, ⟨r, rfl, hr, hrs⟩, _, _, rfl, ⟨c, rfl, _⟩, rfl⟩ := h3
  obtain ⟨ss, rfl⟩ := rows_fits Go.Proofs.i1 one_fits hrs
  exact k3 d l a b c ss (by unfold maxLen at hl; omega) (by rw [List.length_map] at hr; unfold maxLen at hr; omega)

set_option maxRecDepth 100000 in
theorem gustsTrue_lifted (os : Os) (started : os.Started) (H : Type) (enc : TypeId × Value → H) :
    ReturnsInHanded {} Try.checked os 3 .any (Rows.gustsTrueSpec.pre6 enc Try.prog Try.f3 Rows.gustsTrueRow.domain false) (Rows.gustsTrueSpec.post enc Try.prog Try.f3 false true false false) :=
  returnsInHanded_of_change (C := Try.checked) Try.own started (by kernel_rfl) Try.func3
    (ChangeSpec.witness6 (enc := enc) (C := Try.checked) false ⟨#[], #[.agg #[.slice none 0 0, .int .i64 0, .int .i64 0, .int .i64 0, .int .i64 0, .int .i64 0, .int .i64 0, .slice none 0 0, .slice none 0 0], .slice none 0 0, .agg #[.int .i64 0, .int .i64 0, .slice none 0 0, .int .i64 0]], []⟩ 12 (by kernel_rfl) (by kernel_rfl) (by kernel_rfl) (by kernel_rfl))
    (fun W base args ds gs before hval hW _ _ => lift_true (C := Try.checked) (s := Rows.gustsTrueSpec) (ss := [canSh, .sl i2, .agg [.int .i64, .int .i64, .sl i1S, .int .i64]]) Try.laidOut rfl rfl (by kernel_rfl) (by kernel_rfl) (by kernel_rfl)
        (fun ds hds => by
          match ds, hds with
          | [d1, d2, d3], _ => exact ⟨rfl, rfl, rfl⟩) true_main W base args ds gs before hval hW)

set_option maxRecDepth 100000 in
theorem gustsTrue_holds : Rows.GustsTrueSaid :=
  OpenClaim.holds_of_wide 3 Try.f3 rfl rfl rfl rfl rfl rfl rfl ⟨rfl, rfl, rfl, rfl, rfl⟩ rfl rfl rfl rfl rfl (by kernel_rfl) Try.func3 (by kernel_rfl)
    (of_decide_eq_true (by kernel_rfl)) (by unfold Func.isWrapper; first | (rw [if_pos (by decide +kernel)]; kernel_rfl) | (rw [if_neg (by decide +kernel)]; exact ⟨rfl, rfl⟩))
    (fun os started H enc _ => gustsTrue_lifted os started H enc)
#print axioms gustsTrue_holds
end Go.Proofs.Ytkpdkhidlhaaiaa
