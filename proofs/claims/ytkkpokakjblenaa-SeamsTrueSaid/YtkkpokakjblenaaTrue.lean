/- SeamsTrue answers true and leaves its arguments as they were, for every figure, every list of numbers and every number of a seam, with no condition. -/
import Derived.Test.YtkkpokakjblenaaOpen
import Derived.Test.YtkkpokakjblenaaFns3
namespace Go.Proofs.Ytkkpokakjblenaa
open Go.ChangeShapes Go.WideShapes Go.ChangeAt Go.RowKit Go.Eng Go.Joins
theorem strue_main (avs : List AV) (h : Sh.fitsL [figSh, .sl i1, .int .i64] avs) : FnA Try.prog 3 avs (· = .bool true) := by
  simp only [Sh.fitsL] at h
  obtain ⟨v, _, rfl, h1, u, _, rfl, h2, x, _, rfl, h3, rfl⟩ := h
  obtain ⟨f, rfl⟩ := fig_fits h1
  obtain ⟨l1, rfl⟩ := list_fits h2
  obtain ⟨a2, rfl, _⟩ := int_fits h3
  exact l3 f l1 a2

set_option maxRecDepth 100000 in
theorem seamsTrue_lifted (os : Os) (started : os.Started) (H : Type) (enc : TypeId × Value → H) :
    ReturnsInHanded {} Try.checked os 3 .any (Rows.seamsTrueSpec.pre6 enc Try.prog Try.f3 Rows.seamsTrueRow.domain false) (Rows.seamsTrueSpec.post enc Try.prog Try.f3 false true false false) :=
  returnsInHanded_of_change (C := Try.checked) Try.own started (by kernel_rfl) Try.func3
    (ChangeSpec.witness6 (enc := enc) (C := Try.checked) false ⟨#[], #[.agg #[.slice none 0 0, .slice none 0 0, .int .i64 0, .slice none 0 0, .slice none 0 0, .int .i64 0, .int .i64 0, .int .i64 0, .int .i64 0, .slice none 0 0, .slice none 0 0], .slice none 0 0, .int .i64 0], []⟩ 12 (by kernel_rfl) (by kernel_rfl) (by kernel_rfl) (by kernel_rfl))
    (fun W base args ds gs before hval hW _ _ => lift_true (C := Try.checked) (s := Rows.seamsTrueSpec) (ss := [figSh, .sl i1, .int .i64]) Try.laidOut rfl rfl (by kernel_rfl) (by kernel_rfl) (by kernel_rfl)
        (fun ds hds => by
          match ds, hds with
          | [d1, d2, d3], _ => exact ⟨rfl, rfl, rfl⟩) strue_main W base args ds gs before hval hW)

set_option maxRecDepth 100000 in
theorem seamsTrue_holds : Rows.SeamsTrueSaid :=
  OpenClaim.holds_of_wide 3 Try.f3 rfl rfl rfl rfl rfl rfl rfl ⟨rfl, rfl, rfl, rfl, rfl⟩ rfl rfl rfl rfl rfl (by kernel_rfl) Try.func3 (by kernel_rfl)
    (of_decide_eq_true (by kernel_rfl)) (by unfold Func.isWrapper; first | (rw [if_pos (by decide +kernel)]; kernel_rfl) | (rw [if_neg (by decide +kernel)]; exact ⟨rfl, rfl⟩))
    (fun os started H enc _ => seamsTrue_lifted os started H enc)
#print axioms seamsTrue_holds
end Go.Proofs.Ytkkpokakjblenaa
