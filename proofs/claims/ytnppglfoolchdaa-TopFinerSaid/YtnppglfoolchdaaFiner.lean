/- TopFiner answers true and leaves its arguments as they were, for every run and every finer work, with no condition. -/
import Derived.Test.YtnppglfoolchdaaOpen
namespace Go.Proofs.Ytnppglfoolchdaa
open Go.ChangeShapes Go.WideShapes Go.ChangeAt Go.RowKit Go.Eng Go.Joins
theorem finer_main (avs : List AV) (h : Sh.fitsL [runSh, .agg i4S] avs) : FnA Try.prog 9 avs (· = .bool true) := by
  simp only [Sh.fitsL] at h
  obtain ⟨v, _, rfl, h1, u, _, rfl, h2, rfl⟩ := h
  obtain ⟨r, rfl⟩ := run_fits h1
  obtain ⟨a2, b2, c2, d2, rfl⟩ := four_fits h2
  exact kTF prg r a2 b2 c2 d2

set_option maxRecDepth 100000 in
theorem topFiner_lifted (os : Os) (started : os.Started) (H : Type) (enc : TypeId × Value → H) :
    ReturnsInHanded {} Try.checked os 9 .any (Rows.topFinerSpec.pre6 enc Try.prog Try.f9 Rows.topFinerRow.domain false) (Rows.topFinerSpec.post enc Try.prog Try.f9 false true false false) :=
  returnsInHanded_of_change (C := Try.checked) Try.own started (by kernel_rfl) Try.func9
    (ChangeSpec.witness6 (enc := enc) (C := Try.checked) false ⟨#[], #[.agg #[.slice none 0 0, .int .i64 0, .int .i64 0, .int .i64 0, .int .i64 0, .int .i64 0, .int .i64 0, .slice none 0 0, .slice none 0 0, .slice none 0 0, .slice none 0 0, .int .i64 0], .agg #[.int .i64 0, .int .i64 0, .int .i64 0, .int .i64 0]], []⟩ 12 (by kernel_rfl) (by kernel_rfl) (by kernel_rfl) (by kernel_rfl))
    (fun W base args ds gs before hval hW _ _ => lift_true (C := Try.checked) (s := Rows.topFinerSpec) (ss := [runSh, .agg i4S]) Try.laidOut rfl rfl (by kernel_rfl) (by kernel_rfl) (by kernel_rfl)
        (fun ds hds => by
          match ds, hds with
          | [d1, d2], _ => exact ⟨rfl, rfl, rfl⟩) finer_main W base args ds gs before hval hW)

set_option maxRecDepth 100000 in
theorem topFiner_holds : Rows.TopFinerSaid :=
  OpenClaim.holds_of_wide 9 Try.f9 rfl rfl rfl rfl rfl rfl rfl ⟨rfl, rfl, rfl, rfl, rfl⟩ rfl rfl rfl rfl rfl (by kernel_rfl) Try.func9 (by kernel_rfl)
    (of_decide_eq_true (by kernel_rfl)) (by unfold Func.isWrapper; first | (rw [if_pos (by decide +kernel)]; kernel_rfl) | (rw [if_neg (by decide +kernel)]; exact ⟨rfl, rfl⟩))
    (fun os started H enc _ => topFiner_lifted os started H enc)
#print axioms topFiner_holds
end Go.Proofs.Ytnppglfoolchdaa
