/- CountsTrue answers true and leaves its arguments as they were, for every run, every truth and every question, with no condition. -/
import Derived.Test.YtnppglfoolchdaaGreatOpen
namespace Go.Proofs.YtnppglfoolchdaaGreat
open Go.ChangeShapes Go.WideShapes Go.ChangeAt Go.RowKit Go.Eng Go.Joins
theorem ctrue_main (avs : List AV) (h : Sh.fitsL [runSh, realSh, .agg i3S] avs) : FnA Tryz.prog 5 avs (· = .bool true) := by
  simp only [Sh.fitsL] at h
  obtain ⟨v, _, rfl, h1, u, _, rfl, h2, x, _, rfl, h3, rfl⟩ := h
  obtain ⟨r, rfl⟩ := run_fits h1
  obtain ⟨f, a, s, ss, rfl, hf, hs⟩ := real_fits h2
  obtain ⟨a3, b3, c3, rfl⟩ := three_fits h3
  exact k5 prg r f a s ss a3 b3 c3 hf hs

set_option maxRecDepth 100000 in
theorem countsTrue_lifted (os : Os) (started : os.Started) (H : Type) (enc : TypeId × Value → H) :
    ReturnsInHanded {} Tryz.checked os 5 .any (Rows.countsTrueSpec.pre6 enc Tryz.prog Tryz.f5 Rows.countsTrueRow.domain false) (Rows.countsTrueSpec.post enc Tryz.prog Tryz.f5 false true false false) :=
  returnsInHanded_of_change (C := Tryz.checked) Tryz.own started (by kernel_rfl) Tryz.func5
    (ChangeSpec.witness6 (enc := enc) (C := Tryz.checked) false ⟨#[], #[.agg #[.slice none 0 0, .int .i64 0, .int .i64 0, .int .i64 0, .int .i64 0, .int .i64 0, .int .i64 0, .slice none 0 0, .slice none 0 0, .slice none 0 0, .slice none 0 0, .int .i64 0], .agg #[.slice none 0 0, .int .i64 0, .int .i64 0, .slice none 0 0], .agg #[.int .i64 0, .int .i64 0, .int .i64 0]], []⟩ 12 (by kernel_rfl) (by kernel_rfl) (by kernel_rfl) (by kernel_rfl))
    (fun W base args ds gs before hval hW _ _ => lift_true (C := Tryz.checked) (s := Rows.countsTrueSpec) (ss := [runSh, realSh, .agg i3S]) Tryz.laidOut rfl rfl (by kernel_rfl) (by kernel_rfl) (by kernel_rfl)
        (fun ds hds => by
          match ds, hds with
          | [d1, d2, d3], _ => exact ⟨rfl, rfl, rfl⟩) ctrue_main W base args ds gs before hval hW)

set_option maxRecDepth 100000 in
theorem countsTrue_holds : Rows.CountsTrueSaid :=
  OpenClaim.holds_of_wide 5 Tryz.f5 rfl rfl rfl rfl rfl rfl rfl ⟨rfl, rfl, rfl, rfl, rfl⟩ rfl rfl rfl rfl rfl (by kernel_rfl) Tryz.func5 (by kernel_rfl)
    (of_decide_eq_true (by kernel_rfl)) (by unfold Func.isWrapper; first | (rw [if_pos (by decide +kernel)]; kernel_rfl) | (rw [if_neg (by decide +kernel)]; exact ⟨rfl, rfl⟩))
    (fun os started H enc _ => countsTrue_lifted os started H enc)
#print axioms countsTrue_holds
end Go.Proofs.YtnppglfoolchdaaGreat
