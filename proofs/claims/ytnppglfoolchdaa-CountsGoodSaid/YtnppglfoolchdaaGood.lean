/- CountsGood answers true and leaves its arguments as they were, for every run, every two limits and every blow, with no condition. -/
import Derived.Test.YtnppglfoolchdaaOpen
namespace Go.Proofs.Ytnppglfoolchdaa
open Go.ChangeShapes Go.WideShapes Go.ChangeAt Go.RowKit Go.Eng Go.Joins
theorem good_main (avs : List AV) (h : Sh.fitsL [runSh, .agg i2, .int .i64] avs) : FnA Try.prog 5 avs (· = .bool true) := by
  simp only [Sh.fitsL] at h
  obtain ⟨v, _, rfl, h1, u, _, rfl, h2, x, _, rfl, h3, rfl⟩ := h
  obtain ⟨r, rfl⟩ := run_fits h1
  obtain ⟨a2, b2, rfl⟩ := two_fits h2
  obtain ⟨n3, rfl⟩ := num_fits h3
  exact k8 prg r a2 b2 n3

set_option maxRecDepth 100000 in
theorem countsGood_lifted (os : Os) (started : os.Started) (H : Type) (enc : TypeId × Value → H) :
    ReturnsInHanded {} Try.checked os 5 .any (Rows.countsGoodSpec.pre6 enc Try.prog Try.f5 Rows.countsGoodRow.domain false) (Rows.countsGoodSpec.post enc Try.prog Try.f5 false true false false) :=
  returnsInHanded_of_change (C := Try.checked) Try.own started (by kernel_rfl) Try.func5
    (ChangeSpec.witness6 (enc := enc) (C := Try.checked) false ⟨#[], #[.agg #[.slice none 0 0, .int .i64 0, .int .i64 0, .int .i64 0, .int .i64 0, .int .i64 0, .int .i64 0, .slice none 0 0, .slice none 0 0, .slice none 0 0, .slice none 0 0, .int .i64 0], .agg #[.int .i64 0, .int .i64 0], .int .i64 0], []⟩ 12 (by kernel_rfl) (by kernel_rfl) (by kernel_rfl) (by kernel_rfl))
    (fun W base args ds gs before hval hW _ _ => lift_true (C := Try.checked) (s := Rows.countsGoodSpec) (ss := [runSh, .agg i2, .int .i64]) Try.laidOut rfl rfl (by kernel_rfl) (by kernel_rfl) (by kernel_rfl)
        (fun ds hds => by
          match ds, hds with
          | [d1, d2, d3], _ => exact ⟨rfl, rfl, rfl⟩) good_main W base args ds gs before hval hW)

set_option maxRecDepth 100000 in
theorem countsGood_holds : Rows.CountsGoodSaid :=
  OpenClaim.holds_of_wide 5 Try.f5 rfl rfl rfl rfl rfl rfl rfl ⟨rfl, rfl, rfl, rfl, rfl⟩ rfl rfl rfl rfl rfl (by kernel_rfl) Try.func5 (by kernel_rfl)
    (of_decide_eq_true (by kernel_rfl)) (by unfold Func.isWrapper; first | (rw [if_pos (by decide +kernel)]; kernel_rfl) | (rw [if_neg (by decide +kernel)]; exact ⟨rfl, rfl⟩))
    (fun os started H enc _ => countsGood_lifted os started H enc)
#print axioms countsGood_holds
end Go.Proofs.Ytnppglfoolchdaa
