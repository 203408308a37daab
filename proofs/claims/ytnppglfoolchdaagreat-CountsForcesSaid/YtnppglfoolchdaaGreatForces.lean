/- CountsForces answers true and leaves its arguments as they were, for every run, blow, meter and limit, with no condition. -/
import Derived.Test.YtnppglfoolchdaaGreatOpen
namespace Go.Proofs.YtnppglfoolchdaaGreat
open Go.ChangeShapes Go.WideShapes Go.ChangeAt Go.RowKit Go.Eng Go.Joins
theorem forces_main (avs : List AV) (h : Sh.fitsL [runSh, .agg i3S] avs) : FnA Tryz.prog 3 avs (· = .bool true) := by
  simp only [Sh.fitsL] at h
  obtain ⟨v, _, rfl, h1, u, _, rfl, h2, rfl⟩ := h
  obtain ⟨r, rfl⟩ := run_fits h1
  obtain ⟨a2, b2, c2, rfl⟩ := three_fits h2
  exact k3 prg r a2 b2 c2

set_option maxRecDepth 100000 in
theorem countsForces_lifted (os : Os) (started : os.Started) (H : Type) (enc : TypeId × Value → H) :
    ReturnsInHanded {} Tryz.checked os 3 .any (Rows.countsForcesSpec.pre6 enc Tryz.prog Tryz.f3 Rows.countsForcesRow.domain false) (Rows.countsForcesSpec.post enc Tryz.prog Tryz.f3 false true false false) :=
  returnsInHanded_of_change (C := Tryz.checked) Tryz.own started (by kernel_rfl) Tryz.func3
    (ChangeSpec.witness6 (enc := enc) (C := Tryz.checked) false ⟨#[], #[.agg #[.slice none 0 0, .int .i64 0, .int .i64 0, .int .i64 0, .int .i64 0, .int .i64 0, .int .i64 0, .slice none 0 0, .slice none 0 0, .slice none 0 0, .slice none 0 0, .int .i64 0], .agg #[.int .i64 0, .int .i64 0, .int .i64 0]], []⟩ 12 (by kernel_rfl) (by kernel_rfl) (by kernel_rfl) (by kernel_rfl))
    (fun W base args ds gs before hval hW _ _ => lift_true (C := Tryz.checked) (s := Rows.countsForcesSpec) (ss := [runSh, .agg i3S]) Tryz.laidOut rfl rfl (by kernel_rfl) (by kernel_rfl) (by kernel_rfl)
        (fun ds hds => by
          match ds, hds with
          | [d1, d2], _ => exact ⟨rfl, rfl, rfl⟩) forces_main W base args ds gs before hval hW)

set_option maxRecDepth 100000 in
theorem countsForces_holds : Rows.CountsForcesSaid :=
  OpenClaim.holds_of_wide 3 Tryz.f3 rfl rfl rfl rfl rfl rfl rfl ⟨rfl, rfl, rfl, rfl, rfl⟩ rfl rfl rfl rfl rfl (by kernel_rfl) Tryz.func3 (by kernel_rfl)
    (of_decide_eq_true (by kernel_rfl)) (by unfold Func.isWrapper; first | (rw [if_pos (by decide +kernel)]; kernel_rfl) | (rw [if_neg (by decide +kernel)]; exact ⟨rfl, rfl⟩))
    (fun os started H enc _ => countsForces_lifted os started H enc)
#print axioms countsForces_holds
end Go.Proofs.YtnppglfoolchdaaGreat
