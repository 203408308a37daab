/- CountsHarm answers true and leaves its argument as it was, for every run, with no condition. -/
import Derived.Test.YtnppglfoolchdaaGreatOpen
namespace Go.Proofs.YtnppglfoolchdaaGreat
open Go.ChangeShapes Go.WideShapes Go.ChangeAt Go.RowKit Go.Eng Go.Joins
theorem harm_main (avs : List AV) (h : Sh.fitsL [runSh] avs) : FnA Tryz.prog 4 avs (· = .bool true) := by
  simp only [Sh.fitsL] at h
  obtain ⟨v, _, rfl, h1, rfl⟩ := h
  obtain ⟨r, rfl⟩ := run_fits h1
  exact k4 prg r

set_option maxRecDepth 100000 in
theorem countsHarm_lifted (os : Os) (started : os.Started) (H : Type) (enc : TypeId × Value → H) :
    ReturnsInHanded {} Tryz.checked os 4 .any (Rows.countsHarmSpec.pre6 enc Tryz.prog Tryz.f4 Rows.countsHarmRow.domain false) (Rows.countsHarmSpec.post enc Tryz.prog Tryz.f4 false true false false) :=
  returnsInHanded_of_change (C := Tryz.checked) Tryz.own started (by kernel_rfl) Tryz.func4
    (ChangeSpec.witness6 (enc := enc) (C := Tryz.checked) false ⟨#[], #[.agg #[.slice none 0 0, .int .i64 0, .int .i64 0, .int .i64 0, .int .i64 0, .int .i64 0, .int .i64 0, .slice none 0 0, .slice none 0 0, .slice none 0 0, .slice none 0 0, .int .i64 0]], []⟩ 12 (by kernel_rfl) (by kernel_rfl) (by kernel_rfl) (by kernel_rfl))
    (fun W base args ds gs before hval hW _ _ => lift_true (C := Tryz.checked) (s := Rows.countsHarmSpec) (ss := [runSh]) Tryz.laidOut rfl rfl (by kernel_rfl) (by kernel_rfl) (by kernel_rfl)
        (fun ds hds => by
          match ds, hds with
          | [d1], _ => exact ⟨rfl, rfl, rfl⟩) harm_main W base args ds gs before hval hW)

set_option maxRecDepth 100000 in
theorem countsHarm_holds : Rows.CountsHarmSaid :=
  OpenClaim.holds_of_wide 4 Tryz.f4 rfl rfl rfl rfl rfl rfl rfl ⟨rfl, rfl, rfl, rfl, rfl⟩ rfl rfl rfl rfl rfl (by kernel_rfl) Tryz.func4 (by kernel_rfl)
    (of_decide_eq_true (by kernel_rfl)) (by unfold Func.isWrapper; first | (rw [if_pos (by decide +kernel)]; kernel_rfl) | (rw [if_neg (by decide +kernel)]; exact ⟨rfl, rfl⟩))
    (fun os started H enc _ => countsHarm_lifted os started H enc)
#print axioms countsHarm_holds
end Go.Proofs.YtnppglfoolchdaaGreat
