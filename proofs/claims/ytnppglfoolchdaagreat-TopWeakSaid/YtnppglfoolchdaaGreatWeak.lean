/- TopWeak answers true and leaves its arguments as they were, for every run and every rib that is left, with no condition. -/
import Derived.Test.YtnppglfoolchdaaGreatOpen
namespace Go.Proofs.YtnppglfoolchdaaGreat
open Go.ChangeShapes Go.WideShapes Go.ChangeAt Go.RowKit Go.Eng Go.Joins
theorem weak_main (avs : List AV) (h : Sh.fitsL [runSh, .int .i64] avs) : FnA Tryz.prog 6 avs (· = .bool true) := by
  simp only [Sh.fitsL] at h
  obtain ⟨v, _, rfl, h1, u, _, rfl, h2, rfl⟩ := h
  obtain ⟨r, rfl⟩ := run_fits h1
  obtain ⟨n2, rfl⟩ := num_fits h2
  exact k12 prg r n2

set_option maxRecDepth 100000 in
theorem topWeak_lifted (os : Os) (started : os.Started) (H : Type) (enc : TypeId × Value → H) :
    ReturnsInHanded {} Tryz.checked os 6 .any (Rows.topWeakSpec.pre6 enc Tryz.prog Tryz.f6 Rows.topWeakRow.domain false) (Rows.topWeakSpec.post enc Tryz.prog Tryz.f6 false true false false) :=
  returnsInHanded_of_change (C := Tryz.checked) Tryz.own started (by kernel_rfl) Tryz.func6
    (ChangeSpec.witness6 (enc := enc) (C := Tryz.checked) false ⟨#[], #[.agg #[.slice none 0 0, .int .i64 0, .int .i64 0, .int .i64 0, .int .i64 0, .int .i64 0, .int .i64 0, .slice none 0 0, .slice none 0 0, .slice none 0 0, .slice none 0 0, .int .i64 0], .int .i64 0], []⟩ 12 (by kernel_rfl) (by kernel_rfl) (by kernel_rfl) (by kernel_rfl))
    (fun W base args ds gs before hval hW _ _ => lift_true (C := Tryz.checked) (s := Rows.topWeakSpec) (ss := [runSh, .int .i64]) Tryz.laidOut rfl rfl (by kernel_rfl) (by kernel_rfl) (by kernel_rfl)
        (fun ds hds => by
          match ds, hds with
          | [d1, d2], _ => exact ⟨rfl, rfl, rfl⟩) weak_main W base args ds gs before hval hW)

set_option maxRecDepth 100000 in
theorem topWeak_holds : Rows.TopWeakSaid :=
  OpenClaim.holds_of_wide 6 Tryz.f6 rfl rfl rfl rfl rfl rfl rfl ⟨rfl, rfl, rfl, rfl, rfl⟩ rfl rfl rfl rfl rfl (by kernel_rfl) Tryz.func6 (by kernel_rfl)
    (of_decide_eq_true (by kernel_rfl)) (by unfold Func.isWrapper; first | (rw [if_pos (by decide +kernel)]; kernel_rfl) | (rw [if_neg (by decide +kernel)]; exact ⟨rfl, rfl⟩))
    (fun os started H enc _ => topWeak_lifted os started H enc)
#print axioms topWeak_holds
end Go.Proofs.YtnppglfoolchdaaGreat
