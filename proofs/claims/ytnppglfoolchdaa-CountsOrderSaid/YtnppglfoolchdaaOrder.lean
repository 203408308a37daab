/- CountsOrder answers true and leaves its arguments as they were, for every run, every turn and every question, with no condition. -/
import Derived.Test.YtnppglfoolchdaaOpen
namespace Go.Proofs.Ytnppglfoolchdaa
open Go.ChangeShapes Go.WideShapes Go.ChangeAt Go.RowKit Go.Eng Go.Joins
theorem order_main (avs : List AV) (h : Sh.fitsL [runSh, .int .i64, .agg i3S] avs) : FnA Try.prog 7 avs (· = .bool true) := by
  simp only [Sh.fitsL] at h
  obtain ⟨v, _, rfl, h1, u, _, rfl, h2, x, _, rfl, h3, rfl⟩ := h
  obtain ⟨r, rfl⟩ := run_fits h1
  obtain ⟨n2, rfl⟩ := num_fits h2
  obtain ⟨a3, b3, c3, rfl⟩ := three_fits h3
  exact k10 prg r n2 a3 b3 c3

set_option maxRecDepth 100000 in
theorem countsOrder_lifted (os : Os) (started : os.Started) (H : Type) (enc : TypeId × Value → H) :
    ReturnsInHanded {} Try.checked os 7 .any (Rows.countsOrderSpec.pre6 enc Try.prog Try.f7 Rows.countsOrderRow.domain false) (Rows.countsOrderSpec.post enc Try.prog Try.f7 false true false false) :=
  returnsInHanded_of_change (C := Try.checked) Try.own started (by kernel_rfl) Try.func7
    (ChangeSpec.witness6 (enc := enc) (C := Try.checked) false ⟨#[], #[.agg #[.slice none 0 0, .int .i64 0, .int .i64 0, .int .i64 0, .int .i64 0, .int .i64 0, .int .i64 0, .slice none 0 0, .slice none 0 0, .slice none 0 0, .slice none 0 0, .int .i64 0], .int .i64 0, .agg #[.int .i64 0, .int .i64 0, .int .i64 0]], []⟩ 12 (by kernel_rfl) (by kernel_rfl) (by kernel_rfl) (by kernel_rfl))
    (fun W base args ds gs before hval hW _ _ => lift_true (C := Try.checked) (s := Rows.countsOrderSpec) (ss := [runSh, .int .i64, .agg i3S]) Try.laidOut rfl rfl (by kernel_rfl) (by kernel_rfl) (by kernel_rfl)
        (fun ds hds => by
          match ds, hds with
          | [d1, d2, d3], _ => exact ⟨rfl, rfl, rfl⟩) order_main W base args ds gs before hval hW)

set_option maxRecDepth 100000 in
theorem countsOrder_holds : Rows.CountsOrderSaid :=
  OpenClaim.holds_of_wide 7 Try.f7 rfl rfl rfl rfl rfl rfl rfl ⟨rfl, rfl, rfl, rfl, rfl⟩ rfl rfl rfl rfl rfl (by kernel_rfl) Try.func7 (by kernel_rfl)
    (of_decide_eq_true (by kernel_rfl)) (by unfold Func.isWrapper; first | (rw [if_pos (by decide +kernel)]; kernel_rfl) | (rw [if_neg (by decide +kernel)]; exact ⟨rfl, rfl⟩))
    (fun os started H enc _ => countsOrder_lifted os started H enc)
#print axioms countsOrder_holds
end Go.Proofs.Ytnppglfoolchdaa
