/- OrdersSuit answers true and leaves its arguments as they were, for every shop, every wish, every piece and every delivery, with no condition. -/
import Derived.Test.YthdggpljbnmffaaGreatOpen
import Derived.Test.YthdggpljbnmffaaGreatFns3
namespace Go.Proofs.YthdggpljbnmffaaGreat
open Go.ChangeShapes Go.WideShapes Go.ChangeAt Go.RowKit Go.Eng Go.Joins
theorem osuit_main (avs : List AV) (h : Sh.fitsL [ordSh, askSh] avs) : FnA Tryz.prog 10 avs (· = .bool true) := by
  simp only [Sh.fitsL] at h
  obtain ⟨v, _, rfl, h1, u, _, rfl, h2, rfl⟩ := h
  obtain ⟨s, rfl⟩ := ord_fits h1
  obtain ⟨a, b, c, rfl⟩ := ask_fits h2
  exact k10 s a b c

set_option maxRecDepth 100000 in
theorem ordersSuit_lifted (os : Os) (started : os.Started) (H : Type) (enc : TypeId × Value → H) :
    ReturnsInHanded {} Tryz.checked os 10 .any (Rows.ordersSuitSpec.pre6 enc Tryz.prog Tryz.f10 Rows.ordersSuitRow.domain false) (Rows.ordersSuitSpec.post enc Tryz.prog Tryz.f10 false true false false) :=
  returnsInHanded_of_change (C := Tryz.checked) Tryz.own started (by kernel_rfl) Tryz.func10
    (ChangeSpec.witness6 (enc := enc) (C := Tryz.checked) false ⟨#[], #[.agg #[.slice none 0 0, .slice none 0 0, .int .i64 0, .slice none 0 0, .slice none 0 0, .slice none 0 0, .slice none 0 0, .slice none 0 0, .int .i64 0], .agg #[.int .i64 0, .int .i64 0, .int .i64 0]], []⟩ 12 (by kernel_rfl) (by kernel_rfl) (by kernel_rfl) (by kernel_rfl))
    (fun W base args ds gs before hval hW _ _ => lift_true (C := Tryz.checked) (s := Rows.ordersSuitSpec) (ss := [ordSh, askSh]) Tryz.laidOut rfl rfl (by kernel_rfl) (by kernel_rfl) (by kernel_rfl)
        (fun ds hds => by
          match ds, hds with
          | [d1, d2], _ => exact ⟨rfl, rfl, rfl⟩) osuit_main W base args ds gs before hval hW)

set_option maxRecDepth 100000 in
theorem ordersSuit_holds : Rows.OrdersSuitSaid :=
  OpenClaim.holds_of_wide 10 Tryz.f10 rfl rfl rfl rfl rfl rfl rfl ⟨rfl, rfl, rfl, rfl, rfl⟩ rfl rfl rfl rfl rfl (by kernel_rfl) Tryz.func10 (by kernel_rfl)
    (of_decide_eq_true (by kernel_rfl)) (by unfold Func.isWrapper; first | (rw [if_pos (by decide +kernel)]; kernel_rfl) | (rw [if_neg (by decide +kernel)]; exact ⟨rfl, rfl⟩))
    (fun os started H enc _ => ordersSuit_lifted os started H enc)
#print axioms ordersSuit_holds
end Go.Proofs.YthdggpljbnmffaaGreat
