/- OrdersLost answers true and leaves its arguments as they were, for every shop and every delivery, with no condition. -/
import Derived.Test.YthdggpljbnmffaaGreatAOpen
import Derived.Test.YthdggpljbnmffaaGreatAFns2
namespace Go.Proofs.YthdggpljbnmffaaGreat
open Go.ChangeShapes Go.WideShapes Go.ChangeAt Go.RowKit Go.Eng Go.Joins
theorem olost_main (avs : List AV) (h : Sh.fitsL [ordSh, .int .i64] avs) : FnA Tryz.prog 9 avs (· = .bool true) := by
  simp only [Sh.fitsL] at h
  obtain ⟨v, _, rfl, h1, u, _, rfl, h2, rfl⟩ := h
  obtain ⟨s, rfl⟩ := ord_fits h1
  obtain ⟨a, rfl, _⟩ := int_fits h2
  exact k9 s a

set_option maxRecDepth 100000 in
theorem ordersLost_lifted (os : Os) (started : os.Started) (H : Type) (enc : TypeId × Value → H) :
    ReturnsInHanded {} Tryz.checked os 9 .any (Rows.ordersLostSpec.pre6 enc Tryz.prog Tryz.f9 Rows.ordersLostRow.domain false) (Rows.ordersLostSpec.post enc Tryz.prog Tryz.f9 false true false false) :=
  returnsInHanded_of_change (C := Tryz.checked) Tryz.own started (by kernel_rfl) Tryz.func9
    (ChangeSpec.witness6 (enc := enc) (C := Tryz.checked) false ⟨#[], #[.agg #[.slice none 0 0, .slice none 0 0, .int .i64 0, .slice none 0 0, .slice none 0 0, .slice none 0 0, .slice none 0 0, .slice none 0 0, .int .i64 0], .int .i64 0], []⟩ 12 (by kernel_rfl) (by kernel_rfl) (by kernel_rfl) (by kernel_rfl))
    (fun W base args ds gs before hval hW _ _ => lift_true (C := Tryz.checked) (s := Rows.ordersLostSpec) (ss := [ordSh, .int .i64]) Tryz.laidOut rfl rfl (by kernel_rfl) (by kernel_rfl) (by kernel_rfl)
        (fun ds hds => by
          match ds, hds with
          | [d1, d2], _ => exact ⟨rfl, rfl, rfl⟩) olost_main W base args ds gs before hval hW)

set_option maxRecDepth 100000 in
theorem ordersLost_holds : Rows.OrdersLostSaid :=
  OpenClaim.holds_of_wide 9 Tryz.f9 rfl rfl rfl rfl rfl rfl rfl ⟨rfl, rfl, rfl, rfl, rfl⟩ rfl rfl rfl rfl rfl (by kernel_rfl) Tryz.func9 (by kernel_rfl)
    (of_decide_eq_true (by kernel_rfl)) (by unfold Func.isWrapper; first | (rw [if_pos (by decide +kernel)]; kernel_rfl) | (rw [if_neg (by decide +kernel)]; exact ⟨rfl, rfl⟩))
    (fun os started H enc _ => ordersLost_lifted os started H enc)
#print axioms ordersLost_holds
end Go.Proofs.YthdggpljbnmffaaGreat
