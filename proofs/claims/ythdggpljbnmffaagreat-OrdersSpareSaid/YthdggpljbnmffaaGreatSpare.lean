/- OrdersSpare answers true and leaves its arguments as they were, for every shop, every delivery, and every spare more or days earlier, with no condition. -/
import Derived.Test.YthdggpljbnmffaaGreatAOpen
import Derived.Test.YthdggpljbnmffaaGreatAFns2
namespace Go.Proofs.YthdggpljbnmffaaGreat
open Go.ChangeShapes Go.WideShapes Go.ChangeAt Go.RowKit Go.Eng Go.Joins
theorem ospare_main (avs : List AV) (h : Sh.fitsL [ordSh, .agg i3, askSh] avs) : FnA Tryz.prog 4 avs (· = .bool true) := by
  simp only [Sh.fitsL] at h
  obtain ⟨v, _, rfl, h1, u, _, rfl, h2, t, _, rfl, h3, rfl⟩ := h
  obtain ⟨s, rfl⟩ := ord_fits h1
  simp only [Sh.fits] at h2
  obtain ⟨cs, rfl, h2⟩ := h2
  obtain ⟨d, rfl⟩ := dlv_fits cs h2
  obtain ⟨a, b, c, rfl⟩ := ask_fits h3
  exact k4 s d a b c

set_option maxRecDepth 100000 in
theorem ordersSpare_lifted (os : Os) (started : os.Started) (H : Type) (enc : TypeId × Value → H) :
    ReturnsInHanded {} Tryz.checked os 4 .any (Rows.ordersSpareSpec.pre6 enc Tryz.prog Tryz.f4 Rows.ordersSpareRow.domain false) (Rows.ordersSpareSpec.post enc Tryz.prog Tryz.f4 false true false false) :=
  returnsInHanded_of_change (C := Tryz.checked) Tryz.own started (by kernel_rfl) Tryz.func4
    (ChangeSpec.witness6 (enc := enc) (C := Tryz.checked) false ⟨#[], #[.agg #[.slice none 0 0, .slice none 0 0, .int .i64 0, .slice none 0 0, .slice none 0 0, .slice none 0 0, .slice none 0 0, .slice none 0 0, .int .i64 0], .agg #[.int .i64 0, .int .i64 0, .int .i64 0], .agg #[.int .i64 0, .int .i64 0, .int .i64 0]], []⟩ 12 (by kernel_rfl) (by kernel_rfl) (by kernel_rfl) (by kernel_rfl))
    (fun W base args ds gs before hval hW _ _ => lift_true (C := Tryz.checked) (s := Rows.ordersSpareSpec) (ss := [ordSh, .agg i3, askSh]) Tryz.laidOut rfl rfl (by kernel_rfl) (by kernel_rfl) (by kernel_rfl)
        (fun ds hds => by
          match ds, hds with
          | [d1, d2, d3], _ => exact ⟨rfl, rfl, rfl⟩) ospare_main W base args ds gs before hval hW)

set_option maxRecDepth 100000 in
theorem ordersSpare_holds : Rows.OrdersSpareSaid :=
  OpenClaim.holds_of_wide 4 Tryz.f4 rfl rfl rfl rfl rfl rfl rfl ⟨rfl, rfl, rfl, rfl, rfl⟩ rfl rfl rfl rfl rfl (by kernel_rfl) Tryz.func4 (by kernel_rfl)
    (of_decide_eq_true (by kernel_rfl)) (by unfold Func.isWrapper; first | (rw [if_pos (by decide +kernel)]; kernel_rfl) | (rw [if_neg (by decide +kernel)]; exact ⟨rfl, rfl⟩))
    (fun os started H enc _ => ordersSpare_lifted os started H enc)
#print axioms ordersSpare_holds
end Go.Proofs.YthdggpljbnmffaaGreat
