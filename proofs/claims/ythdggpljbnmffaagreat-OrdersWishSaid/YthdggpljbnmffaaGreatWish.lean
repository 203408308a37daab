/- OrdersWish answers true and leaves its arguments as they were, for every shop and every wish, with no condition. -/
import Derived.Test.YthdggpljbnmffaaGreatAOpen
import Derived.Test.YthdggpljbnmffaaGreatAFns2
namespace Go.Proofs.YthdggpljbnmffaaGreat
open Go.ChangeShapes Go.WideShapes Go.ChangeAt Go.RowKit Go.Eng Go.Joins
theorem owish_main (avs : List AV) (h : Sh.fitsL [ordSh, .agg wishSh] avs) : FnA Tryz.prog 5 avs (· = .bool true) := by
  simp only [Sh.fitsL] at h
  obtain ⟨v, _, rfl, h1, u, _, rfl, h2, rfl⟩ := h
  obtain ⟨s, rfl⟩ := ord_fits h1
  simp only [Sh.fits] at h2
  obtain ⟨cs, rfl, h2⟩ := h2
  obtain ⟨w, rfl⟩ := wish_fits cs h2
  exact k5 s w

set_option maxRecDepth 100000 in
theorem ordersWish_lifted (os : Os) (started : os.Started) (H : Type) (enc : TypeId × Value → H) :
    ReturnsInHanded {} Tryz.checked os 5 .any (Rows.ordersWishSpec.pre6 enc Tryz.prog Tryz.f5 Rows.ordersWishRow.domain false) (Rows.ordersWishSpec.post enc Tryz.prog Tryz.f5 false true false false) :=
  returnsInHanded_of_change (C := Tryz.checked) Tryz.own started (by kernel_rfl) Tryz.func5
    (ChangeSpec.witness6 (enc := enc) (C := Tryz.checked) false ⟨#[], #[.agg #[.slice none 0 0, .slice none 0 0, .int .i64 0, .slice none 0 0, .slice none 0 0, .slice none 0 0, .slice none 0 0, .slice none 0 0, .int .i64 0], .agg #[.slice none 0 0, .int .i64 0, .int .i64 0, .int .i64 0, .int .i64 0, .int .i64 0]], []⟩ 12 (by kernel_rfl) (by kernel_rfl) (by kernel_rfl) (by kernel_rfl))
    (fun W base args ds gs before hval hW _ _ => lift_true (C := Tryz.checked) (s := Rows.ordersWishSpec) (ss := [ordSh, .agg wishSh]) Tryz.laidOut rfl rfl (by kernel_rfl) (by kernel_rfl) (by kernel_rfl)
        (fun ds hds => by
          match ds, hds with
          | [d1, d2], _ => exact ⟨rfl, rfl, rfl⟩) owish_main W base args ds gs before hval hW)

set_option maxRecDepth 100000 in
theorem ordersWish_holds : Rows.OrdersWishSaid :=
  OpenClaim.holds_of_wide 5 Tryz.f5 rfl rfl rfl rfl rfl rfl rfl ⟨rfl, rfl, rfl, rfl, rfl⟩ rfl rfl rfl rfl rfl (by kernel_rfl) Tryz.func5 (by kernel_rfl)
    (of_decide_eq_true (by kernel_rfl)) (by unfold Func.isWrapper; first | (rw [if_pos (by decide +kernel)]; kernel_rfl) | (rw [if_neg (by decide +kernel)]; exact ⟨rfl, rfl⟩))
    (fun os started H enc _ => ordersWish_lifted os started H enc)
#print axioms ordersWish_holds
end Go.Proofs.YthdggpljbnmffaaGreat
