/- OrdersPlan answers true and leaves its arguments as they were, for every shop, with no condition. -/
import Derived.Test.YthdggpljbnmffaaGreatDOpen
import Derived.Test.YthdggpljbnmffaaGreatDFns2
namespace Go.Proofs.YthdggpljbnmffaaGreat
open Go.ChangeShapes Go.WideShapes Go.ChangeAt Go.RowKit Go.Eng Go.Joins
theorem oplan_main (avs : List AV) (h : Sh.fitsL [ordSh] avs) : FnA Tryz.prog 13 avs (· = .bool true) := by
  simp only [Sh.fitsL] at h
  obtain ⟨v, _, rfl, h1, rfl⟩ := h
  obtain ⟨s, rfl⟩ := ord_fits h1
  exact k13 s

set_option maxRecDepth 100000 in
theorem ordersPlan_lifted (os : Os) (started : os.Started) (H : Type) (enc : TypeId × Value → H) :
    ReturnsInHanded {} Tryz.checked os 13 .any (Rows.ordersPlanSpec.pre6 enc Tryz.prog Tryz.f13 Rows.ordersPlanRow.domain false) (Rows.ordersPlanSpec.post enc Tryz.prog Tryz.f13 false true false false) :=
  returnsInHanded_of_change (C := Tryz.checked) Tryz.own started (by kernel_rfl) Tryz.func13
    (ChangeSpec.witness6 (enc := enc) (C := Tryz.checked) false ⟨#[], #[.agg #[.slice none 0 0, .slice none 0 0, .int .i64 0, .slice none 0 0, .slice none 0 0, .slice none 0 0, .slice none 0 0, .slice none 0 0, .int .i64 0]], []⟩ 12 (by kernel_rfl) (by kernel_rfl) (by kernel_rfl) (by kernel_rfl))
    (fun W base args ds gs before hval hW _ _ => lift_true (C := Tryz.checked) (s := Rows.ordersPlanSpec) (ss := [ordSh]) Tryz.laidOut rfl rfl (by kernel_rfl) (by kernel_rfl) (by kernel_rfl)
        (fun ds hds => by
          match ds, hds with
          | [d1], _ => exact ⟨rfl, rfl, rfl⟩) oplan_main W base args ds gs before hval hW)

set_option maxRecDepth 100000 in
theorem ordersPlan_holds : Rows.OrdersPlanSaid :=
  OpenClaim.holds_of_wide 13 Tryz.f13 rfl rfl rfl rfl rfl rfl rfl ⟨rfl, rfl, rfl, rfl, rfl⟩ rfl rfl rfl rfl rfl (by kernel_rfl) Tryz.func13 (by kernel_rfl)
    (of_decide_eq_true (by kernel_rfl)) (by unfold Func.isWrapper; first | (rw [if_pos (by decide +kernel)]; kernel_rfl) | (rw [if_neg (by decide +kernel)]; exact ⟨rfl, rfl⟩))
    (fun os started H enc _ => ordersPlan_lifted os started H enc)
#print axioms ordersPlan_holds
end Go.Proofs.YthdggpljbnmffaaGreat
