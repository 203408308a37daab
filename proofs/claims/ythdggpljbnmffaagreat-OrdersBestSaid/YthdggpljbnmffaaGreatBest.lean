/- OrdersBest answers true and leaves its arguments as they were, for every shop and every plan, with no condition. -/
import Derived.Test.YthdggpljbnmffaaGreatCOpen
import Derived.Test.YthdggpljbnmffaaGreatCFns3
namespace Go.Proofs.YthdggpljbnmffaaGreat
open Go.ChangeShapes Go.WideShapes Go.ChangeAt Go.RowKit Go.Eng Go.Joins
theorem obest_main (avs : List AV) (h : Sh.fitsL [ordSh, .sl i1] avs) : FnA Tryz.prog 3 avs (· = .bool true) := by
  simp only [Sh.fitsL] at h
  obtain ⟨v, _, rfl, h1, u, _, rfl, h2, rfl⟩ := h
  obtain ⟨s, rfl⟩ := ord_fits h1
  obtain ⟨l, rfl⟩ := list_fits h2
  exact k3 s l

set_option maxRecDepth 100000 in
theorem ordersBest_lifted (os : Os) (started : os.Started) (H : Type) (enc : TypeId × Value → H) :
    ReturnsInHanded {} Tryz.checked os 3 .any (Rows.ordersBestSpec.pre6 enc Tryz.prog Tryz.f3 Rows.ordersBestRow.domain false) (Rows.ordersBestSpec.post enc Tryz.prog Tryz.f3 false true false false) :=
  returnsInHanded_of_change (C := Tryz.checked) Tryz.own started (by kernel_rfl) Tryz.func3
    (ChangeSpec.witness6 (enc := enc) (C := Tryz.checked) false ⟨#[], #[.agg #[.slice none 0 0, .slice none 0 0, .int .i64 0, .slice none 0 0, .slice none 0 0, .slice none 0 0, .slice none 0 0, .slice none 0 0, .int .i64 0], .slice none 0 0], []⟩ 12 (by kernel_rfl) (by kernel_rfl) (by kernel_rfl) (by kernel_rfl))
    (fun W base args ds gs before hval hW _ _ => lift_true (C := Tryz.checked) (s := Rows.ordersBestSpec) (ss := [ordSh, .sl i1]) Tryz.laidOut rfl rfl (by kernel_rfl) (by kernel_rfl) (by kernel_rfl)
        (fun ds hds => by
          match ds, hds with
          | [d1, d2], _ => exact ⟨rfl, rfl, rfl⟩) obest_main W base args ds gs before hval hW)

set_option maxRecDepth 100000 in
theorem ordersBest_holds : Rows.OrdersBestSaid :=
  OpenClaim.holds_of_wide 3 Tryz.f3 rfl rfl rfl rfl rfl rfl rfl ⟨rfl, rfl, rfl, rfl, rfl⟩ rfl rfl rfl rfl rfl (by kernel_rfl) Tryz.func3 (by kernel_rfl)
    (of_decide_eq_true (by kernel_rfl)) (by unfold Func.isWrapper; first | (rw [if_pos (by decide +kernel)]; kernel_rfl) | (rw [if_neg (by decide +kernel)]; exact ⟨rfl, rfl⟩))
    (fun os started H enc _ => ordersBest_lifted os started H enc)
#print axioms ordersBest_holds
end Go.Proofs.YthdggpljbnmffaaGreat
