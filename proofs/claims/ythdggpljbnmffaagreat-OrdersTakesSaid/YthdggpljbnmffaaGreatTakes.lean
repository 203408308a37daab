/- OrdersTakes answers true and leaves its arguments as they were, for every shop and every plan, with no condition. -/
import Derived.Test.YthdggpljbnmffaaGreatDOpen
import Derived.Test.YthdggpljbnmffaaGreatDFns2
namespace Go.Proofs.YthdggpljbnmffaaGreat
open Go.ChangeShapes Go.WideShapes Go.ChangeAt Go.RowKit Go.Eng Go.Joins
theorem otakes_main (avs : List AV) (h : Sh.fitsL [ordSh, .sl i1] avs) : FnA Tryz.prog 12 avs (· = .bool true) := by
  simp only [Sh.fitsL] at h
  obtain ⟨v, _, rfl, h1, u, _, rfl, h2, rfl⟩ := h
  obtain ⟨s, rfl⟩ := ord_fits h1
  obtain ⟨l, rfl⟩ := list_fits h2
  exact k12 s l

set_option maxRecDepth 100000 in
theorem ordersTakes_lifted (os : Os) (started : os.Started) (H : Type) (enc : TypeId × Value → H) :
    ReturnsInHanded {} Tryz.checked os 12 .any (Rows.ordersTakesSpec.pre6 enc Tryz.prog Tryz.f12 Rows.ordersTakesRow.domain false) (Rows.ordersTakesSpec.post enc Tryz.prog Tryz.f12 false true false false) :=
  returnsInHanded_of_change (C := Tryz.checked) Tryz.own started (by kernel_rfl) Tryz.func12
    (ChangeSpec.witness6 (enc := enc) (C := Tryz.checked) false ⟨#[], #[.agg #[.slice none 0 0, .slice none 0 0, .int .i64 0, .slice none 0 0, .slice none 0 0, .slice none 0 0, .slice none 0 0, .slice none 0 0, .int .i64 0], .slice none 0 0], []⟩ 12 (by kernel_rfl) (by kernel_rfl) (by kernel_rfl) (by kernel_rfl))
    (fun W base args ds gs before hval hW _ _ => lift_true (C := Tryz.checked) (s := Rows.ordersTakesSpec) (ss := [ordSh, .sl i1]) Tryz.laidOut rfl rfl (by kernel_rfl) (by kernel_rfl) (by kernel_rfl)
        (fun ds hds => by
          match ds, hds with
          | [d1, d2], _ => exact ⟨rfl, rfl, rfl⟩) otakes_main W base args ds gs before hval hW)

set_option maxRecDepth 100000 in
theorem ordersTakes_holds : Rows.OrdersTakesSaid :=
  OpenClaim.holds_of_wide 12 Tryz.f12 rfl rfl rfl rfl rfl rfl rfl ⟨rfl, rfl, rfl, rfl, rfl⟩ rfl rfl rfl rfl rfl (by kernel_rfl) Tryz.func12 (by kernel_rfl)
    (of_decide_eq_true (by kernel_rfl)) (by unfold Func.isWrapper; first | (rw [if_pos (by decide +kernel)]; kernel_rfl) | (rw [if_neg (by decide +kernel)]; exact ⟨rfl, rfl⟩))
    (fun os started H enc _ => ordersTakes_lifted os started H enc)
#print axioms ordersTakes_holds
end Go.Proofs.YthdggpljbnmffaaGreat
