/- ClothWider answers true and leaves its arguments as they were, for every dome, every number of a round and every pair of a widening and a loss, with no condition. -/
import Derived.Test.YtpiofeaafnldfaaOpen
import Derived.Test.YtpiofeaafnldfaaFns4
namespace Go.Proofs.Ytpiofeaafnldfaa
open Go.ChangeShapes Go.WideShapes Go.ChangeAt Go.RowKit Go.Eng Go.Joins
theorem wider_main (avs : List AV) (h : Sh.fitsL [domeSh, .int .i64, .agg i2] avs) : FnA Try.prog 7 avs (· = .bool true) := by
  simp only [Sh.fitsL] at h
  obtain ⟨v, _, rfl, h1, u, _, rfl, h2, x, _, rfl, h3, rfl⟩ := h
  obtain ⟨d, rfl⟩ := dome_fits h1
  obtain ⟨a, rfl, _⟩ := int_fits h2
  simp only [i2, Sh.fitsL, Sh.fits] at h3
  obtain ⟨_, rfl, _, _, rfl, ⟨b, rfl, _⟩, _, _, rfl, ⟨c, rfl, _⟩, rfl⟩ := h3
  exact k7 d a b c

set_option maxRecDepth 100000 in
theorem clothWider_lifted (os : Os) (started : os.Started) (H : Type) (enc : TypeId × Value → H) :
    ReturnsInHanded {} Try.checked os 7 .any (Rows.clothWiderSpec.pre6 enc Try.prog Try.f7 Rows.clothWiderRow.domain false) (Rows.clothWiderSpec.post enc Try.prog Try.f7 false true false false) :=
  returnsInHanded_of_change (C := Try.checked) Try.own started (by kernel_rfl) Try.func7
    (ChangeSpec.witness6 (enc := enc) (C := Try.checked) false ⟨#[], #[.agg #[.slice none 0 0, .slice none 0 0, .int .i64 0, .slice none 0 0, .slice none 0 0, .int .i64 0], .int .i64 0, .agg #[.int .i64 0, .int .i64 0]], []⟩ 12 (by kernel_rfl) (by kernel_rfl) (by kernel_rfl) (by kernel_rfl))
    (fun W base args ds gs before hval hW _ _ => lift_true (C := Try.checked) (s := Rows.clothWiderSpec) (ss := [domeSh, .int .i64, .agg i2]) Try.laidOut rfl rfl (by kernel_rfl) (by kernel_rfl) (by kernel_rfl)
        (fun ds hds => by
          match ds, hds with
          | [d1, d2, d3], _ => exact ⟨rfl, rfl, rfl⟩) wider_main W base args ds gs before hval hW)

set_option maxRecDepth 100000 in
theorem clothWider_holds : Rows.ClothWiderSaid :=
  OpenClaim.holds_of_wide 7 Try.f7 rfl rfl rfl rfl rfl rfl rfl ⟨rfl, rfl, rfl, rfl, rfl⟩ rfl rfl rfl rfl rfl (by kernel_rfl) Try.func7 (by kernel_rfl)
    (of_decide_eq_true (by kernel_rfl)) (by unfold Func.isWrapper; first | (rw [if_pos (by decide +kernel)]; kernel_rfl) | (rw [if_neg (by decide +kernel)]; exact ⟨rfl, rfl⟩))
    (fun os started H enc _ => clothWider_lifted os started H enc)
#print axioms clothWider_holds
end Go.Proofs.Ytpiofeaafnldfaa
