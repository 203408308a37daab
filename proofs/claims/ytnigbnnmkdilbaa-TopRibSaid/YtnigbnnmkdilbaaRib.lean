/- TopRib answers true and leaves its arguments as they were, for every workshop, every frame and every fitting, with no condition. -/
import Derived.Test.YtnigbnnmkdilbaaOpen
import Derived.Test.YtnigbnnmkdilbaaFns1
namespace Go.Proofs.Ytnigbnnmkdilbaa
open Go.ChangeShapes Go.WideShapes Go.ChangeAt Go.RowKit Go.Eng Go.Joins
theorem toprib_main (avs : List AV) (h : Sh.fitsL [shopSh, frmSh, fitSh] avs) : FnA Try.prog 13 avs (· = .bool true) := by
  simp only [Sh.fitsL] at h
  obtain ⟨v, _, rfl, h1, u, _, rfl, h2, t, _, rfl, h3, rfl⟩ := h
  obtain ⟨w, rfl⟩ := shop_fits h1
  obtain ⟨f, rfl⟩ := frm_fits h2
  obtain ⟨i, s, t, rfl⟩ := fit_fits h3
  exact k13R w f i s t

set_option maxRecDepth 100000 in
theorem topRib_lifted (os : Os) (started : os.Started) (H : Type) (enc : TypeId × Value → H) :
    ReturnsInHanded {} Try.checked os 13 .any (Rows.topRibSpec.pre6 enc Try.prog Try.f13 Rows.topRibRow.domain false) (Rows.topRibSpec.post enc Try.prog Try.f13 false true false false) :=
  returnsInHanded_of_change (C := Try.checked) Try.own started (by kernel_rfl) Try.func13
    (ChangeSpec.witness6 (enc := enc) (C := Try.checked) false ⟨#[], #[.agg #[.slice none 0 0, .slice none 0 0, .int .i64 0, .slice none 0 0], .agg #[.slice none 0 0, .int .i64 0, .int .i64 0, .int .i64 0, .int .i64 0, .int .i64 0, .int .i64 0], .agg #[.int .i64 0, .int .i64 0, .int .i64 0, .int .i64 0, .int .i64 0, .int .i64 0]], []⟩ 12 (by kernel_rfl) (by kernel_rfl) (by kernel_rfl) (by kernel_rfl))
    (fun W base args ds gs before hval hW _ _ => lift_true (C := Try.checked) (s := Rows.topRibSpec) (ss := [shopSh, frmSh, fitSh]) Try.laidOut rfl rfl (by kernel_rfl) (by kernel_rfl) (by kernel_rfl)
        (fun ds hds => by
          match ds, hds with
          | [d1, d2, d3], _ => exact ⟨rfl, rfl, rfl⟩) toprib_main W base args ds gs before hval hW)

set_option maxRecDepth 100000 in
theorem topRib_holds : Rows.TopRibSaid :=
  OpenClaim.holds_of_wide 13 Try.f13 rfl rfl rfl rfl rfl rfl rfl ⟨rfl, rfl, rfl, rfl, rfl⟩ rfl rfl rfl rfl rfl (by kernel_rfl) Try.func13 (by kernel_rfl)
    (of_decide_eq_true (by kernel_rfl)) (by unfold Func.isWrapper; first | (rw [if_pos (by decide +kernel)]; kernel_rfl) | (rw [if_neg (by decide +kernel)]; exact ⟨rfl, rfl⟩))
    (fun os started H enc _ => topRib_lifted os started H enc)
#print axioms topRib_holds
end Go.Proofs.Ytnigbnnmkdilbaa
