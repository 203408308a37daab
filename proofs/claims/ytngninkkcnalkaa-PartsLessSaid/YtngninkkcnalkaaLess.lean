/- PartsLess answers true and leaves its arguments as they were, for every workshop and every spare, with no condition. -/
import Derived.Test.YtngninkkcnalkaaDOpen
import Derived.Test.YtngninkkcnalkaaDFns4
namespace Go.Proofs.Ytngninkkcnalkaa
open Go.ChangeShapes Go.WideShapes Go.ChangeAt Go.RowKit Go.Eng Go.Joins
def spareSh : Sh := .agg i4
theorem pless_main (avs : List AV) (h : Sh.fitsL [shopSh, spareSh] avs) : FnA Try.prog 10 avs (· = .bool true) := by
  simp only [Sh.fitsL] at h
  obtain ⟨v, _, rfl, h1, u, _, rfl, h2, rfl⟩ := h
  obtain ⟨w, rfl⟩ := shop_fits h1
  simp only [spareSh, i4, Sh.fitsL, Sh.fits] at h2
  obtain ⟨_, rfl, _, _, rfl, ⟨a, rfl, _⟩, _, _, rfl, ⟨b, rfl, _⟩, _, _, rfl, ⟨c, rfl, _⟩, _, _, rfl, ⟨d, rfl, _⟩, rfl⟩ := h2
  exact k10 w ⟨a, b, c, d⟩

set_option maxRecDepth 100000 in
theorem partsLess_lifted (os : Os) (started : os.Started) (H : Type) (enc : TypeId × Value → H) :
    ReturnsInHanded {} Try.checked os 10 .any (Rows.partsLessSpec.pre6 enc Try.prog Try.f10 Rows.partsLessRow.domain false) (Rows.partsLessSpec.post enc Try.prog Try.f10 false true false false) :=
  returnsInHanded_of_change (C := Try.checked) Try.own started (by kernel_rfl) Try.func10
    (ChangeSpec.witness6 (enc := enc) (C := Try.checked) false ⟨#[], #[.agg #[.slice none 0 0, .slice none 0 0, .int .i64 0, .slice none 0 0], .agg #[.int .i64 0, .int .i64 0, .int .i64 0, .int .i64 0]], []⟩ 12 (by kernel_rfl) (by kernel_rfl) (by kernel_rfl) (by kernel_rfl))
    (fun W base args ds gs before hval hW _ _ => lift_true (C := Try.checked) (s := Rows.partsLessSpec) (ss := [shopSh, spareSh]) Try.laidOut rfl rfl (by kernel_rfl) (by kernel_rfl) (by kernel_rfl)
        (fun ds hds => by
          match ds, hds with
          | [d1, d2], _ => exact ⟨rfl, rfl, rfl⟩) pless_main W base args ds gs before hval hW)

set_option maxRecDepth 100000 in
theorem partsLess_holds : Rows.PartsLessSaid :=
  OpenClaim.holds_of_wide 10 Try.f10 rfl rfl rfl rfl rfl rfl rfl ⟨rfl, rfl, rfl, rfl, rfl⟩ rfl rfl rfl rfl rfl (by kernel_rfl) Try.func10 (by kernel_rfl)
    (of_decide_eq_true (by kernel_rfl)) (by unfold Func.isWrapper; first | (rw [if_pos (by decide +kernel)]; kernel_rfl) | (rw [if_neg (by decide +kernel)]; exact ⟨rfl, rfl⟩))
    (fun os started H enc _ => partsLess_lifted os started H enc)
#print axioms partsLess_holds
end Go.Proofs.Ytngninkkcnalkaa
