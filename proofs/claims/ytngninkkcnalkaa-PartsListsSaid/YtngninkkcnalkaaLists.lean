/- PartsLists answers true and leaves its arguments as they were, for every workshop and every list of spares, with no condition. -/
import Derived.Test.YtngninkkcnalkaaBOpen
import Derived.Test.YtngninkkcnalkaaBFns4
namespace Go.Proofs.Ytngninkkcnalkaa
open Go.ChangeShapes Go.WideShapes Go.ChangeAt Go.RowKit Go.Eng Go.Joins
theorem plists_main (avs : List AV) (h : Sh.fitsL [shopSh, .sl i1] avs) : FnA Try.prog 9 avs (· = .bool true) := by
  simp only [Sh.fitsL] at h
  obtain ⟨v, _, rfl, h1, u, _, rfl, h2, rfl⟩ := h
  obtain ⟨w, rfl⟩ := shop_fits h1
  obtain ⟨l, rfl⟩ := list_fits h2
  exact k9 w l

set_option maxRecDepth 100000 in
theorem partsLists_lifted (os : Os) (started : os.Started) (H : Type) (enc : TypeId × Value → H) :
    ReturnsInHanded {} Try.checked os 9 .any (Rows.partsListsSpec.pre6 enc Try.prog Try.f9 Rows.partsListsRow.domain false) (Rows.partsListsSpec.post enc Try.prog Try.f9 false true false false) :=
  returnsInHanded_of_change (C := Try.checked) Try.own started (by kernel_rfl) Try.func9
    (ChangeSpec.witness6 (enc := enc) (C := Try.checked) false ⟨#[], #[.agg #[.slice none 0 0, .slice none 0 0, .int .i64 0, .slice none 0 0], .slice none 0 0], []⟩ 12 (by kernel_rfl) (by kernel_rfl) (by kernel_rfl) (by kernel_rfl))
    (fun W base args ds gs before hval hW _ _ => lift_true (C := Try.checked) (s := Rows.partsListsSpec) (ss := [shopSh, .sl i1]) Try.laidOut rfl rfl (by kernel_rfl) (by kernel_rfl) (by kernel_rfl)
        (fun ds hds => by
          match ds, hds with
          | [d1, d2], _ => exact ⟨rfl, rfl, rfl⟩) plists_main W base args ds gs before hval hW)

set_option maxRecDepth 100000 in
theorem partsLists_holds : Rows.PartsListsSaid :=
  OpenClaim.holds_of_wide 9 Try.f9 rfl rfl rfl rfl rfl rfl rfl ⟨rfl, rfl, rfl, rfl, rfl⟩ rfl rfl rfl rfl rfl (by kernel_rfl) Try.func9 (by kernel_rfl)
    (of_decide_eq_true (by kernel_rfl)) (by unfold Func.isWrapper; first | (rw [if_pos (by decide +kernel)]; kernel_rfl) | (rw [if_neg (by decide +kernel)]; exact ⟨rfl, rfl⟩))
    (fun os started H enc _ => partsLists_lifted os started H enc)
#print axioms partsLists_holds
end Go.Proofs.Ytngninkkcnalkaa
