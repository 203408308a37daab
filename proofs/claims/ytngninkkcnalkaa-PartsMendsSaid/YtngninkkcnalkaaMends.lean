/- PartsMends answers true and leaves its arguments as they were, for every workshop, every list of spares and every make, with no condition. -/
import Derived.Test.YtngninkkcnalkaaBOpen
import Derived.Test.YtngninkkcnalkaaBFns4
namespace Go.Proofs.Ytngninkkcnalkaa
open Go.ChangeShapes Go.WideShapes Go.ChangeAt Go.RowKit Go.Eng Go.Joins
theorem pmends_main (avs : List AV) (h : Sh.fitsL [shopSh, .sl i1, .int .i64] avs) : FnA Try.prog 4 avs (· = .bool true) := by
  simp only [Sh.fitsL] at h
  obtain ⟨v, _, rfl, h1, u, _, rfl, h2, x, _, rfl, h3, rfl⟩ := h
  obtain ⟨w, rfl⟩ := shop_fits h1
  obtain ⟨l, rfl⟩ := list_fits h2
  obtain ⟨m, rfl, _⟩ := int_fits h3
  exact k4 w l m

set_option maxRecDepth 100000 in
theorem partsMends_lifted (os : Os) (started : os.Started) (H : Type) (enc : TypeId × Value → H) :
    ReturnsInHanded {} Try.checked os 4 .any (Rows.partsMendsSpec.pre6 enc Try.prog Try.f4 Rows.partsMendsRow.domain false) (Rows.partsMendsSpec.post enc Try.prog Try.f4 false true false false) :=
  returnsInHanded_of_change (C := Try.checked) Try.own started (by kernel_rfl) Try.func4
    (ChangeSpec.witness6 (enc := enc) (C := Try.checked) false ⟨#[], #[.agg #[.slice none 0 0, .slice none 0 0, .int .i64 0, .slice none 0 0], .slice none 0 0, .int .i64 0], []⟩ 12 (by kernel_rfl) (by kernel_rfl) (by kernel_rfl) (by kernel_rfl))
    (fun W base args ds gs before hval hW _ _ => lift_true (C := Try.checked) (s := Rows.partsMendsSpec) (ss := [shopSh, .sl i1, .int .i64]) Try.laidOut rfl rfl (by kernel_rfl) (by kernel_rfl) (by kernel_rfl)
        (fun ds hds => by
          match ds, hds with
          | [d1, d2, d3], _ => exact ⟨rfl, rfl, rfl⟩) pmends_main W base args ds gs before hval hW)

set_option maxRecDepth 100000 in
theorem partsMends_holds : Rows.PartsMendsSaid :=
  OpenClaim.holds_of_wide 4 Try.f4 rfl rfl rfl rfl rfl rfl rfl ⟨rfl, rfl, rfl, rfl, rfl⟩ rfl rfl rfl rfl rfl (by kernel_rfl) Try.func4 (by kernel_rfl)
    (of_decide_eq_true (by kernel_rfl)) (by unfold Func.isWrapper; first | (rw [if_pos (by decide +kernel)]; kernel_rfl) | (rw [if_neg (by decide +kernel)]; exact ⟨rfl, rfl⟩))
    (fun os started H enc _ => partsMends_lifted os started H enc)
#print axioms partsMends_holds
end Go.Proofs.Ytngninkkcnalkaa
