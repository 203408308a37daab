/- StandsSwaps answers true and leaves its argument as it was, for every list of numbers, with no condition. -/
import Derived.Test.YtjdklkkmmlephaaOpen
namespace Go.Proofs.Ytjdklkkmmlephaa
open Go.ChangeShapes Go.WideShapes Go.ChangeAt Go.RowKit Go.Eng Go.Joins
theorem swaps_main (avs : List AV) (h : Sh.fitsL [.sl i1] avs) : FnA Try.prog 13 avs (· = .bool true) := by
  simp only [Sh.fitsL] at h
  obtain ⟨v, _, rfl, h1, rfl⟩ := h
  obtain ⟨t, rfl⟩ := list_fits h1
  exact l13 t

set_option maxRecDepth 100000 in
theorem standsSwaps_lifted (os : Os) (started : os.Started) (H : Type) (enc : TypeId × Value → H) :
    ReturnsInHanded {} Try.checked os 13 .any (Rows.standsSwapsSpec.pre6 enc Try.prog Try.f13 Rows.standsSwapsRow.domain false) (Rows.standsSwapsSpec.post enc Try.prog Try.f13 false true false false) :=
  returnsInHanded_of_change (C := Try.checked) Try.own started (by kernel_rfl) Try.func13
    (ChangeSpec.witness6 (enc := enc) (C := Try.checked) false ⟨#[], #[.slice none 0 0], []⟩ 12 (by kernel_rfl) (by kernel_rfl) (by kernel_rfl) (by kernel_rfl))
    (fun W base args ds gs before hval hW _ _ => lift_true (C := Try.checked) (s := Rows.standsSwapsSpec) (ss := [.sl i1]) Try.laidOut rfl rfl (by kernel_rfl) (by kernel_rfl) (by kernel_rfl)
        (fun ds hds => by
          match ds, hds with
          | [d1], _ => exact ⟨rfl, rfl, rfl⟩) swaps_main W base args ds gs before hval hW)

set_option maxRecDepth 100000 in
theorem standsSwaps_holds : Rows.StandsSwapsSaid :=
  OpenClaim.holds_of_wide 13 Try.f13 rfl rfl rfl rfl rfl rfl rfl ⟨rfl, rfl, rfl, rfl, rfl⟩ rfl rfl rfl rfl rfl (by kernel_rfl) Try.func13 (by kernel_rfl)
    (of_decide_eq_true (by kernel_rfl)) (by unfold Func.isWrapper; first | (rw [if_pos (by decide +kernel)]; kernel_rfl) | (rw [if_neg (by decide +kernel)]; exact ⟨rfl, rfl⟩))
    (fun os started H enc _ => standsSwaps_lifted os started H enc)
#print axioms standsSwaps_holds
end Go.Proofs.Ytjdklkkmmlephaa
