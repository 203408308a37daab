/- SeamsSooner answers true and leaves its arguments as they were, for every figure and every list of minutes, with no condition. -/
import Derived.Test.YtkkpokakjblenaaGOpen
import Derived.Test.YtkkpokakjblenaaGFns3
namespace Go.Proofs.Ytkkpokakjblenaa
open Go.ChangeShapes Go.WideShapes Go.ChangeAt Go.RowKit Go.Eng Go.Joins
theorem ssooner_main (avs : List AV) (h : Sh.fitsL [figSh, .sl i1] avs) : FnA Try.prog 7 avs (· = .bool true) := by
  simp only [Sh.fitsL] at h
  obtain ⟨v, _, rfl, h1, u, _, rfl, h2, rfl⟩ := h
  obtain ⟨f, rfl⟩ := fig_fits h1
  obtain ⟨l1, rfl⟩ := list_fits h2
  exact l7 f l1

set_option maxRecDepth 100000 in
theorem seamsSooner_lifted (os : Os) (started : os.Started) (H : Type) (enc : TypeId × Value → H) :
    ReturnsInHanded {} Try.checked os 7 .any (Rows.seamsSoonerSpec.pre6 enc Try.prog Try.f7 Rows.seamsSoonerRow.domain false) (Rows.seamsSoonerSpec.post enc Try.prog Try.f7 false true false false) :=
  returnsInHanded_of_change (C := Try.checked) Try.own started (by kernel_rfl) Try.func7
    (ChangeSpec.witness6 (enc := enc) (C := Try.checked) false ⟨#[], #[.agg #[.slice none 0 0, .slice none 0 0, .int .i64 0, .slice none 0 0, .slice none 0 0, .int .i64 0, .int .i64 0, .int .i64 0, .int .i64 0, .slice none 0 0, .slice none 0 0], .slice none 0 0], []⟩ 12 (by kernel_rfl) (by kernel_rfl) (by kernel_rfl) (by kernel_rfl))
    (fun W base args ds gs before hval hW _ _ => lift_true (C := Try.checked) (s := Rows.seamsSoonerSpec) (ss := [figSh, .sl i1]) Try.laidOut rfl rfl (by kernel_rfl) (by kernel_rfl) (by kernel_rfl)
        (fun ds hds => by
          match ds, hds with
          | [d1, d2], _ => exact ⟨rfl, rfl, rfl⟩) ssooner_main W base args ds gs before hval hW)

set_option maxRecDepth 100000 in
theorem seamsSooner_holds : Rows.SeamsSoonerSaid :=
  OpenClaim.holds_of_wide 7 Try.f7 rfl rfl rfl rfl rfl rfl rfl ⟨rfl, rfl, rfl, rfl, rfl⟩ rfl rfl rfl rfl rfl (by kernel_rfl) Try.func7 (by kernel_rfl)
    (of_decide_eq_true (by kernel_rfl)) (by unfold Func.isWrapper; first | (rw [if_pos (by decide +kernel)]; kernel_rfl) | (rw [if_neg (by decide +kernel)]; exact ⟨rfl, rfl⟩))
    (fun os started H enc _ => seamsSooner_lifted os started H enc)
#print axioms seamsSooner_holds
end Go.Proofs.Ytkkpokakjblenaa
