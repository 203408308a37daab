/- PartsTrial answers true and leaves its arguments as they were, for every workshop, every trial, every list and every slot, with no condition. -/
import Derived.Test.YtngninkkcnalkaaDOpen
import Derived.Test.YtngninkkcnalkaaDFns4
namespace Go.Proofs.Ytngninkkcnalkaa
open Go.ChangeShapes Go.WideShapes Go.ChangeAt Go.RowKit Go.Eng Go.Joins
def addedSh : Sh := .agg [.int .i64, .int .i64, .int .i64, .int .i64, .sl i1]
theorem ptrial_main (avs : List AV) (h : Sh.fitsL [shopSh, addedSh, askSh] avs) : FnA Try.prog 8 avs (· = .bool true) := by
  simp only [Sh.fitsL] at h
  obtain ⟨v, _, rfl, h1, u, _, rfl, h2, x, _, rfl, h3, rfl⟩ := h
  obtain ⟨w, rfl⟩ := shop_fits h1
  obtain ⟨i, m, k, rfl⟩ := ask_fits h3
  simp only [addedSh, Sh.fitsL, Sh.fits] at h2
  obtain ⟨_, rfl, _, _, rfl, ⟨a, rfl, _⟩, _, _, rfl, ⟨b, rfl, _⟩, _, _, rfl, ⟨c, rfl, _⟩, _, _, rfl, ⟨d, rfl, _⟩, _, _, rfl, ⟨rows, rfl, _, hr⟩, rfl⟩ := h2
  obtain ⟨l, rfl⟩ := rows_fits jAV one_fits hr
  exact k8 w ⟨a, b, c, d⟩ l i m k

set_option maxRecDepth 100000 in
theorem partsTrial_lifted (os : Os) (started : os.Started) (H : Type) (enc : TypeId × Value → H) :
    ReturnsInHanded {} Try.checked os 8 .any (Rows.partsTrialSpec.pre6 enc Try.prog Try.f8 Rows.partsTrialRow.domain false) (Rows.partsTrialSpec.post enc Try.prog Try.f8 false true false false) :=
  returnsInHanded_of_change (C := Try.checked) Try.own started (by kernel_rfl) Try.func8
    (ChangeSpec.witness6 (enc := enc) (C := Try.checked) false ⟨#[], #[.agg #[.slice none 0 0, .slice none 0 0, .int .i64 0, .slice none 0 0], .agg #[.int .i64 0, .int .i64 0, .int .i64 0, .int .i64 0, .slice none 0 0], .agg #[.int .i64 0, .int .i64 0, .int .i64 0]], []⟩ 12 (by kernel_rfl) (by kernel_rfl) (by kernel_rfl) (by kernel_rfl))
    (fun W base args ds gs before hval hW _ _ => lift_true (C := Try.checked) (s := Rows.partsTrialSpec) (ss := [shopSh, addedSh, askSh]) Try.laidOut rfl rfl (by kernel_rfl) (by kernel_rfl) (by kernel_rfl)
        (fun ds hds => by
          match ds, hds with
          | [d1, d2, d3], _ => exact ⟨rfl, rfl, rfl⟩) ptrial_main W base args ds gs before hval hW)

set_option maxRecDepth 100000 in
theorem partsTrial_holds : Rows.PartsTrialSaid :=
  OpenClaim.holds_of_wide 8 Try.f8 rfl rfl rfl rfl rfl rfl rfl ⟨rfl, rfl, rfl, rfl, rfl⟩ rfl rfl rfl rfl rfl (by kernel_rfl) Try.func8 (by kernel_rfl)
    (of_decide_eq_true (by kernel_rfl)) (by unfold Func.isWrapper; first | (rw [if_pos (by decide +kernel)]; kernel_rfl) | (rw [if_neg (by decide +kernel)]; exact ⟨rfl, rfl⟩))
    (fun os started H enc _ => partsTrial_lifted os started H enc)
#print axioms partsTrial_holds
end Go.Proofs.Ytngninkkcnalkaa
